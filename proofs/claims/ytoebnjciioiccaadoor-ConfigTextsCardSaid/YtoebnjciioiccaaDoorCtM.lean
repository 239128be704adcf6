/- The law ConfigTexts. -/
import Derived.Test.YtoebnjciioiccaaDoorCtL
import Derived.Test.YtoebnjciioiccaaDoorLaws
namespace Go.Proofs
namespace YtoebnjciioiccaaDoor
namespace Ct
open Go.RowKit

/-- a box that holds five numbers -/
def Box (W : World) (b : Nat) (C N S K Q : Int) : Prop :=
  b < W.heap.size ∧ W.cell? ⟨b, 0, none⟩ = some (.int .i64 C) ∧ W.cell? ⟨b, 1, none⟩ = some (.int .i64 N) ∧ W.cell? ⟨b, 2, none⟩ = some (.int .i64 S) ∧ W.cell? ⟨b, 3, none⟩ = some (.int .i64 K) ∧ W.cell? ⟨b, 4, none⟩ = some (.int .i64 Q)
theorem Box.new (w : World) (C N S K Q : Int) : Box (w.alloc (.cells #[.int .i64 C, .int .i64 N, .int .i64 S, .int .i64 K, .int .i64 Q] 23)) w.heap.size C N S K Q :=
  ⟨by simp, by simp, by simp, by simp, by simp, by simp⟩
theorem Box.next {W W' : World} {b : Nat} {C N S K Q : Int} (h : Box W b C N S K Q) (hb : Below W.heap.size W W') : Box W' b C N S K Q := by
  obtain ⟨hz, h0, h1, h2, h3, h4⟩ := h
  have e : ∀ i, W'.cell? ⟨b, i, none⟩ = W.cell? ⟨b, i, none⟩ := fun i => hb.cell (p := ⟨b, i, none⟩) hz
  exact ⟨Nat.lt_of_lt_of_le hz hb.size, by rw [e, h0], by rw [e, h1], by rw [e, h2], by rw [e, h3], by rw [e, h4]⟩
theorem Box.more {W : World} {b : Nat} {C N S K Q : Int} (h : Box W b C N S K Q) (o : Obj) : Box (W.alloc o) b C N S K Q := h.next ((Below.refl _ _).alloc (Nat.le_refl _) _)

theorem back34 (C N S K Q : Int) (hg : good C N S K Q) (W : World) (hW : Laid W) :
    Calls Tryd.prog 34 #[.string ⟨(textL [C, N, S, K, Q]).toArray⟩] W fun x w' => x = .returned (.tuple #[.agg #[.int .i64 C, .int .i64 N, .int .i64 S, .int .i64 K, .int .i64 Q], .int .i64 0]) ∧ Below W.heap.size W w' := by
  have hp := parse_print C N S K Q hg
  have hl := parts_lens C N S K Q hg
  have h := parse34 ⟨(textL [C, N, S, K, Q]).toArray⟩ W hW (by simp [ByteArray.size]; omega)
  have e : (⟨(textL [C, N, S, K, Q]).toArray⟩ : ByteArray).data.toList = textL [C, N, S, K, Q] := by simp
  rw [e, hp.1, hp.2] at h
  exact h
set_option maxRecDepth 100000 in
set_option maxHeartbeats 4000000 in
theorem texts6_yy (C N S K Q a0 a1 a2 a3 a4 : Int) (T s : ByteArray) (w : World) (hs : (s.size : Int) ≤ 300)
    (HL : Hid (Laid w))
    (F32 : Hid (∀ W : World, Calls Tryd.prog 32 #[.agg #[.int .i64 C, .int .i64 N, .int .i64 S, .int .i64 K, .int .i64 Q]] W fun x w' => x = .returned (.tuple #[.string T, .int .i64 0]) ∧ Below W.heap.size W w'))
    (F33 : Hid (∀ W : World, Calls Tryd.prog 33 #[.agg #[.int .i64 C, .int .i64 N, .int .i64 S, .int .i64 K, .int .i64 Q]] W fun x w' => x = .returned (.tuple #[.string T, .int .i64 0]) ∧ Below W.heap.size W w'))
    (F34 : Hid (∀ W : World, Laid W → Calls Tryd.prog 34 #[.string s] W fun x w' => x = .returned (.tuple #[.agg #[.int .i64 a0, .int .i64 a1, .int .i64 a2, .int .i64 a3, .int .i64 a4], .int .i64 0]) ∧ Below W.heap.size W w'))
    (F35 : Hid (∀ W : World, Calls Tryd.prog 35 #[.string s] W fun x w' => x = .returned (.tuple #[.agg #[.int .i64 a0, .int .i64 a1, .int .i64 a2, .int .i64 a3, .int .i64 a4], .int .i64 0]) ∧ Below W.heap.size W w'))
    (P34 : Hid (∀ W : World, Laid W → Calls Tryd.prog 34 #[.string T] W fun x w' => x = .returned (.tuple #[.agg #[.int .i64 C, .int .i64 N, .int .i64 S, .int .i64 K, .int .i64 Q], .int .i64 0]) ∧ Below W.heap.size W w'))
    (P32 : Hid (∀ W : World, Calls Tryd.prog 32 #[.agg #[.int .i64 a0, .int .i64 a1, .int .i64 a2, .int .i64 a3, .int .i64 a4]] W fun x w' => x = .returned (.tuple #[.string s, .int .i64 0]) ∧ Below W.heap.size W w')) :
    Calls Tryd.prog 6 #[.agg #[.int .i64 C, .int .i64 N, .int .i64 S, .int .i64 K, .int .i64 Q], .string s] w fun x w' => x = .returned (.bool true) ∧ Below w.heap.size w w' := by
  have q0 : decide ((300 : Int) < (s.size : Int)) = false := decide_eq_false (by omega)
  have b0 := Lib.hid (Box.new w C N S K Q)
  have B0 := Lib.hid ((Below.refl w.heap.size w).alloc (Nat.le_refl _) (.cells #[.int .i64 C, .int .i64 N, .int .i64 S, .int .i64 K, .int .i64 Q] 23))
  have hNC : ∀ W, (binOp .neq 23 (.agg #[.int .i64 a0, .int .i64 a1, .int .i64 a2, .int .i64 a3, .int .i64 a4]) (.agg #[.int .i64 a0, .int .i64 a1, .int .i64 a2, .int .i64 a3, .int .i64 a4])).run Tryd.prog W = .ok (.bool false) W := fun W => by
    rw [neq23', decide_eq_true rfl]; rfl
  have hNB : ∀ W, (binOp .neq 23 (.agg #[.int .i64 C, .int .i64 N, .int .i64 S, .int .i64 K, .int .i64 Q]) (.agg #[.int .i64 C, .int .i64 N, .int .i64 S, .int .i64 K, .int .i64 Q])).run Tryd.prog W = .ok (.bool false) W := fun W => by
    rw [neq23', decide_eq_true rfl]; rfl
  go_enter Tryd.func6, Tryd.ntmps6
  go_upto_region 4 with (go_at_call 32; refine (F32.out _).mono ?_; rintro x w1 ⟨rfl, hb1⟩; have b1 := Lib.hid (b0.out.next hb1); have B1 := Lib.hid (B0.out.trans (hb1.mono B0.out.size)); obtain ⟨z1, c10, c11, c12, c13, c14⟩ := b1.out; clear hb1)
  go_upto_region 5 with (go_at_call 33; refine (F33.out _).mono ?_; rintro x w2 ⟨rfl, hb2⟩; have b2 := Lib.hid (b1.out.next hb2); have B2 := Lib.hid (B1.out.trans (hb2.mono B1.out.size)); clear z1 c10 c11 c12 c13 c14 hb2)
  go_upto_region 6 with (go_at_call 34; refine (F34.out _ (HL.out.below B2.out)).mono ?_; rintro x w3 ⟨rfl, hb3⟩; have b3 := Lib.hid (b2.out.next hb3); have B3 := Lib.hid (B2.out.trans (hb3.mono B2.out.size)); clear hb3)
  have b4 := Lib.hid (b3.out.more (.cells #[.int .i64 a0, .int .i64 a1, .int .i64 a2, .int .i64 a3, .int .i64 a4] 23))
  have d4 := Lib.hid (Box.new w3 a0 a1 a2 a3 a4)
  have B4 := Lib.hid (B3.out.alloc B3.out.size (.cells #[.int .i64 a0, .int .i64 a1, .int .i64 a2, .int .i64 a3, .int .i64 a4] 23))
  clear b0 b1 b2 b3 B0 B1 B2 B3
  generalize w3.heap.size = A9 at *
  generalize w3.alloc (.cells #[.int .i64 a0, .int .i64 a1, .int .i64 a2, .int .i64 a3, .int .i64 a4] 23) = w4 at *
  go_upto_region 7 with (go_at_call 35; refine (F35.out _).mono ?_; rintro x w5 ⟨rfl, hb5⟩; have b5 := Lib.hid (b4.out.next hb5); have d5 := Lib.hid (d4.out.next hb5); have B5 := Lib.hid (B4.out.trans (hb5.mono B4.out.size)); clear hb5)
  have b6 := Lib.hid (b5.out.more (.cells #[.int .i64 a0, .int .i64 a1, .int .i64 a2, .int .i64 a3, .int .i64 a4] 23))
  have d6 := Lib.hid (d5.out.more (.cells #[.int .i64 a0, .int .i64 a1, .int .i64 a2, .int .i64 a3, .int .i64 a4] 23))
  have f6 := Lib.hid (Box.new w5 a0 a1 a2 a3 a4)
  have B6 := Lib.hid (B5.out.alloc B5.out.size (.cells #[.int .i64 a0, .int .i64 a1, .int .i64 a2, .int .i64 a3, .int .i64 a4] 23))
  clear b4 b5 d4 d5 B4 B5
  generalize w5.heap.size = A11 at *
  generalize w5.alloc (.cells #[.int .i64 a0, .int .i64 a1, .int .i64 a2, .int .i64 a3, .int .i64 a4] 23) = w6 at *
  obtain ⟨z6, d60, d61, d62, d63, d64⟩ := d6.out
  obtain ⟨y6, f60, f61, f62, f63, f64⟩ := f6.out
  go_upto_region 10 with (fail)
  clear z6 d60 d61 d62 d63 d64 y6 f60 f61 f62 f63 f64
  go_upto_region 11 with (go_at_call 34; refine (P34.out _ (HL.out.below B6.out)).mono ?_; rintro x w7 ⟨rfl, hb7⟩; have b7 := Lib.hid (b6.out.next hb7); have d7 := Lib.hid (d6.out.next hb7); have B7 := Lib.hid (B6.out.trans (hb7.mono B6.out.size)); clear hb7)
  have b8 := Lib.hid (b7.out.more (.cells #[.int .i64 C, .int .i64 N, .int .i64 S, .int .i64 K, .int .i64 Q] 23))
  have d8 := Lib.hid (d7.out.more (.cells #[.int .i64 C, .int .i64 N, .int .i64 S, .int .i64 K, .int .i64 Q] 23))
  have f8 := Lib.hid (Box.new w7 C N S K Q)
  have B8 := Lib.hid (B7.out.alloc B7.out.size (.cells #[.int .i64 C, .int .i64 N, .int .i64 S, .int .i64 K, .int .i64 Q] 23))
  clear b6 b7 d6 d7 f6 B6 B7
  generalize w7.heap.size = A13 at *
  generalize w7.alloc (.cells #[.int .i64 C, .int .i64 N, .int .i64 S, .int .i64 K, .int .i64 Q] 23) = w8 at *
  obtain ⟨z8, b80, b81, b82, b83, b84⟩ := b8.out
  obtain ⟨y8, f80, f81, f82, f83, f84⟩ := f8.out
  go_upto_region 14 with (fail)
  clear z8 b80 b81 b82 b83 b84 y8 f80 f81 f82 f83 f84
  obtain ⟨z9, d90, d91, d92, d93, d94⟩ := d8.out
  go_upto_region 15 with (go_at_call 32; refine (P32.out _).mono ?_; rintro x wa ⟨rfl, hba⟩; have Ba := Lib.hid (B8.out.trans (hba.mono B8.out.size)); clear hba)
  clear z9 d90 d91 d92 d93 d94
  go_wp2_with (go_at_call 15; refine (awake15 _).mono ?_; rintro x wz ⟨rfl, hbz⟩; have Bz := Lib.hid (Ba.out.trans (hbz.mono Ba.out.size)))
  go_ret
  exact ⟨rfl, Bz.out⟩
set_option maxRecDepth 100000 in
set_option maxHeartbeats 4000000 in
theorem texts6_ny (C N S K Q a0 a1 a2 a3 a4 e : Int) (T s : ByteArray) (w : World) (hs : (s.size : Int) ≤ 300)
    (HL : Hid (Laid w))
    (F32 : Hid (∀ W : World, Calls Tryd.prog 32 #[.agg #[.int .i64 C, .int .i64 N, .int .i64 S, .int .i64 K, .int .i64 Q]] W fun x w' => x = .returned (.tuple #[.string T, .int .i64 e]) ∧ Below W.heap.size W w'))
    (F33 : Hid (∀ W : World, Calls Tryd.prog 33 #[.agg #[.int .i64 C, .int .i64 N, .int .i64 S, .int .i64 K, .int .i64 Q]] W fun x w' => x = .returned (.tuple #[.string T, .int .i64 e]) ∧ Below W.heap.size W w'))
    (F34 : Hid (∀ W : World, Laid W → Calls Tryd.prog 34 #[.string s] W fun x w' => x = .returned (.tuple #[.agg #[.int .i64 a0, .int .i64 a1, .int .i64 a2, .int .i64 a3, .int .i64 a4], .int .i64 0]) ∧ Below W.heap.size W w'))
    (F35 : Hid (∀ W : World, Calls Tryd.prog 35 #[.string s] W fun x w' => x = .returned (.tuple #[.agg #[.int .i64 a0, .int .i64 a1, .int .i64 a2, .int .i64 a3, .int .i64 a4], .int .i64 0]) ∧ Below W.heap.size W w')) (he : e ≠ 0)
    (P32 : Hid (∀ W : World, Calls Tryd.prog 32 #[.agg #[.int .i64 a0, .int .i64 a1, .int .i64 a2, .int .i64 a3, .int .i64 a4]] W fun x w' => x = .returned (.tuple #[.string s, .int .i64 0]) ∧ Below W.heap.size W w')) :
    Calls Tryd.prog 6 #[.agg #[.int .i64 C, .int .i64 N, .int .i64 S, .int .i64 K, .int .i64 Q], .string s] w fun x w' => x = .returned (.bool true) ∧ Below w.heap.size w w' := by
  have q0 : decide ((300 : Int) < (s.size : Int)) = false := decide_eq_false (by omega)
  have qe : (e == 0) = false := by simpa using he
  clear he
  have b0 := Lib.hid (Box.new w C N S K Q)
  have B0 := Lib.hid ((Below.refl w.heap.size w).alloc (Nat.le_refl _) (.cells #[.int .i64 C, .int .i64 N, .int .i64 S, .int .i64 K, .int .i64 Q] 23))
  have hNC : ∀ W, (binOp .neq 23 (.agg #[.int .i64 a0, .int .i64 a1, .int .i64 a2, .int .i64 a3, .int .i64 a4]) (.agg #[.int .i64 a0, .int .i64 a1, .int .i64 a2, .int .i64 a3, .int .i64 a4])).run Tryd.prog W = .ok (.bool false) W := fun W => by
    rw [neq23', decide_eq_true rfl]; rfl
  have hNB : ∀ W, (binOp .neq 23 (.agg #[.int .i64 C, .int .i64 N, .int .i64 S, .int .i64 K, .int .i64 Q]) (.agg #[.int .i64 C, .int .i64 N, .int .i64 S, .int .i64 K, .int .i64 Q])).run Tryd.prog W = .ok (.bool false) W := fun W => by
    rw [neq23', decide_eq_true rfl]; rfl
  go_enter Tryd.func6, Tryd.ntmps6
  go_upto_region 4 with (go_at_call 32; refine (F32.out _).mono ?_; rintro x w1 ⟨rfl, hb1⟩; have b1 := Lib.hid (b0.out.next hb1); have B1 := Lib.hid (B0.out.trans (hb1.mono B0.out.size)); obtain ⟨z1, c10, c11, c12, c13, c14⟩ := b1.out; clear hb1)
  go_upto_region 5 with (go_at_call 33; refine (F33.out _).mono ?_; rintro x w2 ⟨rfl, hb2⟩; have b2 := Lib.hid (b1.out.next hb2); have B2 := Lib.hid (B1.out.trans (hb2.mono B1.out.size)); clear z1 c10 c11 c12 c13 c14 hb2)
  go_upto_region 6 with (go_at_call 34; refine (F34.out _ (HL.out.below B2.out)).mono ?_; rintro x w3 ⟨rfl, hb3⟩; have b3 := Lib.hid (b2.out.next hb3); have B3 := Lib.hid (B2.out.trans (hb3.mono B2.out.size)); clear hb3)
  have b4 := Lib.hid (b3.out.more (.cells #[.int .i64 a0, .int .i64 a1, .int .i64 a2, .int .i64 a3, .int .i64 a4] 23))
  have d4 := Lib.hid (Box.new w3 a0 a1 a2 a3 a4)
  have B4 := Lib.hid (B3.out.alloc B3.out.size (.cells #[.int .i64 a0, .int .i64 a1, .int .i64 a2, .int .i64 a3, .int .i64 a4] 23))
  clear b0 b1 b2 b3 B0 B1 B2 B3
  generalize w3.heap.size = A9 at *
  generalize w3.alloc (.cells #[.int .i64 a0, .int .i64 a1, .int .i64 a2, .int .i64 a3, .int .i64 a4] 23) = w4 at *
  go_upto_region 7 with (go_at_call 35; refine (F35.out _).mono ?_; rintro x w5 ⟨rfl, hb5⟩; have b5 := Lib.hid (b4.out.next hb5); have d5 := Lib.hid (d4.out.next hb5); have B5 := Lib.hid (B4.out.trans (hb5.mono B4.out.size)); clear hb5)
  have b6 := Lib.hid (b5.out.more (.cells #[.int .i64 a0, .int .i64 a1, .int .i64 a2, .int .i64 a3, .int .i64 a4] 23))
  have d6 := Lib.hid (d5.out.more (.cells #[.int .i64 a0, .int .i64 a1, .int .i64 a2, .int .i64 a3, .int .i64 a4] 23))
  have f6 := Lib.hid (Box.new w5 a0 a1 a2 a3 a4)
  have B6 := Lib.hid (B5.out.alloc B5.out.size (.cells #[.int .i64 a0, .int .i64 a1, .int .i64 a2, .int .i64 a3, .int .i64 a4] 23))
  clear b4 b5 d4 d5 B4 B5
  generalize w5.heap.size = A11 at *
  generalize w5.alloc (.cells #[.int .i64 a0, .int .i64 a1, .int .i64 a2, .int .i64 a3, .int .i64 a4] 23) = w6 at *
  obtain ⟨z6, d60, d61, d62, d63, d64⟩ := d6.out
  obtain ⟨y6, f60, f61, f62, f63, f64⟩ := f6.out
  go_upto_region 14 with (fail)
  clear z6 d60 d61 d62 d63 d64 y6 f60 f61 f62 f63 f64
  obtain ⟨z9, d90, d91, d92, d93, d94⟩ := d6.out
  go_upto_region 15 with (go_at_call 32; refine (P32.out _).mono ?_; rintro x wa ⟨rfl, hba⟩; have Ba := Lib.hid (B6.out.trans (hba.mono B6.out.size)); clear hba)
  clear z9 d90 d91 d92 d93 d94
  go_wp2_with (go_at_call 15; refine (awake15 _).mono ?_; rintro x wz ⟨rfl, hbz⟩; have Bz := Lib.hid (Ba.out.trans (hbz.mono Ba.out.size)))
  go_ret
  exact ⟨rfl, Bz.out⟩
set_option maxRecDepth 100000 in
set_option maxHeartbeats 4000000 in
theorem texts6_yn (C N S K Q a0 a1 a2 a3 a4 g : Int) (T s : ByteArray) (w : World) (hs : (s.size : Int) ≤ 300)
    (HL : Hid (Laid w))
    (F32 : Hid (∀ W : World, Calls Tryd.prog 32 #[.agg #[.int .i64 C, .int .i64 N, .int .i64 S, .int .i64 K, .int .i64 Q]] W fun x w' => x = .returned (.tuple #[.string T, .int .i64 0]) ∧ Below W.heap.size W w'))
    (F33 : Hid (∀ W : World, Calls Tryd.prog 33 #[.agg #[.int .i64 C, .int .i64 N, .int .i64 S, .int .i64 K, .int .i64 Q]] W fun x w' => x = .returned (.tuple #[.string T, .int .i64 0]) ∧ Below W.heap.size W w'))
    (F34 : Hid (∀ W : World, Laid W → Calls Tryd.prog 34 #[.string s] W fun x w' => x = .returned (.tuple #[.agg #[.int .i64 a0, .int .i64 a1, .int .i64 a2, .int .i64 a3, .int .i64 a4], .int .i64 g]) ∧ Below W.heap.size W w'))
    (F35 : Hid (∀ W : World, Calls Tryd.prog 35 #[.string s] W fun x w' => x = .returned (.tuple #[.agg #[.int .i64 a0, .int .i64 a1, .int .i64 a2, .int .i64 a3, .int .i64 a4], .int .i64 g]) ∧ Below W.heap.size W w')) (hg : g ≠ 0)
    (P34 : Hid (∀ W : World, Laid W → Calls Tryd.prog 34 #[.string T] W fun x w' => x = .returned (.tuple #[.agg #[.int .i64 C, .int .i64 N, .int .i64 S, .int .i64 K, .int .i64 Q], .int .i64 0]) ∧ Below W.heap.size W w')) :
    Calls Tryd.prog 6 #[.agg #[.int .i64 C, .int .i64 N, .int .i64 S, .int .i64 K, .int .i64 Q], .string s] w fun x w' => x = .returned (.bool true) ∧ Below w.heap.size w w' := by
  have q0 : decide ((300 : Int) < (s.size : Int)) = false := decide_eq_false (by omega)
  have qg : (g == 0) = false := by simpa using hg
  clear hg
  have b0 := Lib.hid (Box.new w C N S K Q)
  have B0 := Lib.hid ((Below.refl w.heap.size w).alloc (Nat.le_refl _) (.cells #[.int .i64 C, .int .i64 N, .int .i64 S, .int .i64 K, .int .i64 Q] 23))
  have hNC : ∀ W, (binOp .neq 23 (.agg #[.int .i64 a0, .int .i64 a1, .int .i64 a2, .int .i64 a3, .int .i64 a4]) (.agg #[.int .i64 a0, .int .i64 a1, .int .i64 a2, .int .i64 a3, .int .i64 a4])).run Tryd.prog W = .ok (.bool false) W := fun W => by
    rw [neq23', decide_eq_true rfl]; rfl
  have hNB : ∀ W, (binOp .neq 23 (.agg #[.int .i64 C, .int .i64 N, .int .i64 S, .int .i64 K, .int .i64 Q]) (.agg #[.int .i64 C, .int .i64 N, .int .i64 S, .int .i64 K, .int .i64 Q])).run Tryd.prog W = .ok (.bool false) W := fun W => by
    rw [neq23', decide_eq_true rfl]; rfl
  go_enter Tryd.func6, Tryd.ntmps6
  go_upto_region 4 with (go_at_call 32; refine (F32.out _).mono ?_; rintro x w1 ⟨rfl, hb1⟩; have b1 := Lib.hid (b0.out.next hb1); have B1 := Lib.hid (B0.out.trans (hb1.mono B0.out.size)); obtain ⟨z1, c10, c11, c12, c13, c14⟩ := b1.out; clear hb1)
  go_upto_region 5 with (go_at_call 33; refine (F33.out _).mono ?_; rintro x w2 ⟨rfl, hb2⟩; have b2 := Lib.hid (b1.out.next hb2); have B2 := Lib.hid (B1.out.trans (hb2.mono B1.out.size)); clear z1 c10 c11 c12 c13 c14 hb2)
  go_upto_region 6 with (go_at_call 34; refine (F34.out _ (HL.out.below B2.out)).mono ?_; rintro x w3 ⟨rfl, hb3⟩; have b3 := Lib.hid (b2.out.next hb3); have B3 := Lib.hid (B2.out.trans (hb3.mono B2.out.size)); clear hb3)
  have b4 := Lib.hid (b3.out.more (.cells #[.int .i64 a0, .int .i64 a1, .int .i64 a2, .int .i64 a3, .int .i64 a4] 23))
  have d4 := Lib.hid (Box.new w3 a0 a1 a2 a3 a4)
  have B4 := Lib.hid (B3.out.alloc B3.out.size (.cells #[.int .i64 a0, .int .i64 a1, .int .i64 a2, .int .i64 a3, .int .i64 a4] 23))
  clear b0 b1 b2 b3 B0 B1 B2 B3
  generalize w3.heap.size = A9 at *
  generalize w3.alloc (.cells #[.int .i64 a0, .int .i64 a1, .int .i64 a2, .int .i64 a3, .int .i64 a4] 23) = w4 at *
  go_upto_region 7 with (go_at_call 35; refine (F35.out _).mono ?_; rintro x w5 ⟨rfl, hb5⟩; have b5 := Lib.hid (b4.out.next hb5); have d5 := Lib.hid (d4.out.next hb5); have B5 := Lib.hid (B4.out.trans (hb5.mono B4.out.size)); clear hb5)
  have b6 := Lib.hid (b5.out.more (.cells #[.int .i64 a0, .int .i64 a1, .int .i64 a2, .int .i64 a3, .int .i64 a4] 23))
  have d6 := Lib.hid (d5.out.more (.cells #[.int .i64 a0, .int .i64 a1, .int .i64 a2, .int .i64 a3, .int .i64 a4] 23))
  have f6 := Lib.hid (Box.new w5 a0 a1 a2 a3 a4)
  have B6 := Lib.hid (B5.out.alloc B5.out.size (.cells #[.int .i64 a0, .int .i64 a1, .int .i64 a2, .int .i64 a3, .int .i64 a4] 23))
  clear b4 b5 d4 d5 B4 B5
  generalize w5.heap.size = A11 at *
  generalize w5.alloc (.cells #[.int .i64 a0, .int .i64 a1, .int .i64 a2, .int .i64 a3, .int .i64 a4] 23) = w6 at *
  obtain ⟨z6, d60, d61, d62, d63, d64⟩ := d6.out
  obtain ⟨y6, f60, f61, f62, f63, f64⟩ := f6.out
  go_upto_region 10 with (fail)
  clear z6 d60 d61 d62 d63 d64 y6 f60 f61 f62 f63 f64
  go_upto_region 11 with (go_at_call 34; refine (P34.out _ (HL.out.below B6.out)).mono ?_; rintro x w7 ⟨rfl, hb7⟩; have b7 := Lib.hid (b6.out.next hb7); have d7 := Lib.hid (d6.out.next hb7); have B7 := Lib.hid (B6.out.trans (hb7.mono B6.out.size)); clear hb7)
  have b8 := Lib.hid (b7.out.more (.cells #[.int .i64 C, .int .i64 N, .int .i64 S, .int .i64 K, .int .i64 Q] 23))
  have d8 := Lib.hid (d7.out.more (.cells #[.int .i64 C, .int .i64 N, .int .i64 S, .int .i64 K, .int .i64 Q] 23))
  have f8 := Lib.hid (Box.new w7 C N S K Q)
  have B8 := Lib.hid (B7.out.alloc B7.out.size (.cells #[.int .i64 C, .int .i64 N, .int .i64 S, .int .i64 K, .int .i64 Q] 23))
  clear b6 b7 d6 d7 f6 B6 B7
  generalize w7.heap.size = A13 at *
  generalize w7.alloc (.cells #[.int .i64 C, .int .i64 N, .int .i64 S, .int .i64 K, .int .i64 Q] 23) = w8 at *
  obtain ⟨z8, b80, b81, b82, b83, b84⟩ := b8.out
  obtain ⟨y8, f80, f81, f82, f83, f84⟩ := f8.out
  go_wp2_with (go_at_call 15; refine (awake15 _).mono ?_; rintro x wz ⟨rfl, hbz⟩; have Bz := Lib.hid (B8.out.trans (hbz.mono B8.out.size)))
  go_ret
  exact ⟨rfl, Bz.out⟩
set_option maxRecDepth 100000 in
set_option maxHeartbeats 4000000 in
theorem texts6_nn (C N S K Q a0 a1 a2 a3 a4 e g : Int) (T s : ByteArray) (w : World) (hs : (s.size : Int) ≤ 300)
    (HL : Hid (Laid w))
    (F32 : Hid (∀ W : World, Calls Tryd.prog 32 #[.agg #[.int .i64 C, .int .i64 N, .int .i64 S, .int .i64 K, .int .i64 Q]] W fun x w' => x = .returned (.tuple #[.string T, .int .i64 e]) ∧ Below W.heap.size W w'))
    (F33 : Hid (∀ W : World, Calls Tryd.prog 33 #[.agg #[.int .i64 C, .int .i64 N, .int .i64 S, .int .i64 K, .int .i64 Q]] W fun x w' => x = .returned (.tuple #[.string T, .int .i64 e]) ∧ Below W.heap.size W w'))
    (F34 : Hid (∀ W : World, Laid W → Calls Tryd.prog 34 #[.string s] W fun x w' => x = .returned (.tuple #[.agg #[.int .i64 a0, .int .i64 a1, .int .i64 a2, .int .i64 a3, .int .i64 a4], .int .i64 g]) ∧ Below W.heap.size W w'))
    (F35 : Hid (∀ W : World, Calls Tryd.prog 35 #[.string s] W fun x w' => x = .returned (.tuple #[.agg #[.int .i64 a0, .int .i64 a1, .int .i64 a2, .int .i64 a3, .int .i64 a4], .int .i64 g]) ∧ Below W.heap.size W w')) (he : e ≠ 0) (hg : g ≠ 0) :
    Calls Tryd.prog 6 #[.agg #[.int .i64 C, .int .i64 N, .int .i64 S, .int .i64 K, .int .i64 Q], .string s] w fun x w' => x = .returned (.bool true) ∧ Below w.heap.size w w' := by
  have q0 : decide ((300 : Int) < (s.size : Int)) = false := decide_eq_false (by omega)
  have qe : (e == 0) = false := by simpa using he
  clear he
  have qg : (g == 0) = false := by simpa using hg
  clear hg
  have b0 := Lib.hid (Box.new w C N S K Q)
  have B0 := Lib.hid ((Below.refl w.heap.size w).alloc (Nat.le_refl _) (.cells #[.int .i64 C, .int .i64 N, .int .i64 S, .int .i64 K, .int .i64 Q] 23))
  have hNC : ∀ W, (binOp .neq 23 (.agg #[.int .i64 a0, .int .i64 a1, .int .i64 a2, .int .i64 a3, .int .i64 a4]) (.agg #[.int .i64 a0, .int .i64 a1, .int .i64 a2, .int .i64 a3, .int .i64 a4])).run Tryd.prog W = .ok (.bool false) W := fun W => by
    rw [neq23', decide_eq_true rfl]; rfl
  have hNB : ∀ W, (binOp .neq 23 (.agg #[.int .i64 C, .int .i64 N, .int .i64 S, .int .i64 K, .int .i64 Q]) (.agg #[.int .i64 C, .int .i64 N, .int .i64 S, .int .i64 K, .int .i64 Q])).run Tryd.prog W = .ok (.bool false) W := fun W => by
    rw [neq23', decide_eq_true rfl]; rfl
  go_enter Tryd.func6, Tryd.ntmps6
  go_upto_region 4 with (go_at_call 32; refine (F32.out _).mono ?_; rintro x w1 ⟨rfl, hb1⟩; have b1 := Lib.hid (b0.out.next hb1); have B1 := Lib.hid (B0.out.trans (hb1.mono B0.out.size)); obtain ⟨z1, c10, c11, c12, c13, c14⟩ := b1.out; clear hb1)
  go_upto_region 5 with (go_at_call 33; refine (F33.out _).mono ?_; rintro x w2 ⟨rfl, hb2⟩; have b2 := Lib.hid (b1.out.next hb2); have B2 := Lib.hid (B1.out.trans (hb2.mono B1.out.size)); clear z1 c10 c11 c12 c13 c14 hb2)
  go_upto_region 6 with (go_at_call 34; refine (F34.out _ (HL.out.below B2.out)).mono ?_; rintro x w3 ⟨rfl, hb3⟩; have b3 := Lib.hid (b2.out.next hb3); have B3 := Lib.hid (B2.out.trans (hb3.mono B2.out.size)); clear hb3)
  have b4 := Lib.hid (b3.out.more (.cells #[.int .i64 a0, .int .i64 a1, .int .i64 a2, .int .i64 a3, .int .i64 a4] 23))
  have d4 := Lib.hid (Box.new w3 a0 a1 a2 a3 a4)
  have B4 := Lib.hid (B3.out.alloc B3.out.size (.cells #[.int .i64 a0, .int .i64 a1, .int .i64 a2, .int .i64 a3, .int .i64 a4] 23))
  clear b0 b1 b2 b3 B0 B1 B2 B3
  generalize w3.heap.size = A9 at *
  generalize w3.alloc (.cells #[.int .i64 a0, .int .i64 a1, .int .i64 a2, .int .i64 a3, .int .i64 a4] 23) = w4 at *
  go_upto_region 7 with (go_at_call 35; refine (F35.out _).mono ?_; rintro x w5 ⟨rfl, hb5⟩; have b5 := Lib.hid (b4.out.next hb5); have d5 := Lib.hid (d4.out.next hb5); have B5 := Lib.hid (B4.out.trans (hb5.mono B4.out.size)); clear hb5)
  have b6 := Lib.hid (b5.out.more (.cells #[.int .i64 a0, .int .i64 a1, .int .i64 a2, .int .i64 a3, .int .i64 a4] 23))
  have d6 := Lib.hid (d5.out.more (.cells #[.int .i64 a0, .int .i64 a1, .int .i64 a2, .int .i64 a3, .int .i64 a4] 23))
  have f6 := Lib.hid (Box.new w5 a0 a1 a2 a3 a4)
  have B6 := Lib.hid (B5.out.alloc B5.out.size (.cells #[.int .i64 a0, .int .i64 a1, .int .i64 a2, .int .i64 a3, .int .i64 a4] 23))
  clear b4 b5 d4 d5 B4 B5
  generalize w5.heap.size = A11 at *
  generalize w5.alloc (.cells #[.int .i64 a0, .int .i64 a1, .int .i64 a2, .int .i64 a3, .int .i64 a4] 23) = w6 at *
  obtain ⟨z6, d60, d61, d62, d63, d64⟩ := d6.out
  obtain ⟨y6, f60, f61, f62, f63, f64⟩ := f6.out
  go_wp2_with (go_at_call 15; refine (awake15 _).mono ?_; rintro x wz ⟨rfl, hbz⟩; have Bz := Lib.hid (B6.out.trans (hbz.mono B6.out.size)))
  go_ret
  exact ⟨rfl, Bz.out⟩
set_option maxRecDepth 100000 in
theorem texts6_long (C N S K Q : Int) (s : ByteArray) (w : World) (hs : (300 : Int) < (s.size : Int)) :
    Calls Tryd.prog 6 #[.agg #[.int .i64 C, .int .i64 N, .int .i64 S, .int .i64 K, .int .i64 Q], .string s] w fun x w' => x = .returned (.bool true) ∧ Below w.heap.size w w' := by
  have q0 : decide ((300 : Int) < (s.size : Int)) = true := decide_eq_true hs
  go_enter Tryd.func6, Tryd.ntmps6
  go_wp2_with (go_at_call 15; refine (awake15 _).mono ?_; rintro x wz ⟨rfl, hbz⟩)
  go_ret
  exact ⟨rfl, below_alloc_l hbz⟩
theorem pC_five (L : List UInt8) : ∃ a0 a1 a2 a3 a4, pC L = [a0, a1, a2, a3, a4] := by
  unfold pC
  split
  · exact ⟨_, _, _, _, _, rfl⟩
  · exact ⟨_, _, _, _, _, rfl⟩
/-- the law -/
theorem texts6 (C N S K Q : Int) (s : ByteArray) (w : World) (hL : Laid w) :
    Calls Tryd.prog 6 #[.agg #[.int .i64 C, .int .i64 N, .int .i64 S, .int .i64 K, .int .i64 Q], .string s] w fun x w' => x = .returned (.bool true) ∧ Below w.heap.size w w' := by
  by_cases hs : (300 : Int) < (s.size : Int)
  · exact texts6_long C N S K Q s w hs
  · have hs' : (s.size : Int) ≤ 300 := by omega
    obtain ⟨a0, a1, a2, a3, a4, ha⟩ := pC_five s.data.toList
    have F34 := fun (W : World) (hW : Laid W) => parse34 s W hW (by omega)
    have F35 := fun (W : World) => parse35 s W (by omega)
    rw [ha] at F34 F35
    by_cases hz : pE s.data.toList = 0
    · have P32 : ∀ W : World, Calls Tryd.prog 32 #[.agg #[.int .i64 a0, .int .i64 a1, .int .i64 a2, .int .i64 a3, .int .i64 a4]] W fun x w' => x = .returned (.tuple #[.string s, .int .i64 0]) ∧ Below W.heap.size W w' := fun W => by
        obtain ⟨c, n, t, k, q, hc, hg, ht⟩ := print_parse s.data.toList hz
        rw [ha] at hc
        simp only [List.cons.injEq, and_true] at hc
        obtain ⟨rfl, rfl, rfl, rfl, rfl⟩ := hc
        have := print32_ok _ _ _ _ _ hg W
        rwa [ht, ba_list] at this
      rw [hz] at F34 F35
      by_cases hg : good C N S K Q
      · have hp := parse_print C N S K Q hg
        exact texts6_yy C N S K Q a0 a1 a2 a3 a4 ⟨(textL [C, N, S, K, Q]).toArray⟩ s w hs' (Lib.hid hL) (Lib.hid fun W => print32_ok C N S K Q hg W) (Lib.hid fun W => rprint_good C N S K Q hg W) (Lib.hid F34) (Lib.hid F35) (Lib.hid (back34 C N S K Q hg)) (Lib.hid P32)
      · exact texts6_ny C N S K Q a0 a1 a2 a3 a4 7 ⟨#[]⟩ s w hs' (Lib.hid hL) (Lib.hid fun W => print32_bad C N S K Q hg W) (Lib.hid fun W => rprint_bad C N S K Q hg W) (Lib.hid F34) (Lib.hid F35) (by decide) (Lib.hid P32)
    · generalize pE s.data.toList = g at *
      by_cases hg : good C N S K Q
      · exact texts6_yn C N S K Q a0 a1 a2 a3 a4 g ⟨(textL [C, N, S, K, Q]).toArray⟩ s w hs' (Lib.hid hL) (Lib.hid fun W => print32_ok C N S K Q hg W) (Lib.hid fun W => rprint_good C N S K Q hg W) (Lib.hid F34) (Lib.hid F35) hz (Lib.hid (back34 C N S K Q hg))
      · exact texts6_nn C N S K Q a0 a1 a2 a3 a4 7 g ⟨#[]⟩ s w hs' (Lib.hid hL) (Lib.hid fun W => print32_bad C N S K Q hg W) (Lib.hid fun W => rprint_bad C N S K Q hg W) (Lib.hid F34) (Lib.hid F35) (by decide) hz
end Ct
end YtoebnjciioiccaaDoor
end Go.Proofs
