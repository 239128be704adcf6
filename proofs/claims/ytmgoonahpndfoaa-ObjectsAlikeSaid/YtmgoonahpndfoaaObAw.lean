/- The law ObjectsAlike answers true. -/
import Derived.Test.YtmgoonahpndfoaaObK
namespace Go.Proofs
namespace Ytmgoonahpndfoaa
open Go.RowKit

set_option maxRecDepth 100000 in
set_option maxHeartbeats 400000 in
theorem alike8_err (P R z p c s : Int) (w : World) (h : c ≠ 0 ∨ (c = 0 ∧ 40 < s)) (K : Hid (∀ W, Calls Try.prog 36 #[.agg #[.int .i64 P, .int .i64 R]] W fun e w' => e = .returned (.tuple #[.int .i64 s, .int .i64 c]) ∧ Below W.heap.size W w')) :
    Calls Try.prog 8 #[.agg #[.int .i64 P, .int .i64 R], .int .u64 z, .int .u8 p] w fun e w' => e = .returned (.bool true) ∧ Below w.heap.size w w' := by
  rcases h with h | ⟨rfl, h⟩
  · have q : (c != 0) = true := by simpa using h
    clear h
    go_enter Try.func8, Try.ntmps8
    go_wp2_with (first
      | (go_at_call 36; refine (K.out _).mono ?_; rintro e w1 ⟨rfl, hb1⟩)
      | (go_at_call 11; refine (awake11 _).mono ?_; rintro e w2 ⟨rfl, hb2⟩))
    exact bodyPost_ret (v := .bool true) (by simp [results, Try.f8, go_sem]) rfl ⟨rfl, below_end (below_end (alloc_below w _) hb1) hb2⟩
  · have q : decide (40 < s) = true := decide_eq_true h
    go_enter Try.func8, Try.ntmps8
    go_wp2_with (first
      | (go_at_call 36; refine (K.out _).mono ?_; rintro e w1 ⟨rfl, hb1⟩)
      | (go_at_call 11; refine (awake11 _).mono ?_; rintro e w2 ⟨rfl, hb2⟩))
    exact bodyPost_ret (v := .bool true) (by simp [results, Try.f8, go_sem]) rfl ⟨rfl, below_end (below_end (alloc_below w _) hb1) hb2⟩
def zeros (m : Nat) : List Int := List.replicate m 0
theorem zeros_ar (W : World) (m : Nat) (hm : m ≤ 1601) : Ar (W.alloc (.cells (wc (List.replicate m 0)).toArray 42)) (.slice (some ⟨W.heap.size, 0, none⟩) m m) (zeros m) := by
  have h := WAt.row (zs := List.replicate m 0) (cap := m) (heap_alloc_new W (.cells (wc (List.replicate m 0)).toArray 42))
  rw [List.length_replicate] at h
  exact ⟨h, fun A n c e => by cases e; exact Nat.le_refl _, fun z hz => by rw [(List.mem_replicate.1 hz).2]; exact ⟨by decide, by decide⟩, by simp [zeros]; omega⟩
set_option maxRecDepth 100000 in
set_option maxHeartbeats 2000000 in
theorem alike8_00 (P R m : Nat) (z p : Int) (ws1 ws us rs ts : List Int) (w : World) (hm : m = 1 + 2 * (1 + P + R)) (hs : P + R ≤ 39) (hp : 0 ≤ p ∧ p ≤ 255)
    (K : Hid (∀ W, Calls Try.prog 36 #[.agg #[.int .i64 P, .int .i64 R]] W fun e w' => e = .returned (.tuple #[.int .i64 (1 + (P : Int) + (R : Int)), .int .i64 0]) ∧ Below W.heap.size W w'))
    (D12a : Hid (∀ W u, Ar W u (zeros m) → Calls Try.prog 12 #[u, .int .i64 1, .agg #[.int .i64 P, .int .i64 R]] W fun e w' => RAns W ws1 e w'))
    (D12b : Hid (∀ W u, Ar W u ws1 → Calls Try.prog 12 #[u, .int .i64 (1 + (1 + (P : Int) + (R : Int))), .agg #[.int .i64 P, .int .i64 R]] W fun e w' => RAns W ws e w'))
    (D28a : Hid (∀ W u, Ar W u ws → Calls Try.prog 28 #[u, .int .i64 1, .int .i64 1] W fun e w' => e = .returned (.tuple #[.bool true, .int .i64 0]) ∧ Below W.heap.size W w'))
    (D28b : Hid (∀ W u, Ar W u ws → Calls Try.prog 28 #[u, .int .i64 1, .int .i64 (1 + (1 + (P : Int) + (R : Int)))] W fun e w' => e = .returned (.tuple #[.bool true, .int .i64 0]) ∧ Below W.heap.size W w'))
    (hP : P = 0)
    (hR : R = 0) :
    Calls Try.prog 8 #[.agg #[.int .i64 P, .int .i64 R], .int .u64 z, .int .u8 p] w fun e w' => e = .returned (.bool true) ∧ Below w.heap.size w w' := by
  have MK := fun W => mk25 m (by omega) W
  rw [show ((m : Nat) : Int) = 1 + 2 * (1 + (P : Int) + (R : Int)) by omega] at MK
  have hm1 : m ≤ 1601 := by omega
  have HM := Lib.hid hm
  clear hm
  obtain ⟨p0, p1⟩ := hp
  have q0 : decide (40 < (1 + (P : Int) + (R : Int))) = false := decide_eq_false (by omega)
  have qP : decide (0 < (P : Int)) = false := decide_eq_false (by omega)
  have qR : decide (0 < (R : Int)) = false := decide_eq_false (by omega)
  have qn : decide (1 < (1 + (P : Int) + (R : Int))) = false := decide_eq_false (by omega)
  have hP1 : ¬ 0 < P := by omega
  have hR1 : ¬ 0 < R := by omega
  clear hP
  clear hR
  have N0 := Lib.hid (heap_alloc_new w (.cells #[.int .i64 P, .int .i64 R] 24))
  have B0 := Lib.hid (alloc_below w (.cells #[.int .i64 P, .int .i64 R] 24))
  obtain ⟨t0, t1, -, -⟩ := two_free N0.out
  go_enter Try.func8, Try.ntmps8
  go_upto_region 1 with (fail)
  generalize w.alloc (.cells #[.int .i64 P, .int .i64 R] 24) = W0 at *
  go_upto_region 4 with (go_at_call 36; refine (K.out _).mono ?_; rintro e w1 ⟨rfl, hb1⟩)
  have N1 := Lib.hid (keep_heap hb1 N0.out)
  have B1 := Lib.hid (below_end B0.out hb1)
  clear t0 t1 hb1 N0
  go_upto_region 5 with (fail)
  have X1 := Lib.hid (zeros_ar w1 m hm1)
  have hb := alloc_below w1 (.cells (wc (List.replicate m 0)).toArray 42)
  have N2 := Lib.hid (keep_heap hb N1.out)
  have B2 := Lib.hid (below_end B1.out hb)
  clear hb N1 MK
  generalize w1.heap.size = g1 at *
  generalize w1.alloc (.cells (wc (List.replicate m 0)).toArray 42) = W2 at *
  obtain ⟨t0, t1, -, -⟩ := two_free N2.out
  go_upto_region 8 with (go_at_call 12; refine (D12a.out _ _ X1.out).mono ?_; rintro e w3 ⟨v3, rfl, X3, hb3⟩)
  have N3 := Lib.hid (keep_heap hb3 N2.out)
  have B3 := Lib.hid (below_end B2.out hb3)
  clear t0 t1 hb3 N2 X1
  obtain ⟨t0, t1, -, -⟩ := two_free N3.out
  go_upto_region 11 with (go_at_call 12; refine (D12b.out _ _ X3.out).mono ?_; rintro e w4 ⟨v4, rfl, X4, hb4⟩)
  have N4 := Lib.hid (keep_heap hb4 N3.out)
  have B4 := Lib.hid (below_end B3.out hb4)
  clear t0 t1 hb4 N3 X3
  go_upto_region 12 with (go_at_call 28; refine (D28a.out _ _ X4.out).mono ?_; rintro e w5 ⟨rfl, hb5⟩)
  have X5 := Lib.hid (X4.out.below hb5)
  go_upto_region 13 with (go_at_call 28; refine (D28b.out _ _ X5.out).mono ?_; rintro e w6 ⟨rfl, hb6⟩)
  have hb := below_end hb5 hb6
  have N6 := Lib.hid (keep_heap hb N4.out)
  have B6 := Lib.hid (below_end B4.out hb)
  have X6 := Lib.hid (X4.out.below hb)
  clear hb hb5 hb6 N4 B4 X4 X5
  obtain ⟨t0, t1, -, -⟩ := two_free N6.out
  go_wp2_with (go_at_call 11; refine (awake11 _).mono ?_; rintro e y1 ⟨rfl, hy1⟩)
  exact bodyPost_ret (v := .bool true) (by simp [results, Try.f8, go_sem]) rfl ⟨rfl, below_end B6.out hy1⟩
set_option maxRecDepth 100000 in
set_option maxHeartbeats 2000000 in
theorem alike8_01 (P R m : Nat) (z p : Int) (ws1 ws us rs ts : List Int) (w : World) (hm : m = 1 + 2 * (1 + P + R)) (hs : P + R ≤ 39) (hp : 0 ≤ p ∧ p ≤ 255)
    (K : Hid (∀ W, Calls Try.prog 36 #[.agg #[.int .i64 P, .int .i64 R]] W fun e w' => e = .returned (.tuple #[.int .i64 (1 + (P : Int) + (R : Int)), .int .i64 0]) ∧ Below W.heap.size W w'))
    (D12a : Hid (∀ W u, Ar W u (zeros m) → Calls Try.prog 12 #[u, .int .i64 1, .agg #[.int .i64 P, .int .i64 R]] W fun e w' => RAns W ws1 e w'))
    (D12b : Hid (∀ W u, Ar W u ws1 → Calls Try.prog 12 #[u, .int .i64 (1 + (1 + (P : Int) + (R : Int))), .agg #[.int .i64 P, .int .i64 R]] W fun e w' => RAns W ws e w'))
    (D28a : Hid (∀ W u, Ar W u ws → Calls Try.prog 28 #[u, .int .i64 1, .int .i64 1] W fun e w' => e = .returned (.tuple #[.bool true, .int .i64 0]) ∧ Below W.heap.size W w'))
    (D28b : Hid (∀ W u, Ar W u ws → Calls Try.prog 28 #[u, .int .i64 1, .int .i64 (1 + (1 + (P : Int) + (R : Int)))] W fun e w' => e = .returned (.tuple #[.bool true, .int .i64 0]) ∧ Below W.heap.size W w'))
    (hP : P = 0)
    (hR : 0 < R) (fR : Int) (hfR : p % (R : Int) = fR) (b : Bool) (hb : (z == 0) = b) (D32 : Hid (∀ W u, Ar W u ws → Calls Try.prog 32 #[u, .int .i64 1, .int .i64 fR, .int .u64 z] W fun e w' => RAns W rs e w'))
    (D28d : Hid (∀ W u, Ar W u rs → Calls Try.prog 28 #[u, .int .i64 1, .int .i64 (1 + (1 + (P : Int) + (R : Int)))] W fun e w' => e = .returned (.tuple #[.bool b, .int .i64 0]) ∧ Below W.heap.size W w'))
    (D28e : Hid (∀ W u, Ar W u rs → Calls Try.prog 28 #[u, .int .i64 (1 + (1 + (P : Int) + (R : Int))), .int .i64 1] W fun e w' => e = .returned (.tuple #[.bool b, .int .i64 0]) ∧ Below W.heap.size W w'))
    (c : Bool) (hc : ((P : Int) == (R : Int)) = c) (D12c : Hid (∀ W u, Ar W u ws → Calls Try.prog 12 #[u, .int .i64 (1 + (1 + (P : Int) + (R : Int))), .agg #[.int .i64 R, .int .i64 P]] W fun e w' => RAns W ts e w'))
    (D28f : Hid (∀ W u, Ar W u ts → Calls Try.prog 28 #[u, .int .i64 1, .int .i64 (1 + (1 + (P : Int) + (R : Int)))] W fun e w' => e = .returned (.tuple #[.bool c, .int .i64 0]) ∧ Below W.heap.size W w')) :
    Calls Try.prog 8 #[.agg #[.int .i64 P, .int .i64 R], .int .u64 z, .int .u8 p] w fun e w' => e = .returned (.bool true) ∧ Below w.heap.size w w' := by
  have MK := fun W => mk25 m (by omega) W
  rw [show ((m : Nat) : Int) = 1 + 2 * (1 + (P : Int) + (R : Int)) by omega] at MK
  have hm1 : m ≤ 1601 := by omega
  have HM := Lib.hid hm
  clear hm
  obtain ⟨p0, p1⟩ := hp
  have q0 : decide (40 < (1 + (P : Int) + (R : Int))) = false := decide_eq_false (by omega)
  have qP : decide (0 < (P : Int)) = false := decide_eq_false (by omega)
  have qR : decide (0 < (R : Int)) = true := decide_eq_true (by omega)
  have qn : decide (1 < (1 + (P : Int) + (R : Int))) = true := decide_eq_true (by omega)
  have hP1 : ¬ 0 < P := by omega
  clear hP
  have N0 := Lib.hid (heap_alloc_new w (.cells #[.int .i64 P, .int .i64 R] 24))
  have B0 := Lib.hid (alloc_below w (.cells #[.int .i64 P, .int .i64 R] 24))
  obtain ⟨t0, t1, -, -⟩ := two_free N0.out
  go_enter Try.func8, Try.ntmps8
  go_upto_region 1 with (fail)
  generalize w.alloc (.cells #[.int .i64 P, .int .i64 R] 24) = W0 at *
  go_upto_region 4 with (go_at_call 36; refine (K.out _).mono ?_; rintro e w1 ⟨rfl, hb1⟩)
  have N1 := Lib.hid (keep_heap hb1 N0.out)
  have B1 := Lib.hid (below_end B0.out hb1)
  clear t0 t1 hb1 N0
  go_upto_region 5 with (fail)
  have X1 := Lib.hid (zeros_ar w1 m hm1)
  have hb := alloc_below w1 (.cells (wc (List.replicate m 0)).toArray 42)
  have N2 := Lib.hid (keep_heap hb N1.out)
  have B2 := Lib.hid (below_end B1.out hb)
  clear hb N1 MK
  generalize w1.heap.size = g1 at *
  generalize w1.alloc (.cells (wc (List.replicate m 0)).toArray 42) = W2 at *
  obtain ⟨t0, t1, -, -⟩ := two_free N2.out
  go_upto_region 8 with (go_at_call 12; refine (D12a.out _ _ X1.out).mono ?_; rintro e w3 ⟨v3, rfl, X3, hb3⟩)
  have N3 := Lib.hid (keep_heap hb3 N2.out)
  have B3 := Lib.hid (below_end B2.out hb3)
  clear t0 t1 hb3 N2 X1
  obtain ⟨t0, t1, -, -⟩ := two_free N3.out
  go_upto_region 11 with (go_at_call 12; refine (D12b.out _ _ X3.out).mono ?_; rintro e w4 ⟨v4, rfl, X4, hb4⟩)
  have N4 := Lib.hid (keep_heap hb4 N3.out)
  have B4 := Lib.hid (below_end B3.out hb4)
  clear t0 t1 hb4 N3 X3
  go_upto_region 12 with (go_at_call 28; refine (D28a.out _ _ X4.out).mono ?_; rintro e w5 ⟨rfl, hb5⟩)
  have X5 := Lib.hid (X4.out.below hb5)
  go_upto_region 13 with (go_at_call 28; refine (D28b.out _ _ X5.out).mono ?_; rintro e w6 ⟨rfl, hb6⟩)
  have hb := below_end hb5 hb6
  have N6 := Lib.hid (keep_heap hb N4.out)
  have B6 := Lib.hid (below_end B4.out hb)
  have X6 := Lib.hid (X4.out.below hb)
  clear hb hb5 hb6 N4 B4 X4 X5
  obtain ⟨t0, t1, -, -⟩ := two_free N6.out
  have nb : (b != b) = false := by simp
  go_upto_region 22 with (go_at_call 32; refine (D32.out _ _ X6.out).mono ?_; rintro e w9 ⟨v9, rfl, X9, hb9⟩)
  go_upto_region 23 with (go_at_call 28; refine (D28d.out _ _ X9.out).mono ?_; rintro e w10 ⟨rfl, hb10⟩)
  have X10 := Lib.hid (X9.out.below hb10)
  go_upto_region 26 with (go_at_call 28; refine (D28e.out _ _ X10.out).mono ?_; rintro e w11 ⟨rfl, hb11⟩)
  have hb := below_end (below_end hb9 hb10) hb11
  have N11 := Lib.hid (keep_heap hb N6.out)
  have B11 := Lib.hid (below_end B6.out hb)
  have X11 := Lib.hid (X6.out.below hb)
  clear hb hb9 hb10 hb11 N6 B6 X6 X9 X10 t0 t1 nb
  obtain ⟨t0, t1, -, -⟩ := two_free N11.out
  have nc : (c != c) = false := by simp
  go_upto_region 28 with (go_at_call 12; refine (D12c.out _ _ X11.out).mono ?_; rintro e w12 ⟨v12, rfl, X12, hb12⟩)
  have N12 := Lib.hid (keep_heap hb12 N11.out)
  have B12 := Lib.hid (below_end B11.out hb12)
  clear hb12 t0 t1 N11 B11 X11
  go_upto_region 29 with (go_at_call 28; refine (D28f.out _ _ X12.out).mono ?_; rintro e w13 ⟨rfl, hb13⟩)
  obtain ⟨t0, t1, -, -⟩ := two_free (keep_heap hb13 N12.out)
  have B13 := Lib.hid (below_end B12.out hb13)
  clear hb13 N12 B12 X12
  go_wp2_with (go_at_call 11; refine (awake11 _).mono ?_; rintro e y1 ⟨rfl, hy1⟩)
  exact bodyPost_ret (v := .bool true) (by simp [results, Try.f8, go_sem]) rfl ⟨rfl, below_end B13.out hy1⟩
set_option maxRecDepth 100000 in
set_option maxHeartbeats 2000000 in
theorem alike8_10 (P R m : Nat) (z p : Int) (ws1 ws us rs ts : List Int) (w : World) (hm : m = 1 + 2 * (1 + P + R)) (hs : P + R ≤ 39) (hp : 0 ≤ p ∧ p ≤ 255)
    (K : Hid (∀ W, Calls Try.prog 36 #[.agg #[.int .i64 P, .int .i64 R]] W fun e w' => e = .returned (.tuple #[.int .i64 (1 + (P : Int) + (R : Int)), .int .i64 0]) ∧ Below W.heap.size W w'))
    (D12a : Hid (∀ W u, Ar W u (zeros m) → Calls Try.prog 12 #[u, .int .i64 1, .agg #[.int .i64 P, .int .i64 R]] W fun e w' => RAns W ws1 e w'))
    (D12b : Hid (∀ W u, Ar W u ws1 → Calls Try.prog 12 #[u, .int .i64 (1 + (1 + (P : Int) + (R : Int))), .agg #[.int .i64 P, .int .i64 R]] W fun e w' => RAns W ws e w'))
    (D28a : Hid (∀ W u, Ar W u ws → Calls Try.prog 28 #[u, .int .i64 1, .int .i64 1] W fun e w' => e = .returned (.tuple #[.bool true, .int .i64 0]) ∧ Below W.heap.size W w'))
    (D28b : Hid (∀ W u, Ar W u ws → Calls Try.prog 28 #[u, .int .i64 1, .int .i64 (1 + (1 + (P : Int) + (R : Int)))] W fun e w' => e = .returned (.tuple #[.bool true, .int .i64 0]) ∧ Below W.heap.size W w'))
    (hP : 0 < P) (fP : Int) (hfP : p % (P : Int) = fP) (D30 : Hid (∀ W u, Ar W u ws → Calls Try.prog 30 #[u, .int .i64 1, .int .i64 fP, .int .i64 (1 + (1 + (P : Int) + (R : Int)))] W fun e w' => RAns W us e w'))
    (D28c : Hid (∀ W u, Ar W u us → Calls Try.prog 28 #[u, .int .i64 1, .int .i64 (1 + (1 + (P : Int) + (R : Int)))] W fun e w' => e = .returned (.tuple #[.bool true, .int .i64 0]) ∧ Below W.heap.size W w'))
    (hR : R = 0)
    (c : Bool) (hc : ((P : Int) == (R : Int)) = c) (D12c : Hid (∀ W u, Ar W u ws → Calls Try.prog 12 #[u, .int .i64 (1 + (1 + (P : Int) + (R : Int))), .agg #[.int .i64 R, .int .i64 P]] W fun e w' => RAns W ts e w'))
    (D28f : Hid (∀ W u, Ar W u ts → Calls Try.prog 28 #[u, .int .i64 1, .int .i64 (1 + (1 + (P : Int) + (R : Int)))] W fun e w' => e = .returned (.tuple #[.bool c, .int .i64 0]) ∧ Below W.heap.size W w')) :
    Calls Try.prog 8 #[.agg #[.int .i64 P, .int .i64 R], .int .u64 z, .int .u8 p] w fun e w' => e = .returned (.bool true) ∧ Below w.heap.size w w' := by
  have MK := fun W => mk25 m (by omega) W
  rw [show ((m : Nat) : Int) = 1 + 2 * (1 + (P : Int) + (R : Int)) by omega] at MK
  have hm1 : m ≤ 1601 := by omega
  have HM := Lib.hid hm
  clear hm
  obtain ⟨p0, p1⟩ := hp
  have q0 : decide (40 < (1 + (P : Int) + (R : Int))) = false := decide_eq_false (by omega)
  have qP : decide (0 < (P : Int)) = true := decide_eq_true (by omega)
  have qR : decide (0 < (R : Int)) = false := decide_eq_false (by omega)
  have qn : decide (1 < (1 + (P : Int) + (R : Int))) = true := decide_eq_true (by omega)
  have hR1 : ¬ 0 < R := by omega
  clear hR
  have N0 := Lib.hid (heap_alloc_new w (.cells #[.int .i64 P, .int .i64 R] 24))
  have B0 := Lib.hid (alloc_below w (.cells #[.int .i64 P, .int .i64 R] 24))
  obtain ⟨t0, t1, -, -⟩ := two_free N0.out
  go_enter Try.func8, Try.ntmps8
  go_upto_region 1 with (fail)
  generalize w.alloc (.cells #[.int .i64 P, .int .i64 R] 24) = W0 at *
  go_upto_region 4 with (go_at_call 36; refine (K.out _).mono ?_; rintro e w1 ⟨rfl, hb1⟩)
  have N1 := Lib.hid (keep_heap hb1 N0.out)
  have B1 := Lib.hid (below_end B0.out hb1)
  clear t0 t1 hb1 N0
  go_upto_region 5 with (fail)
  have X1 := Lib.hid (zeros_ar w1 m hm1)
  have hb := alloc_below w1 (.cells (wc (List.replicate m 0)).toArray 42)
  have N2 := Lib.hid (keep_heap hb N1.out)
  have B2 := Lib.hid (below_end B1.out hb)
  clear hb N1 MK
  generalize w1.heap.size = g1 at *
  generalize w1.alloc (.cells (wc (List.replicate m 0)).toArray 42) = W2 at *
  obtain ⟨t0, t1, -, -⟩ := two_free N2.out
  go_upto_region 8 with (go_at_call 12; refine (D12a.out _ _ X1.out).mono ?_; rintro e w3 ⟨v3, rfl, X3, hb3⟩)
  have N3 := Lib.hid (keep_heap hb3 N2.out)
  have B3 := Lib.hid (below_end B2.out hb3)
  clear t0 t1 hb3 N2 X1
  obtain ⟨t0, t1, -, -⟩ := two_free N3.out
  go_upto_region 11 with (go_at_call 12; refine (D12b.out _ _ X3.out).mono ?_; rintro e w4 ⟨v4, rfl, X4, hb4⟩)
  have N4 := Lib.hid (keep_heap hb4 N3.out)
  have B4 := Lib.hid (below_end B3.out hb4)
  clear t0 t1 hb4 N3 X3
  go_upto_region 12 with (go_at_call 28; refine (D28a.out _ _ X4.out).mono ?_; rintro e w5 ⟨rfl, hb5⟩)
  have X5 := Lib.hid (X4.out.below hb5)
  go_upto_region 13 with (go_at_call 28; refine (D28b.out _ _ X5.out).mono ?_; rintro e w6 ⟨rfl, hb6⟩)
  have hb := below_end hb5 hb6
  have N6 := Lib.hid (keep_heap hb N4.out)
  have B6 := Lib.hid (below_end B4.out hb)
  have X6 := Lib.hid (X4.out.below hb)
  clear hb hb5 hb6 N4 B4 X4 X5
  obtain ⟨t0, t1, -, -⟩ := two_free N6.out
  go_upto_region 17 with (go_at_call 30; refine (D30.out _ _ X6.out).mono ?_; rintro e w7 ⟨v7, rfl, X7, hb7⟩)
  go_upto_region 20 with (go_at_call 28; refine (D28c.out _ _ X7.out).mono ?_; rintro e w8 ⟨rfl, hb8⟩)
  have hb := below_end hb7 hb8
  have N8 := Lib.hid (keep_heap hb N6.out)
  have B8 := Lib.hid (below_end B6.out hb)
  have X8 := Lib.hid (X6.out.below hb)
  clear hb hb7 hb8 N6 B6 X6 X7 t0 t1
  obtain ⟨t0, t1, -, -⟩ := two_free N8.out
  have nc : (c != c) = false := by simp
  go_upto_region 28 with (go_at_call 12; refine (D12c.out _ _ X8.out).mono ?_; rintro e w12 ⟨v12, rfl, X12, hb12⟩)
  have N12 := Lib.hid (keep_heap hb12 N8.out)
  have B12 := Lib.hid (below_end B8.out hb12)
  clear hb12 t0 t1 N8 B8 X8
  go_upto_region 29 with (go_at_call 28; refine (D28f.out _ _ X12.out).mono ?_; rintro e w13 ⟨rfl, hb13⟩)
  obtain ⟨t0, t1, -, -⟩ := two_free (keep_heap hb13 N12.out)
  have B13 := Lib.hid (below_end B12.out hb13)
  clear hb13 N12 B12 X12
  go_wp2_with (go_at_call 11; refine (awake11 _).mono ?_; rintro e y1 ⟨rfl, hy1⟩)
  exact bodyPost_ret (v := .bool true) (by simp [results, Try.f8, go_sem]) rfl ⟨rfl, below_end B13.out hy1⟩
set_option maxRecDepth 100000 in
set_option maxHeartbeats 2000000 in
theorem alike8_11 (P R m : Nat) (z p : Int) (ws1 ws us rs ts : List Int) (w : World) (hm : m = 1 + 2 * (1 + P + R)) (hs : P + R ≤ 39) (hp : 0 ≤ p ∧ p ≤ 255)
    (K : Hid (∀ W, Calls Try.prog 36 #[.agg #[.int .i64 P, .int .i64 R]] W fun e w' => e = .returned (.tuple #[.int .i64 (1 + (P : Int) + (R : Int)), .int .i64 0]) ∧ Below W.heap.size W w'))
    (D12a : Hid (∀ W u, Ar W u (zeros m) → Calls Try.prog 12 #[u, .int .i64 1, .agg #[.int .i64 P, .int .i64 R]] W fun e w' => RAns W ws1 e w'))
    (D12b : Hid (∀ W u, Ar W u ws1 → Calls Try.prog 12 #[u, .int .i64 (1 + (1 + (P : Int) + (R : Int))), .agg #[.int .i64 P, .int .i64 R]] W fun e w' => RAns W ws e w'))
    (D28a : Hid (∀ W u, Ar W u ws → Calls Try.prog 28 #[u, .int .i64 1, .int .i64 1] W fun e w' => e = .returned (.tuple #[.bool true, .int .i64 0]) ∧ Below W.heap.size W w'))
    (D28b : Hid (∀ W u, Ar W u ws → Calls Try.prog 28 #[u, .int .i64 1, .int .i64 (1 + (1 + (P : Int) + (R : Int)))] W fun e w' => e = .returned (.tuple #[.bool true, .int .i64 0]) ∧ Below W.heap.size W w'))
    (hP : 0 < P) (fP : Int) (hfP : p % (P : Int) = fP) (D30 : Hid (∀ W u, Ar W u ws → Calls Try.prog 30 #[u, .int .i64 1, .int .i64 fP, .int .i64 (1 + (1 + (P : Int) + (R : Int)))] W fun e w' => RAns W us e w'))
    (D28c : Hid (∀ W u, Ar W u us → Calls Try.prog 28 #[u, .int .i64 1, .int .i64 (1 + (1 + (P : Int) + (R : Int)))] W fun e w' => e = .returned (.tuple #[.bool true, .int .i64 0]) ∧ Below W.heap.size W w'))
    (hR : 0 < R) (fR : Int) (hfR : p % (R : Int) = fR) (b : Bool) (hb : (z == 0) = b) (D32 : Hid (∀ W u, Ar W u ws → Calls Try.prog 32 #[u, .int .i64 1, .int .i64 fR, .int .u64 z] W fun e w' => RAns W rs e w'))
    (D28d : Hid (∀ W u, Ar W u rs → Calls Try.prog 28 #[u, .int .i64 1, .int .i64 (1 + (1 + (P : Int) + (R : Int)))] W fun e w' => e = .returned (.tuple #[.bool b, .int .i64 0]) ∧ Below W.heap.size W w'))
    (D28e : Hid (∀ W u, Ar W u rs → Calls Try.prog 28 #[u, .int .i64 (1 + (1 + (P : Int) + (R : Int))), .int .i64 1] W fun e w' => e = .returned (.tuple #[.bool b, .int .i64 0]) ∧ Below W.heap.size W w'))
    (c : Bool) (hc : ((P : Int) == (R : Int)) = c) (D12c : Hid (∀ W u, Ar W u ws → Calls Try.prog 12 #[u, .int .i64 (1 + (1 + (P : Int) + (R : Int))), .agg #[.int .i64 R, .int .i64 P]] W fun e w' => RAns W ts e w'))
    (D28f : Hid (∀ W u, Ar W u ts → Calls Try.prog 28 #[u, .int .i64 1, .int .i64 (1 + (1 + (P : Int) + (R : Int)))] W fun e w' => e = .returned (.tuple #[.bool c, .int .i64 0]) ∧ Below W.heap.size W w')) :
    Calls Try.prog 8 #[.agg #[.int .i64 P, .int .i64 R], .int .u64 z, .int .u8 p] w fun e w' => e = .returned (.bool true) ∧ Below w.heap.size w w' := by
  have MK := fun W => mk25 m (by omega) W
  rw [show ((m : Nat) : Int) = 1 + 2 * (1 + (P : Int) + (R : Int)) by omega] at MK
  have hm1 : m ≤ 1601 := by omega
  have HM := Lib.hid hm
  clear hm
  obtain ⟨p0, p1⟩ := hp
  have q0 : decide (40 < (1 + (P : Int) + (R : Int))) = false := decide_eq_false (by omega)
  have qP : decide (0 < (P : Int)) = true := decide_eq_true (by omega)
  have qR : decide (0 < (R : Int)) = true := decide_eq_true (by omega)
  have qn : decide (1 < (1 + (P : Int) + (R : Int))) = true := decide_eq_true (by omega)
  have N0 := Lib.hid (heap_alloc_new w (.cells #[.int .i64 P, .int .i64 R] 24))
  have B0 := Lib.hid (alloc_below w (.cells #[.int .i64 P, .int .i64 R] 24))
  obtain ⟨t0, t1, -, -⟩ := two_free N0.out
  go_enter Try.func8, Try.ntmps8
  go_upto_region 1 with (fail)
  generalize w.alloc (.cells #[.int .i64 P, .int .i64 R] 24) = W0 at *
  go_upto_region 4 with (go_at_call 36; refine (K.out _).mono ?_; rintro e w1 ⟨rfl, hb1⟩)
  have N1 := Lib.hid (keep_heap hb1 N0.out)
  have B1 := Lib.hid (below_end B0.out hb1)
  clear t0 t1 hb1 N0
  go_upto_region 5 with (fail)
  have X1 := Lib.hid (zeros_ar w1 m hm1)
  have hb := alloc_below w1 (.cells (wc (List.replicate m 0)).toArray 42)
  have N2 := Lib.hid (keep_heap hb N1.out)
  have B2 := Lib.hid (below_end B1.out hb)
  clear hb N1 MK
  generalize w1.heap.size = g1 at *
  generalize w1.alloc (.cells (wc (List.replicate m 0)).toArray 42) = W2 at *
  obtain ⟨t0, t1, -, -⟩ := two_free N2.out
  go_upto_region 8 with (go_at_call 12; refine (D12a.out _ _ X1.out).mono ?_; rintro e w3 ⟨v3, rfl, X3, hb3⟩)
  have N3 := Lib.hid (keep_heap hb3 N2.out)
  have B3 := Lib.hid (below_end B2.out hb3)
  clear t0 t1 hb3 N2 X1
  obtain ⟨t0, t1, -, -⟩ := two_free N3.out
  go_upto_region 11 with (go_at_call 12; refine (D12b.out _ _ X3.out).mono ?_; rintro e w4 ⟨v4, rfl, X4, hb4⟩)
  have N4 := Lib.hid (keep_heap hb4 N3.out)
  have B4 := Lib.hid (below_end B3.out hb4)
  clear t0 t1 hb4 N3 X3
  go_upto_region 12 with (go_at_call 28; refine (D28a.out _ _ X4.out).mono ?_; rintro e w5 ⟨rfl, hb5⟩)
  have X5 := Lib.hid (X4.out.below hb5)
  go_upto_region 13 with (go_at_call 28; refine (D28b.out _ _ X5.out).mono ?_; rintro e w6 ⟨rfl, hb6⟩)
  have hb := below_end hb5 hb6
  have N6 := Lib.hid (keep_heap hb N4.out)
  have B6 := Lib.hid (below_end B4.out hb)
  have X6 := Lib.hid (X4.out.below hb)
  clear hb hb5 hb6 N4 B4 X4 X5
  obtain ⟨t0, t1, -, -⟩ := two_free N6.out
  go_upto_region 17 with (go_at_call 30; refine (D30.out _ _ X6.out).mono ?_; rintro e w7 ⟨v7, rfl, X7, hb7⟩)
  go_upto_region 20 with (go_at_call 28; refine (D28c.out _ _ X7.out).mono ?_; rintro e w8 ⟨rfl, hb8⟩)
  have hb := below_end hb7 hb8
  have N8 := Lib.hid (keep_heap hb N6.out)
  have B8 := Lib.hid (below_end B6.out hb)
  have X8 := Lib.hid (X6.out.below hb)
  clear hb hb7 hb8 N6 B6 X6 X7 t0 t1
  obtain ⟨t0, t1, -, -⟩ := two_free N8.out
  have nb : (b != b) = false := by simp
  go_upto_region 22 with (go_at_call 32; refine (D32.out _ _ X8.out).mono ?_; rintro e w9 ⟨v9, rfl, X9, hb9⟩)
  go_upto_region 23 with (go_at_call 28; refine (D28d.out _ _ X9.out).mono ?_; rintro e w10 ⟨rfl, hb10⟩)
  have X10 := Lib.hid (X9.out.below hb10)
  go_upto_region 26 with (go_at_call 28; refine (D28e.out _ _ X10.out).mono ?_; rintro e w11 ⟨rfl, hb11⟩)
  have hb := below_end (below_end hb9 hb10) hb11
  have N11 := Lib.hid (keep_heap hb N8.out)
  have B11 := Lib.hid (below_end B8.out hb)
  have X11 := Lib.hid (X8.out.below hb)
  clear hb hb9 hb10 hb11 N8 B8 X8 X9 X10 t0 t1 nb
  obtain ⟨t0, t1, -, -⟩ := two_free N11.out
  have nc : (c != c) = false := by simp
  go_upto_region 28 with (go_at_call 12; refine (D12c.out _ _ X11.out).mono ?_; rintro e w12 ⟨v12, rfl, X12, hb12⟩)
  have N12 := Lib.hid (keep_heap hb12 N11.out)
  have B12 := Lib.hid (below_end B11.out hb12)
  clear hb12 t0 t1 N11 B11 X11
  go_upto_region 29 with (go_at_call 28; refine (D28f.out _ _ X12.out).mono ?_; rintro e w13 ⟨rfl, hb13⟩)
  obtain ⟨t0, t1, -, -⟩ := two_free (keep_heap hb13 N12.out)
  have B13 := Lib.hid (below_end B12.out hb13)
  clear hb13 N12 B12 X12
  go_wp2_with (go_at_call 11; refine (awake11 _).mono ?_; rintro e y1 ⟨rfl, hy1⟩)
  exact bodyPost_ret (v := .bool true) (by simp [results, Try.f8, go_sem]) rfl ⟨rfl, below_end B13.out hy1⟩
end Ytmgoonahpndfoaa
end Go.Proofs
