/- The law ConfigCovers. -/
import Derived.Test.YtoebnjciioiccaaDoorCar
namespace Go.Proofs
namespace YtoebnjciioiccaaDoor
open Go.RowKit

set_option maxRecDepth 100000 in
theorem covers7_bad (C N S K Q : Int) (hg : ¬ good C N S K Q) (w : World) :
    Calls Tryd.prog 7 #[.agg #[.int .i64 C, .int .i64 N, .int .i64 S, .int .i64 K, .int .i64 Q]] w fun e w' => e = .returned (.bool true) ∧ Below w.heap.size w w' := by
  have F16 := Lib.hid (words16_bad C N S K Q hg)
  clear hg
  go_enter Tryd.func7, Tryd.ntmps7
  go_wp2_with (first
    | (go_at_call 16; refine (F16.out _).mono ?_; rintro e w1 ⟨rfl, hb1⟩)
    | (go_at_call 15; refine (awake15 _).mono ?_; rintro e w2 ⟨rfl, hb2⟩))
  go_ret
  exact ⟨rfl, (below_alloc_l hb1).trans (hb2.mono (below_alloc_l hb1).size)⟩

set_option maxRecDepth 100000 in
set_option maxHeartbeats 8000000 in
theorem covers7_good (C N S K Q : Int) (hg : good C N S K Q) (w : World) :
    Calls Tryd.prog 7 #[.agg #[.int .i64 C, .int .i64 N, .int .i64 S, .int .i64 K, .int .i64 Q]] w fun e w' => e = .returned (.bool true) ∧ Below w.heap.size w w' := by
  have HG := Lib.hid hg
  have F16 := Lib.hid (words16_good C N S K Q hg)
  have X1 := Lib.hid (car26_of C N S K Q (1 + S + N * C) 0 0 7 (Lib.hid (place28_out C N S K Q (1 + S + N * C) hg (by unfold inWords; omega))))
  have X0 := Lib.hid (car26_of C N S K Q 0 0 0 7 (Lib.hid (place28_out C N S K Q 0 hg (by unfold inWords; omega))))
  have s0 := Lib.hid (box_new w C N S K Q)
  obtain ⟨c0, c1, n0, n1, z0, z1, k0, k1, q0, q1⟩ := hg
  have m := mul_range (show 0 ≤ N by omega) n1 (show 0 ≤ C by omega) c1
  obtain ⟨m0, m1⟩ := m
  simp only [Int.reduceMul] at m1
  go_enter Tryd.func7, Tryd.ntmps7
  go_wp2_with (go_at_call 16; refine (F16.out _).mono ?_; rintro e w1 ⟨rfl, hb1⟩; have s1 := Lib.hid (box_below s0.out hb1); clear hb1)
  go_loopw [5, 6] (fun av cr wr => ∃ c : Int, -1 ≤ c ∧ c ≤ N ∧ cr = .int .i64 c ∧ av = .int .i64 (startV C S c) ∧ Hid (wr.cell? ⟨w.heap.size, 0, none⟩ = some (.int .i64 C) ∧ wr.cell? ⟨w.heap.size, 1, none⟩ = some (.int .i64 N) ∧ wr.cell? ⟨w.heap.size, 2, none⟩ = some (.int .i64 S) ∧ wr.cell? ⟨w.heap.size, 3, none⟩ = some (.int .i64 K) ∧ wr.cell? ⟨w.heap.size, 4, none⟩ = some (.int .i64 Q) ∧ w.heap.size < wr.heap.size ∧ Below w.heap.size w wr)) (fun _ cr _ => (N - intOf cr).toNat)
  case atStart => exact ⟨-1, by omega, by omega, rfl, rfl, s1⟩
  case round =>
    obtain ⟨c, hc0, hc1, rfl, rfl, hs⟩ := hrel
    obtain ⟨a0, a1, a2, a3, a4, hz, _⟩ := hs.out
    by_cases hlt : c < N
    · have hic : inCar N c := ⟨hc0, hlt⟩
      have r := start_range C N S K Q c HG.out hic
      have FS := Lib.hid (space24_in C N S K Q c ⟨HG.out, hic⟩)
      have FP := Lib.hid (fun (A : Int) (h0 : startV C S c ≤ A) (h1 : A < endV C S c) => by have t := place_of C N S K Q c A HG.out hic h0 h1; have u := place28_in C N S K Q A HG.out t.1; rw [t.2.1, t.2.2] at u; exact u)
      have FX := Lib.hid (fun W : World => addr30_high C N S K Q c (endV C S c - startV C S c) _ _ (Lib.hid (space24_in C N S K Q c ⟨HG.out, hic⟩)) r.1 r.2.1 r.2.2 (by omega) W)
      have FA := Lib.hid (fun (A : Int) (h0 : startV C S c ≤ A) (h1 : A < endV C S c) (W : World) => by have u := addr30_in C N S K Q c (A - startV C S c) _ _ (Lib.hid (space24_in C N S K Q c ⟨HG.out, hic⟩)) r.1 r.2.1 r.2.2 (by omega) (by omega) W; rw [show startV C S c + (A - startV C S c) = A by omega] at u; exact u)
      have FC := Lib.hid (fun (A : Int) (h0 : startV C S c ≤ A) (h1 : A < endV C S c) => car26_of C N S K Q A c (A - startV C S c) 0 (Lib.hid (FP.out A h0 h1)))
      have NX := Lib.hid (start_next C S c hc0)
      obtain ⟨p, hp⟩ : ∃ p, startV C S c = p := ⟨_, rfl⟩
      obtain ⟨q, hq⟩ : ∃ q, endV C S c = q := ⟨_, rfl⟩
      rw [hp, hq] at FS FX r
      rw [hp, hq] at FP FA FC
      rw [hq] at NX
      rw [hp]
      clear hp hq
      obtain ⟨p0, p1, p2⟩ := r
      have wb : q - p = q - p := rfl
      clear wb hic
      go_wp2_with (go_at_call 24; refine (FS.out _).mono ?_; rintro e w2 ⟨rfl, hb⟩; have s2 := Lib.hid (box_below hs.out hb); clear hb)
      clear a0 a1 a2 a3 a4
      obtain ⟨wo, rfl⟩ : ∃ wo : World, wo = wr := ⟨_, rfl⟩
      go_loopw [10] (fun av wi => ∃ A : Int, p ≤ A ∧ A ≤ q ∧ av = .int .i64 A ∧ Hid (wi.cell? ⟨w.heap.size, 0, none⟩ = some (.int .i64 C) ∧ wi.cell? ⟨w.heap.size, 1, none⟩ = some (.int .i64 N) ∧ wi.cell? ⟨w.heap.size, 2, none⟩ = some (.int .i64 S) ∧ wi.cell? ⟨w.heap.size, 3, none⟩ = some (.int .i64 K) ∧ wi.cell? ⟨w.heap.size, 4, none⟩ = some (.int .i64 Q) ∧ w.heap.size < wi.heap.size ∧ Below w.heap.size w wi)) (fun av _ => (q - intOf av).toNat)
      case atStart => exact ⟨p, by omega, by omega, rfl, s2⟩
      case round =>
        obtain ⟨A, hA0, hA1, rfl, hi⟩ := hrel
        obtain ⟨a0, a1, a2, a3, a4, _, _⟩ := hi.out
        by_cases hA : A < q
        · go_wp2_with (first
            | (go_at_call 28; refine (FP.out A hA0 hA _).mono ?_; rintro e w3 ⟨rfl, hb⟩; have s3 := Lib.hid (box_below hi.out hb); clear hb a0 a1 a2 a3 a4; obtain ⟨a0, a1, a2, a3, a4, _, _⟩ := s3.out)
            | (go_at_call 26; refine (FC.out A hA0 hA _).mono ?_; rintro e w4 ⟨rfl, hb⟩; have s4 := Lib.hid (box_below s3.out hb); clear hb a0 a1 a2 a3 a4; obtain ⟨a0, a1, a2, a3, a4, _, _⟩ := s4.out)
            | (go_at_call 30; refine (FA.out A hA0 hA _).mono ?_; rintro e w5 ⟨rfl, hb⟩; have s5 := Lib.hid (box_below s4.out hb); clear hb a0 a1 a2 a3 a4))
          go_roundw
          case rel => exact ⟨A + 1, by omega, by omega, by go_num, s5⟩
          case measure => simp [intOf]; omega
        · obtain rfl : A = q := by omega
          go_wp2_with (go_at_call 30; refine (FX.out _).mono ?_; rintro e w5 ⟨rfl, hb⟩; have s5 := Lib.hid (box_below hi.out hb); clear hb a0 a1 a2 a3 a4)
          go_roundw
          case rel => exact ⟨c + 1, by omega, by omega, by go_num, by rw [NX.out], s5⟩
          case measure => simp [intOf]; omega
    · obtain rfl : c = N := by omega
      have NV : startV C S c = 1 + S + c * C := by unfold startV; rw [if_neg (by omega)]
      rw [NV]
      clear NV
      go_wp2_with fail
      refine (X1.out _).mono ?_
      rintro e w2 ⟨rfl, hb⟩
      have s2 := Lib.hid (box_below hs.out hb)
      clear hb a0 a1 a2 a3 a4
      obtain ⟨a0, a1, a2, a3, a4, _, _⟩ := s2.out
      go_wp2_with fail
      refine (X0.out _).mono ?_
      rintro e w3 ⟨rfl, hb⟩
      have s3 := Lib.hid (box_below s2.out hb)
      clear hb a0 a1 a2 a3 a4
      go_wp2_with (go_at_call 15; refine (awake15 _).mono ?_; rintro e w9 ⟨rfl, hb9⟩; have s9 := Lib.hid (box_below s3.out hb9))
      go_ret
      exact ⟨rfl, s9.out.2.2.2.2.2.2⟩
theorem covers7 (C N S K Q : Int) (w : World) :
    Calls Tryd.prog 7 #[.agg #[.int .i64 C, .int .i64 N, .int .i64 S, .int .i64 K, .int .i64 Q]] w fun e w' => e = .returned (.bool true) ∧ Below w.heap.size w w' := by
  by_cases hg : good C N S K Q
  · exact covers7_good C N S K Q hg w
  · exact covers7_bad C N S K Q hg w
end YtoebnjciioiccaaDoor
end Go.Proofs
