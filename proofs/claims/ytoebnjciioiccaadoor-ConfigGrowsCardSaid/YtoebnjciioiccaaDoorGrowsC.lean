/- The law ConfigGrows: where neither is within the limits; every config. -/
import Derived.Test.YtoebnjciioiccaaDoorGrowsB
namespace Go.Proofs
namespace YtoebnjciioiccaaDoor
open Go.RowKit

set_option maxRecDepth 100000 in
set_option maxHeartbeats 8000000 in
theorem grows9_nn (C N S K Q A X P : Int) (n0 : 0 ≤ N) (n1 : N ≤ 24) (z0 : 0 ≤ S) (z1 : S ≤ 64) (c0 : 0 ≤ C) (c1 : C ≤ 64) (a0 : 0 ≤ A) (a1 : A ≤ 2000) (x0 : 0 ≤ X) (x1 : X ≤ 2000)
    (r1 : (N != 24) = false) (r4 : (S != 64) = false) (FC : Hid (∀ W : World, Calls Tryd.prog 13 #[.agg #[.int .i64 C, .int .i64 N, .int .i64 S, .int .i64 K, .int .i64 Q]] W fun e w' => e = .returned (.int .i64 0) ∧ Below W.heap.size W w'))
    (FA : Hid (∀ W : World, Calls Tryd.prog 16 #[.agg #[.int .i64 C, .int .i64 N, .int .i64 S, .int .i64 K, .int .i64 Q]] W fun e w' => e = .returned (.tuple #[.int .i64 A, .int .i64 0]) ∧ Below W.heap.size W w')) (FX : Hid (∀ W : World, Calls Tryd.prog 20 #[.agg #[.int .i64 C, .int .i64 N, .int .i64 S, .int .i64 K, .int .i64 Q]] W fun e w' => e = .returned (.tuple #[.int .i64 X, .int .i64 0]) ∧ Below W.heap.size W w')) (FP : Hid (∀ W : World, Calls Tryd.prog 22 #[.agg #[.int .i64 C, .int .i64 N, .int .i64 S, .int .i64 K, .int .i64 Q]] W fun e w' => e = .returned (.tuple #[.int .i64 P, .int .i64 0]) ∧ Below W.heap.size W w')) (GA : Hid (∀ W : World, Calls Tryd.prog 16 #[.agg #[.int .i64 C, .int .i64 (N + 1), .int .i64 S, .int .i64 K, .int .i64 Q]] W fun e w' => e = .returned (.tuple #[.int .i64 0, .int .i64 7]) ∧ Below W.heap.size W w')) (GX : Hid (∀ W : World, Calls Tryd.prog 20 #[.agg #[.int .i64 C, .int .i64 (N + 1), .int .i64 S, .int .i64 K, .int .i64 Q]] W fun e w' => e = .returned (.tuple #[.int .i64 0, .int .i64 7]) ∧ Below W.heap.size W w')) (GP : Hid (∀ W : World, Calls Tryd.prog 22 #[.agg #[.int .i64 C, .int .i64 (N + 1), .int .i64 S, .int .i64 K, .int .i64 Q]] W fun e w' => e = .returned (.tuple #[.int .i64 0, .int .i64 7]) ∧ Below W.heap.size W w')) (HA : Hid (∀ W : World, Calls Tryd.prog 16 #[.agg #[.int .i64 C, .int .i64 N, .int .i64 (S + 1), .int .i64 K, .int .i64 Q]] W fun e w' => e = .returned (.tuple #[.int .i64 0, .int .i64 7]) ∧ Below W.heap.size W w')) (HX : Hid (∀ W : World, Calls Tryd.prog 20 #[.agg #[.int .i64 C, .int .i64 N, .int .i64 (S + 1), .int .i64 K, .int .i64 Q]] W fun e w' => e = .returned (.tuple #[.int .i64 0, .int .i64 7]) ∧ Below W.heap.size W w')) (HP : Hid (∀ W : World, Calls Tryd.prog 22 #[.agg #[.int .i64 C, .int .i64 N, .int .i64 (S + 1), .int .i64 K, .int .i64 Q]] W fun e w' => e = .returned (.tuple #[.int .i64 0, .int .i64 7]) ∧ Below W.heap.size W w')) (w : World) :
    Calls Tryd.prog 9 #[.agg #[.int .i64 C, .int .i64 N, .int .i64 S, .int .i64 K, .int .i64 Q]] w fun e w' => e = .returned (.bool true) ∧ Below w.heap.size w w' := by
  have s0 := Lib.hid (box_new w C N S K Q)

  go_enter Tryd.func9, Tryd.ntmps9
  go_wp2_with (go_at_call 13; refine (FC.out _).mono ?_; rintro e w1 ⟨rfl, hb1⟩; have h1 := Lib.hid ((hb1.block w.heap.size (by simp)).trans (heap_alloc_new w _)); have B1' := Lib.hid (below_alloc_l hb1); clear hb1; obtain ⟨q1a, q1b, q1c, q1d, q1e⟩ := cells5 h1.out; have hz1 := heap_lt h1.out)
  go_region
  all_goals go_wp2_with fail
  all_goals first
    | have t1 := Lib.hid (three_a h1.out B1'.out)
      refine (FA.out (((w1.alloc (.cells #[.int .i64 C, .int .i64 (N + 1), .int .i64 S, .int .i64 K, .int .i64 Q] 23)).alloc (.cells #[.int .i64 C, .int .i64 N, .int .i64 (S + 1), .int .i64 K, .int .i64 Q] 23)).drew)).mono ?_
    | have t1 := Lib.hid (three_b h1.out B1'.out)
      refine (FA.out (((w1.alloc (.cells #[.int .i64 C, .int .i64 N, .int .i64 (S + 1), .int .i64 K, .int .i64 Q] 23)).alloc (.cells #[.int .i64 C, .int .i64 (N + 1), .int .i64 S, .int .i64 K, .int .i64 Q] 23)).drew)).mono ?_
  all_goals rintro e w2 ⟨rfl, hb⟩
  all_goals have t2 := Lib.hid (three_below t1.out hb)
  all_goals clear hz1 hb t1 q1a q1b q1c q1d q1e h1 B1'
  all_goals obtain ⟨d0, d1, d2, d3, d4⟩ := cells5 t2.out.1
  all_goals go_wp2_with fail
  all_goals refine (FX.out w2).mono ?_
  all_goals rintro e w3 ⟨rfl, hb⟩
  all_goals have t3 := Lib.hid (three_below t2.out hb)
  all_goals clear hb t2 d0 d1 d2 d3 d4
  all_goals obtain ⟨d0, d1, d2, d3, d4⟩ := cells5 t3.out.1
  all_goals go_wp2_with fail
  all_goals refine (FP.out w3).mono ?_
  all_goals rintro e w4 ⟨rfl, hb⟩
  all_goals have t4 := Lib.hid (three_below t3.out hb)
  all_goals clear hb t3 d0 d1 d2 d3 d4
  all_goals obtain ⟨d0, d1, d2, d3, d4⟩ := cells5 t4.out.2.1
  all_goals obtain ⟨e0, e1, e2, e3, e4⟩ := cells5 t4.out.1
  all_goals go_wp2_with fail
  all_goals refine (GA.out w4).mono ?_
  all_goals rintro e w5 ⟨rfl, hb⟩
  all_goals have t5 := Lib.hid (three_below t4.out hb)
  all_goals clear hb t4 d0 d1 d2 d3 d4 e0 e1 e2 e3 e4
  all_goals obtain ⟨d0, d1, d2, d3, d4⟩ := cells5 t5.out.2.1
  all_goals go_wp2_with fail
  all_goals refine (GX.out w5).mono ?_
  all_goals rintro e w6 ⟨rfl, hb⟩
  all_goals have t6 := Lib.hid (three_below t5.out hb)
  all_goals clear hb t5 d0 d1 d2 d3 d4
  all_goals obtain ⟨d0, d1, d2, d3, d4⟩ := cells5 t6.out.2.1
  all_goals go_wp2_with fail
  all_goals refine (GP.out w6).mono ?_
  all_goals rintro e w7 ⟨rfl, hb⟩
  all_goals have t7 := Lib.hid (three_below t6.out hb)
  all_goals clear hb t6 d0 d1 d2 d3 d4
  all_goals obtain ⟨d0, d1, d2, d3, d4⟩ := cells5 t7.out.2.2.1
  all_goals obtain ⟨e0, e1, e2, e3, e4⟩ := cells5 t7.out.1
  all_goals go_wp2_with fail
  all_goals refine (HA.out w7).mono ?_
  all_goals rintro e w8 ⟨rfl, hb⟩
  all_goals have t8 := Lib.hid (three_below t7.out hb)
  all_goals clear hb t7 d0 d1 d2 d3 d4 e0 e1 e2 e3 e4
  all_goals obtain ⟨d0, d1, d2, d3, d4⟩ := cells5 t8.out.2.2.1
  all_goals go_wp2_with fail
  all_goals refine (HX.out w8).mono ?_
  all_goals rintro e w9 ⟨rfl, hb⟩
  all_goals have t9 := Lib.hid (three_below t8.out hb)
  all_goals clear hb t8 d0 d1 d2 d3 d4
  all_goals obtain ⟨d0, d1, d2, d3, d4⟩ := cells5 t9.out.2.2.1
  all_goals go_wp2_with fail
  all_goals refine (HP.out w9).mono ?_
  all_goals rintro e w10 ⟨rfl, hb⟩
  all_goals have t10 := Lib.hid (three_below t9.out hb)
  all_goals clear hb t9 d0 d1 d2 d3 d4
  all_goals obtain ⟨d0, d1, d2, d3, d4⟩ := cells5 t10.out.1
  all_goals go_wp2_with (go_at_call 15; refine (awake15 _).mono ?_; rintro e w11 ⟨rfl, hb⟩)
  all_goals go_ret
  all_goals exact ⟨rfl, t10.out.2.2.2.trans (hb.mono t10.out.2.2.2.size)⟩
set_option maxRecDepth 100000 in
theorem grows9_bad (C N S K Q : Int) (hg : ¬ good C N S K Q) (w : World) :
    Calls Tryd.prog 9 #[.agg #[.int .i64 C, .int .i64 N, .int .i64 S, .int .i64 K, .int .i64 Q]] w fun e w' => e = .returned (.bool true) ∧ Below w.heap.size w w' := by
  have F13 := Lib.hid (chk13_bad C N S K Q hg)
  clear hg
  go_enter Tryd.func9, Tryd.ntmps9
  go_wp2_with (first
    | (go_at_call 13; refine (F13.out _).mono ?_; rintro e w1 ⟨rfl, hb1⟩)
    | (go_at_call 15; refine (awake15 _).mono ?_; rintro e w2 ⟨rfl, hb2⟩))
  go_ret
  exact ⟨rfl, (below_alloc_l hb1).trans (hb2.mono (below_alloc_l hb1).size)⟩
theorem bound_grows (N C : Int) (h0 : 0 ≤ N) (h1 : 1 ≤ C) : (N + 1) * (N + 1) * (N * C + 1) < (N + 1 + 1) * (N + 1 + 1) * ((N + 1) * C + 1) := by
  have m := Int.mul_nonneg h0 (show 0 ≤ C by omega)
  have e : (N + 1) * C = N * C + C := by rw [Int.add_mul, Int.one_mul]
  have a := Int.mul_le_mul (show N + 1 ≤ N + 1 + 1 by omega) (show N + 1 ≤ N + 1 + 1 by omega) (by omega) (by omega)
  have b := Int.mul_le_mul_of_nonneg_right a (show 0 ≤ N * C + 1 by omega)
  have p : 0 < (N + 1 + 1) * (N + 1 + 1) := Int.mul_pos (by omega) (by omega)
  have c := Int.mul_lt_mul_of_pos_left (show N * C + 1 < (N + 1) * C + 1 by rw [e]; omega) p
  omega
theorem grows9 (C N S K Q : Int) (w : World) :
    Calls Tryd.prog 9 #[.agg #[.int .i64 C, .int .i64 N, .int .i64 S, .int .i64 K, .int .i64 Q]] w fun e w' => e = .returned (.bool true) ∧ Below w.heap.size w w' := by
  by_cases hg : good C N S K Q
  · have c := hg
    unfold good at c
    have m := mul_range (show 0 ≤ N by omega) (show N ≤ 24 by omega) (show 0 ≤ C by omega) (show C ≤ 64 by omega)
    have m2 := mul_range (show 0 ≤ C by omega) (show C ≤ 64 by omega) (show 0 ≤ N - 6 by omega) (show N - 6 ≤ 18 by omega)
    simp only [Int.reduceMul] at m m2
    have e1 : (N + 1) * C = N * C + C := by rw [Int.add_mul, Int.one_mul]
    have e2 : C * (N + 1 - 6) = C * (N - 6) + C := by rw [show N + 1 - 6 = N - 6 + 1 by omega, Int.mul_add, Int.mul_one]
    have e3 := bound_grows N C (by omega) (by omega)
    have FC := Lib.hid (chk13_good C N S K Q hg)
    have FA := Lib.hid (words16_good C N S K Q hg)
    have FX := Lib.hid (budget20_good C N S K Q hg)
    have FP := Lib.hid (bound22_good C N S K Q hg)
    by_cases hc : good C (N + 1) S K Q
    · have GA := Lib.hid (words16_good C (N + 1) S K Q hc)
      have GX := Lib.hid (budget20_good C (N + 1) S K Q hc)
      have GP := Lib.hid (bound22_good C (N + 1) S K Q hc)
      by_cases hw : good C N (S + 1) K Q
      · exact grows9_oo C N S K Q _ _ _ _ _ _ _ _ _ (by omega) (by omega) (by omega) (by omega) (by omega) (by omega) (by omega) (by omega) (by omega) (by omega) (by simp; omega) (by simp; omega) (decide_eq_false (by omega)) (by simp; omega) (by simp) (by simp) FC FA FX FP GA GX GP (Lib.hid (words16_good C N (S + 1) K Q hw)) (Lib.hid (budget20_good C N (S + 1) K Q hw)) (Lib.hid (bound22_good C N (S + 1) K Q hw)) w
      · have hS : S = 64 := by unfold good at hw; omega
        exact grows9_on C N S K Q _ _ _ _ _ _ (by omega) (by omega) (by omega) (by omega) (by omega) (by omega) (by omega) (by omega) (by omega) (by omega) (by simp; omega) (by simp; omega) (decide_eq_false (by omega)) (by simp [hS]) FC FA FX FP GA GX GP (Lib.hid (words16_bad C N (S + 1) K Q hw)) (Lib.hid (budget20_bad C N (S + 1) K Q hw)) (Lib.hid (bound22_bad C N (S + 1) K Q hw)) w
    · have hN : N = 24 := by unfold good at hc; omega
      have GA := Lib.hid (words16_bad C (N + 1) S K Q hc)
      have GX := Lib.hid (budget20_bad C (N + 1) S K Q hc)
      have GP := Lib.hid (bound22_bad C (N + 1) S K Q hc)
      by_cases hw : good C N (S + 1) K Q
      · exact grows9_no C N S K Q _ _ _ _ _ _ (by omega) (by omega) (by omega) (by omega) (by omega) (by omega) (by omega) (by omega) (by omega) (by omega) (by simp [hN]) (by simp; omega) (by simp) (by simp) FC FA FX FP GA GX GP (Lib.hid (words16_good C N (S + 1) K Q hw)) (Lib.hid (budget20_good C N (S + 1) K Q hw)) (Lib.hid (bound22_good C N (S + 1) K Q hw)) w
      · have hS : S = 64 := by unfold good at hw; omega
        exact grows9_nn C N S K Q _ _ _ (by omega) (by omega) (by omega) (by omega) (by omega) (by omega) (by omega) (by omega) (by omega) (by omega) (by simp [hN]) (by simp [hS]) FC FA FX FP GA GX GP (Lib.hid (words16_bad C N (S + 1) K Q hw)) (Lib.hid (budget20_bad C N (S + 1) K Q hw)) (Lib.hid (bound22_bad C N (S + 1) K Q hw)) w
  · exact grows9_bad C N S K Q hg w
end YtoebnjciioiccaaDoor
end Go.Proofs
