/- Budget, both of them. -/
import Derived.Test.YtoebnjciioiccaaDoorSums
import Derived.Deep.RegionHeld3
namespace Go.Proofs
namespace YtoebnjciioiccaaDoor
open Go.RowKit

set_option maxRecDepth 100000 in
theorem budget20_bad (C N S K Q : Int) (hg : ¬ good C N S K Q) (w : World) :
    Calls Tryd.prog 20 #[.agg #[.int .i64 C, .int .i64 N, .int .i64 S, .int .i64 K, .int .i64 Q]] w fun e w' => e = .returned (.tuple #[.int .i64 0, .int .i64 7]) ∧ Below w.heap.size w w' := by
  have HG := Lib.hid hg
  clear hg
  go_enter Tryd.func20, Tryd.ntmps20
  go_wp2_with (go_at_call 13; refine (chk13_bad _ _ _ _ _ HG.out _).mono ?_; rintro e w1 ⟨rfl, hb1⟩; obtain ⟨hc1, hf1⟩ := bcell hb1)
  go_ret2
  exact ⟨rfl, below_alloc_l hb1⟩
set_option maxRecDepth 100000 in
theorem budget21_bad (C N S K Q : Int) (hg : ¬ good C N S K Q) (w : World) :
    Calls Tryd.prog 21 #[.agg #[.int .i64 C, .int .i64 N, .int .i64 S, .int .i64 K, .int .i64 Q]] w fun e w' => e = .returned (.tuple #[.int .i64 0, .int .i64 7]) ∧ Below w.heap.size w w' := by
  have HG := Lib.hid hg
  clear hg
  go_enter Tryd.func21, Tryd.ntmps21
  go_wp2_with (go_at_call 14; refine (chk14_no _ _ _ _ _ HG.out _).mono ?_; rintro e w1 ⟨rfl, hb1⟩; obtain ⟨hc1, hf1⟩ := bcell hb1)
  go_ret2
  exact ⟨rfl, below_alloc_l hb1⟩
set_option maxRecDepth 100000 in
set_option maxHeartbeats 1000000 in
theorem budget20_good (C N S K Q : Int) (hg : good C N S K Q) (w : World) :
    Calls Tryd.prog 20 #[.agg #[.int .i64 C, .int .i64 N, .int .i64 S, .int .i64 K, .int .i64 Q]] w fun e w' => e = .returned (.tuple #[.int .i64 (C * (N - 6)), .int .i64 0]) ∧ Below w.heap.size w w' := by
  have HG := Lib.hid hg
  obtain ⟨c0, c1, n0, n1, s0, s1, k0, k1, q0, q1⟩ := hg
  have m := mul_range (show 0 ≤ N by omega) n1 (show 0 ≤ C by omega) c1
  obtain ⟨m0, m1⟩ := m
  simp only [Int.reduceMul] at m1
  have m2 := mul_range (show 0 ≤ C by omega) c1 (show 0 ≤ N - 6 by omega) (show N - 6 ≤ 18 by omega)
  obtain ⟨m20, m21⟩ := m2
  simp only [Int.reduceMul] at m21
  go_enter Tryd.func20, Tryd.ntmps20
  go_wp2_with (go_at_call 13; refine (chk13_good _ _ _ _ _ HG.out _).mono ?_; rintro e w1 ⟨rfl, hb1⟩; obtain ⟨hc1, hf1⟩ := bcell hb1)
  go_ret2
  exact ⟨rfl, below_alloc_l hb1⟩
set_option maxRecDepth 100000 in
set_option maxHeartbeats 1000000 in
theorem budget21_good (C N S K Q : Int) (hg : good C N S K Q) (w : World) :
    Calls Tryd.prog 21 #[.agg #[.int .i64 C, .int .i64 N, .int .i64 S, .int .i64 K, .int .i64 Q]] w fun e w' => e = .returned (.tuple #[.int .i64 (C * (N - 6)), .int .i64 0]) ∧ Below w.heap.size w w' := by
  have HG := Lib.hid hg
  obtain ⟨c0, c1, n0, n1, s0, s1, k0, k1, q0, q1⟩ := hg
  have m := mul_range (show 0 ≤ N by omega) n1 (show 0 ≤ C by omega) c1
  obtain ⟨m0, m1⟩ := m
  simp only [Int.reduceMul] at m1
  have m2 := mul_range (show 0 ≤ C by omega) c1 (show 0 ≤ N - 6 by omega) (show N - 6 ≤ 18 by omega)
  obtain ⟨m20, m21⟩ := m2
  simp only [Int.reduceMul] at m21
  go_enter Tryd.func21, Tryd.ntmps21
  go_wp2_with (go_at_call 14; refine (chk14_yes _ _ _ _ _ HG.out _).mono ?_; rintro e w1 ⟨rfl, hb1⟩; obtain ⟨hc1, hf1⟩ := bcell hb1)
  go_ret2
  exact ⟨rfl, below_alloc_l hb1⟩
theorem budget20 (C N S K Q : Int) (w : World) :
    Calls Tryd.prog 20 #[.agg #[.int .i64 C, .int .i64 N, .int .i64 S, .int .i64 K, .int .i64 Q]] w fun e w' => e = .returned (.tuple #[.int .i64 (budgetR C N S K Q), .int .i64 (chkE C N S K Q)]) ∧ Below w.heap.size w w' := by
  unfold budgetR chkE
  by_cases hg : good C N S K Q
  · rw [if_pos hg, if_pos hg]; exact budget20_good C N S K Q hg w
  · rw [if_neg hg, if_neg hg]; exact budget20_bad C N S K Q hg w
theorem budget21 (C N S K Q : Int) (w : World) :
    Calls Tryd.prog 21 #[.agg #[.int .i64 C, .int .i64 N, .int .i64 S, .int .i64 K, .int .i64 Q]] w fun e w' => e = .returned (.tuple #[.int .i64 (budgetR C N S K Q), .int .i64 (chkE C N S K Q)]) ∧ Below w.heap.size w w' := by
  unfold budgetR chkE
  by_cases hg : good C N S K Q
  · rw [if_pos hg, if_pos hg]; exact budget21_good C N S K Q hg w
  · rw [if_neg hg, if_neg hg]; exact budget21_bad C N S K Q hg w
end YtoebnjciioiccaaDoor
end Go.Proofs
