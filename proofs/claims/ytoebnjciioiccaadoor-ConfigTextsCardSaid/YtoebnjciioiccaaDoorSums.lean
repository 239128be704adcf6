/- The sums: Words, Largest, Budget, Bound, Fits; the document's and the program's. -/
import Derived.Test.YtoebnjciioiccaaDoorChk
import Derived.IntWalk
namespace Go.Proofs
namespace YtoebnjciioiccaaDoor
open Go.RowKit

theorem chk14 (C N S K Q : Int) (w : World) :
    Calls Tryd.prog 14 #[.agg #[.int .i64 C, .int .i64 N, .int .i64 S, .int .i64 K, .int .i64 Q]] w fun e w' => e = .returned (.int .i64 (chkE C N S K Q)) ∧ Below w.heap.size w w' := by
  unfold chkE
  by_cases h0 : 8 ≤ C ∧ C ≤ 64
  · by_cases h1 : 7 ≤ N ∧ N ≤ 24
    · by_cases h2 : 4 ≤ S ∧ S ≤ 64
      · by_cases h3 : 1 ≤ K ∧ K ≤ 8
        · by_cases h4 : 2 ≤ Q ∧ Q ≤ 16
          · rw [if_pos (by unfold good; omega)]; exact chk14_good C N S K Q h0.1 h0.2 h1.1 h1.2 h2.1 h2.2 h3.1 h3.2 h4.1 h4.2 w
          · rw [if_neg (by unfold good; omega)]; exact chk14_bad4 C N S K Q h0.1 h0.2 h1.1 h1.2 h2.1 h2.2 h3.1 h3.2 (by omega) w
        · rw [if_neg (by unfold good; omega)]; exact chk14_bad3 C N S K Q h0.1 h0.2 h1.1 h1.2 h2.1 h2.2 (by omega) w
      · rw [if_neg (by unfold good; omega)]; exact chk14_bad2 C N S K Q h0.1 h0.2 h1.1 h1.2 (by omega) w
    · rw [if_neg (by unfold good; omega)]; exact chk14_bad1 C N S K Q h0.1 h0.2 (by omega) w
  · rw [if_neg (by unfold good; omega)]; exact chk14_bad0 C N S K Q (by omega) w
theorem chk14_yes (C N S K Q : Int) (hg : good C N S K Q) (w : World) :
    Calls Tryd.prog 14 #[.agg #[.int .i64 C, .int .i64 N, .int .i64 S, .int .i64 K, .int .i64 Q]] w fun e w' => e = .returned (.int .i64 0) ∧ Below w.heap.size w w' := by
  have h := chk14 C N S K Q w
  rwa [chkE, if_pos hg] at h
theorem chk14_no (C N S K Q : Int) (hg : ¬ good C N S K Q) (w : World) :
    Calls Tryd.prog 14 #[.agg #[.int .i64 C, .int .i64 N, .int .i64 S, .int .i64 K, .int .i64 Q]] w fun e w' => e = .returned (.int .i64 7) ∧ Below w.heap.size w w' := by
  have h := chk14 C N S K Q w
  rwa [chkE, if_neg hg] at h

theorem mul_range {a b A B : Int} (a0 : 0 ≤ a) (a1 : a ≤ A) (b0 : 0 ≤ b) (b1 : b ≤ B) : 0 ≤ a * b ∧ a * b ≤ A * B :=
  ⟨Int.mul_nonneg a0 b0, Int.mul_le_mul a1 b1 b0 (by omega)⟩

theorem first39 (C N S K Q : Int) (h0 : 0 ≤ S) (h1 : S ≤ 64) (w : World) :
    Calls Tryd.prog 39 #[.agg #[.int .i64 C, .int .i64 N, .int .i64 S, .int .i64 K, .int .i64 Q]] w fun e w' => e = .returned (.int .i64 (1 + S)) ∧ w.alloc (.cells #[.int .i64 C, .int .i64 N, .int .i64 S, .int .i64 K, .int .i64 Q] 23) = w' := by
  go_enter Tryd.func39, Tryd.ntmps39
  go_wp2
  go_ret
  exact ⟨rfl, rfl⟩
theorem heap40 (C N S K Q : Int) (h0 : 0 ≤ N * C) (h1 : N * C ≤ 1536) (w : World) :
    Calls Tryd.prog 40 #[.agg #[.int .i64 C, .int .i64 N, .int .i64 S, .int .i64 K, .int .i64 Q]] w fun e w' => e = .returned (.int .i64 (N * C)) ∧ w.alloc (.cells #[.int .i64 C, .int .i64 N, .int .i64 S, .int .i64 K, .int .i64 Q] 23) = w' := by
  go_enter Tryd.func40, Tryd.ntmps40
  go_wp2
  go_ret
  exact ⟨rfl, rfl⟩

def wordsR (C N S K Q : Int) : Int := if good C N S K Q then 1 + S + N * C else 0
def largestV (C S : Int) : Int := if S < C / 2 then S else C / 2
def largestR (C N S K Q : Int) : Int := if good C N S K Q then largestV C S else 0
def budgetR (C N S K Q : Int) : Int := if good C N S K Q then C * (N - 6) else 0
def boundR (C N S K Q : Int) : Int := if good C N S K Q then (N + 1) * (N + 1) * (N * C + 1) else 0

set_option maxRecDepth 100000 in
theorem words16_bad (C N S K Q : Int) (hg : ¬ good C N S K Q) (w : World) :
    Calls Tryd.prog 16 #[.agg #[.int .i64 C, .int .i64 N, .int .i64 S, .int .i64 K, .int .i64 Q]] w fun e w' => e = .returned (.tuple #[.int .i64 0, .int .i64 7]) ∧ Below w.heap.size w w' := by
  have HG := Lib.hid hg
  clear hg
  go_enter Tryd.func16, Tryd.ntmps16
  go_wp2_with (go_at_call 13; refine (chk13_bad _ _ _ _ _ HG.out _).mono ?_; rintro e w1 ⟨rfl, hb1⟩; obtain ⟨hc1, hf1⟩ := bcell hb1)
  go_ret2
  exact ⟨rfl, below_alloc_l hb1⟩
set_option maxRecDepth 100000 in
theorem words17_bad (C N S K Q : Int) (hg : ¬ good C N S K Q) (w : World) :
    Calls Tryd.prog 17 #[.agg #[.int .i64 C, .int .i64 N, .int .i64 S, .int .i64 K, .int .i64 Q]] w fun e w' => e = .returned (.tuple #[.int .i64 0, .int .i64 7]) ∧ Below w.heap.size w w' := by
  have HG := Lib.hid hg
  clear hg
  go_enter Tryd.func17, Tryd.ntmps17
  go_wp2_with (go_at_call 14; refine (chk14_no _ _ _ _ _ HG.out _).mono ?_; rintro e w1 ⟨rfl, hb1⟩; obtain ⟨hc1, hf1⟩ := bcell hb1)
  go_ret2
  exact ⟨rfl, below_alloc_l hb1⟩
set_option maxRecDepth 100000 in
set_option maxHeartbeats 1000000 in
theorem words17_good (C N S K Q : Int) (hg : good C N S K Q) (w : World) :
    Calls Tryd.prog 17 #[.agg #[.int .i64 C, .int .i64 N, .int .i64 S, .int .i64 K, .int .i64 Q]] w fun e w' => e = .returned (.tuple #[.int .i64 (1 + S + N * C), .int .i64 0]) ∧ Below w.heap.size w w' := by
  have HG := Lib.hid hg
  obtain ⟨c0, c1, n0, n1, s0, s1, k0, k1, q0, q1⟩ := hg
  have m := mul_range (show 0 ≤ N by omega) n1 (show 0 ≤ C by omega) c1
  obtain ⟨m0, m1⟩ := m
  simp only [Int.reduceMul] at m1
  go_enter Tryd.func17, Tryd.ntmps17
  go_wp2_with (go_at_call 14; refine (chk14_yes _ _ _ _ _ HG.out _).mono ?_; rintro e w1 ⟨rfl, hb1⟩; obtain ⟨hc1, hf1⟩ := bcell hb1)
  go_ret2
  exact ⟨rfl, below_alloc_l hb1⟩
set_option maxRecDepth 100000 in
set_option maxHeartbeats 1000000 in
theorem words16_good (C N S K Q : Int) (hg : good C N S K Q) (w : World) :
    Calls Tryd.prog 16 #[.agg #[.int .i64 C, .int .i64 N, .int .i64 S, .int .i64 K, .int .i64 Q]] w fun e w' => e = .returned (.tuple #[.int .i64 (1 + S + N * C), .int .i64 0]) ∧ Below w.heap.size w w' := by
  have HG := Lib.hid hg
  obtain ⟨c0, c1, n0, n1, s0, s1, k0, k1, q0, q1⟩ := hg
  have m := mul_range (show 0 ≤ N by omega) n1 (show 0 ≤ C by omega) c1
  obtain ⟨m0, m1⟩ := m
  simp only [Int.reduceMul] at m1
  have s2 : 0 ≤ S := by omega
  have wq1 : IntKind.i64.wrap (1 + S + N * C) = 1 + S + N * C := IntWalk.i64_in _ (by omega)
  go_enter Tryd.func16, Tryd.ntmps16
  go_wp2_with (go_at_call 13; refine (chk13_good _ _ _ _ _ HG.out _).mono ?_; rintro e w1 ⟨rfl, hb1⟩; obtain ⟨hc1, hf1⟩ := bcell hb1; have hz1 : w.heap.size < w1.heap.size := Nat.lt_of_lt_of_le (by simp) hb1.size)
  go_region_with (first
    | (go_at_call 39; refine (first39 _ _ _ _ _ (by assumption) (by assumption) _).mono ?_; rintro e w2 ⟨rfl, rfl⟩)
    | (go_at_call 40; refine (heap40 _ _ _ _ _ (by assumption) (by assumption) _).mono ?_; rintro e w3 ⟨rfl, rfl⟩))
  all_goals go_wp2
  all_goals go_ret2
  all_goals refine ⟨rfl, ?_⟩
  all_goals have hB := below_alloc_l hb1
  all_goals clear wq1
  all_goals (repeat (first | exact hB | refine Below.drew ?_ | (refine Below.alloc ?_ (by first | omega | (simp; omega)) _)))
theorem words16 (C N S K Q : Int) (w : World) :
    Calls Tryd.prog 16 #[.agg #[.int .i64 C, .int .i64 N, .int .i64 S, .int .i64 K, .int .i64 Q]] w fun e w' => e = .returned (.tuple #[.int .i64 (wordsR C N S K Q), .int .i64 (chkE C N S K Q)]) ∧ Below w.heap.size w w' := by
  unfold wordsR chkE
  by_cases hg : good C N S K Q
  · rw [if_pos hg, if_pos hg]; exact words16_good C N S K Q hg w
  · rw [if_neg hg, if_neg hg]; exact words16_bad C N S K Q hg w
theorem words17 (C N S K Q : Int) (w : World) :
    Calls Tryd.prog 17 #[.agg #[.int .i64 C, .int .i64 N, .int .i64 S, .int .i64 K, .int .i64 Q]] w fun e w' => e = .returned (.tuple #[.int .i64 (wordsR C N S K Q), .int .i64 (chkE C N S K Q)]) ∧ Below w.heap.size w w' := by
  unfold wordsR chkE
  by_cases hg : good C N S K Q
  · rw [if_pos hg, if_pos hg]; exact words17_good C N S K Q hg w
  · rw [if_neg hg, if_neg hg]; exact words17_bad C N S K Q hg w
end YtoebnjciioiccaaDoor
end Go.Proofs
