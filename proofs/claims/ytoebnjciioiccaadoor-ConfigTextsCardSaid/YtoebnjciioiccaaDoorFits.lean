/- Fits, both of them. -/
import Derived.Test.YtoebnjciioiccaaDoorSumL
namespace Go.Proofs
namespace YtoebnjciioiccaaDoor
open Go.RowKit

theorem largestV_range (C N S K Q : Int) (hg : good C N S K Q) : 4 ≤ largestV C S ∧ largestV C S ≤ 32 := by
  obtain ⟨c0, c1, n0, n1, s0, s1, k0, k1, q0, q1⟩ := hg
  unfold largestV
  split <;> omega
def fitsR (C N S K Q n : Int) : Bool := decide (good C N S K Q) && decide (1 ≤ n ∧ n ≤ largestV C S)
set_option maxRecDepth 100000 in
set_option maxHeartbeats 1000000 in
theorem fits11_bad (C N S K Q n : Int) (hg : ¬ good C N S K Q) (w : World) :
    Calls Tryd.prog 11 #[.agg #[.int .i64 C, .int .i64 N, .int .i64 S, .int .i64 K, .int .i64 Q], .int .i64 n] w fun e w' => e = .returned (.tuple #[.bool false, .int .i64 7]) ∧ Below w.heap.size w w' := by
  have HG := Lib.hid hg
  clear hg
  go_enter Tryd.func11, Tryd.ntmps11
  go_wp2_with (first
    | (go_at_call 18; refine (largest18_bad _ _ _ _ _ HG.out _).mono ?_; rintro e w1 ⟨rfl, hb1⟩; obtain ⟨hc1, hf1⟩ := bcell hb1))
  go_ret2
  exact ⟨rfl, below_alloc_l hb1⟩
set_option maxRecDepth 100000 in
set_option maxHeartbeats 1000000 in
theorem fits11_yes (C N S K Q n : Int) (hg : good C N S K Q) (h1 : 1 ≤ n) (h2 : n ≤ largestV C S) (w : World) :
    Calls Tryd.prog 11 #[.agg #[.int .i64 C, .int .i64 N, .int .i64 S, .int .i64 K, .int .i64 Q], .int .i64 n] w fun e w' => e = .returned (.tuple #[.bool true, .int .i64 0]) ∧ Below w.heap.size w w' := by
  have HG := Lib.hid hg
  obtain ⟨l0, l1⟩ := largestV_range C N S K Q hg
  obtain ⟨L, hL⟩ : ∃ L, largestV C S = L := ⟨_, rfl⟩
  rw [hL] at l0 l1 h2
  have HL := Lib.hid hL
  clear hL hg
  have q1 : decide (1 ≤ n) = true := decide_eq_true h1
  have q2 : decide (n ≤ L) = true := decide_eq_true h2
  go_enter Tryd.func11, Tryd.ntmps11
  go_wp2_with (first
    | (go_at_call 18; refine (largest18_good _ _ _ _ _ HG.out _).mono ?_; rintro e w1 ⟨rfl, hb1⟩; obtain ⟨hc1, hf1⟩ := bcell hb1; rw [HL.out])
    | (go_at_call 37; refine (in37_yes _ _ _ (by assumption) (by assumption) _).mono ?_; rintro e w' ⟨rfl, rfl⟩))
  go_ret2
  exact ⟨rfl, below_alloc_l hb1⟩
set_option maxRecDepth 100000 in
set_option maxHeartbeats 1000000 in
theorem fits11_no (C N S K Q n : Int) (hg : good C N S K Q) (h1 : n < 1 ∨ largestV C S < n) (w : World) :
    Calls Tryd.prog 11 #[.agg #[.int .i64 C, .int .i64 N, .int .i64 S, .int .i64 K, .int .i64 Q], .int .i64 n] w fun e w' => e = .returned (.tuple #[.bool false, .int .i64 0]) ∧ Below w.heap.size w w' := by
  have HG := Lib.hid hg
  obtain ⟨l0, l1⟩ := largestV_range C N S K Q hg
  obtain ⟨L, hL⟩ : ∃ L, largestV C S = L := ⟨_, rfl⟩
  rw [hL] at l0 l1 h1
  have HL := Lib.hid hL
  clear hL hg
  by_cases hn : 1 ≤ n
  · have q1 : decide (1 ≤ n) = true := decide_eq_true hn
    have q2 : decide (n ≤ L) = false := decide_eq_false (by omega)
    clear h1
    go_enter Tryd.func11, Tryd.ntmps11
    go_wp2_with (first
      | (go_at_call 18; refine (largest18_good _ _ _ _ _ HG.out _).mono ?_; rintro e w1 ⟨rfl, hb1⟩; obtain ⟨hc1, hf1⟩ := bcell hb1; rw [HL.out])
      | (go_at_call 37; refine (in37_no _ _ _ (by assumption) _).mono ?_; rintro e w' ⟨rfl, rfl⟩))
    go_ret2
    exact ⟨rfl, below_alloc_l hb1⟩
  · have q1 : decide (1 ≤ n) = false := decide_eq_false hn
    clear h1
    go_enter Tryd.func11, Tryd.ntmps11
    go_wp2_with (first
      | (go_at_call 18; refine (largest18_good _ _ _ _ _ HG.out _).mono ?_; rintro e w1 ⟨rfl, hb1⟩; obtain ⟨hc1, hf1⟩ := bcell hb1; rw [HL.out])
      | (go_at_call 37; refine (in37_no _ _ _ (by assumption) _).mono ?_; rintro e w' ⟨rfl, rfl⟩))
    go_ret2
    exact ⟨rfl, below_alloc_l hb1⟩
set_option maxRecDepth 100000 in
set_option maxHeartbeats 1000000 in
theorem fits12_bad (C N S K Q n : Int) (hg : ¬ good C N S K Q) (w : World) :
    Calls Tryd.prog 12 #[.agg #[.int .i64 C, .int .i64 N, .int .i64 S, .int .i64 K, .int .i64 Q], .int .i64 n] w fun e w' => e = .returned (.tuple #[.bool false, .int .i64 7]) ∧ Below w.heap.size w w' := by
  have HG := Lib.hid hg
  clear hg
  go_enter Tryd.func12, Tryd.ntmps12
  go_wp2_with (first
    | (go_at_call 19; refine (largest19_bad _ _ _ _ _ HG.out _).mono ?_; rintro e w1 ⟨rfl, hb1⟩; obtain ⟨hc1, hf1⟩ := bcell hb1))
  go_ret2
  exact ⟨rfl, below_alloc_l hb1⟩
set_option maxRecDepth 100000 in
set_option maxHeartbeats 1000000 in
theorem fits12_yes (C N S K Q n : Int) (hg : good C N S K Q) (h1 : 1 ≤ n) (h2 : n ≤ largestV C S) (w : World) :
    Calls Tryd.prog 12 #[.agg #[.int .i64 C, .int .i64 N, .int .i64 S, .int .i64 K, .int .i64 Q], .int .i64 n] w fun e w' => e = .returned (.tuple #[.bool true, .int .i64 0]) ∧ Below w.heap.size w w' := by
  have HG := Lib.hid hg
  obtain ⟨l0, l1⟩ := largestV_range C N S K Q hg
  obtain ⟨L, hL⟩ : ∃ L, largestV C S = L := ⟨_, rfl⟩
  rw [hL] at l0 l1 h2
  have HL := Lib.hid hL
  clear hL hg
  go_enter Tryd.func12, Tryd.ntmps12
  go_wp2_with (first
    | (go_at_call 19; refine (largest19_good _ _ _ _ _ HG.out _).mono ?_; rintro e w1 ⟨rfl, hb1⟩; obtain ⟨hc1, hf1⟩ := bcell hb1; rw [HL.out])
    | (go_at_call 37; refine (in37_yes _ _ _ (by assumption) (by assumption) _).mono ?_; rintro e w' ⟨rfl, rfl⟩))
  go_ret2
  exact ⟨rfl, below_alloc_l hb1⟩
set_option maxRecDepth 100000 in
set_option maxHeartbeats 1000000 in
theorem fits12_no (C N S K Q n : Int) (hg : good C N S K Q) (h1 : n < 1 ∨ largestV C S < n) (w : World) :
    Calls Tryd.prog 12 #[.agg #[.int .i64 C, .int .i64 N, .int .i64 S, .int .i64 K, .int .i64 Q], .int .i64 n] w fun e w' => e = .returned (.tuple #[.bool false, .int .i64 0]) ∧ Below w.heap.size w w' := by
  have HG := Lib.hid hg
  obtain ⟨l0, l1⟩ := largestV_range C N S K Q hg
  obtain ⟨L, hL⟩ : ∃ L, largestV C S = L := ⟨_, rfl⟩
  rw [hL] at l0 l1 h1
  have HL := Lib.hid hL
  clear hL hg
  go_enter Tryd.func12, Tryd.ntmps12
  go_wp2_with (first
    | (go_at_call 19; refine (largest19_good _ _ _ _ _ HG.out _).mono ?_; rintro e w1 ⟨rfl, hb1⟩; obtain ⟨hc1, hf1⟩ := bcell hb1; rw [HL.out])
    | (go_at_call 37; refine (in37_no _ _ _ (by assumption) _).mono ?_; rintro e w' ⟨rfl, rfl⟩))
  go_ret2
  exact ⟨rfl, below_alloc_l hb1⟩
theorem fits11 (C N S K Q n : Int) (w : World) :
    Calls Tryd.prog 11 #[.agg #[.int .i64 C, .int .i64 N, .int .i64 S, .int .i64 K, .int .i64 Q], .int .i64 n] w fun e w' => e = .returned (.tuple #[.bool (fitsR C N S K Q n), .int .i64 (chkE C N S K Q)]) ∧ Below w.heap.size w w' := by
  unfold fitsR chkE
  by_cases hg : good C N S K Q
  · rw [if_pos hg, decide_eq_true hg, Bool.true_and]
    by_cases h : 1 ≤ n ∧ n ≤ largestV C S
    · rw [decide_eq_true h]; exact fits11_yes C N S K Q n hg h.1 h.2 w
    · rw [decide_eq_false h]; exact fits11_no C N S K Q n hg (by omega) w
  · rw [if_neg hg, decide_eq_false hg, Bool.false_and]; exact fits11_bad C N S K Q n hg w
theorem fits12 (C N S K Q n : Int) (w : World) :
    Calls Tryd.prog 12 #[.agg #[.int .i64 C, .int .i64 N, .int .i64 S, .int .i64 K, .int .i64 Q], .int .i64 n] w fun e w' => e = .returned (.tuple #[.bool (fitsR C N S K Q n), .int .i64 (chkE C N S K Q)]) ∧ Below w.heap.size w w' := by
  unfold fitsR chkE
  by_cases hg : good C N S K Q
  · rw [if_pos hg, decide_eq_true hg, Bool.true_and]
    by_cases h : 1 ≤ n ∧ n ≤ largestV C S
    · rw [decide_eq_true h]; exact fits12_yes C N S K Q n hg h.1 h.2 w
    · rw [decide_eq_false h]; exact fits12_no C N S K Q n hg (by omega) w
  · rw [if_neg hg, decide_eq_false hg, Bool.false_and]; exact fits12_bad C N S K Q n hg w
end YtoebnjciioiccaaDoor
end Go.Proofs
