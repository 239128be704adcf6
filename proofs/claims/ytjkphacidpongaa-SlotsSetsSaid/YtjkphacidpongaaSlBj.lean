/- The reference's Len, Range and List. -/
import Derived.Test.YtjkphacidpongaaSlBi
namespace Go.Proofs
namespace Ytjkphacidpongaa
open Go.RowKit

theorem len_1 {cs : List Int} (h : (chkF cs).2 ≠ 0) : lenA cs = (0, (chkF cs).2) := by unfold lenA; rw [if_pos h]
theorem len_2 {cs : List Int} (h : ¬ (chkF cs).2 ≠ 0) : lenA cs = ((addrN cs : Int), 0) := by
  unfold lenA; rw [if_neg h, (good_of_chk (Classical.byContradiction h)).tab.srt_addr]
theorem range_1 {cs : List Int} {f t : Int} (h : (chkF cs).2 ≠ 0) : rangeA cs f t = ([], (chkF cs).2) := by unfold rangeA; rw [if_pos h]
theorem range_2 {cs : List Int} {f t : Int} (h : ¬ (chkF cs).2 ≠ 0) : rangeA cs f t = (inF f t (srt cs), 0) := by unfold rangeA; rw [if_neg h]
theorem inF_snoc (f t : Int) (l : List Int) {k : Nat} (hk : k < l.length) : inF f t (l.take (k + 1)) = if f ≤ l.getD k 0 ∧ l.getD k 0 < t then inF f t (l.take k) ++ [l.getD k 0] else inF f t (l.take k) := by
  unfold inF
  rw [take_snoc hk, filter_snoc (fun x => decide (f ≤ x) && decide (x < t))]
  by_cases h : f ≤ l.getD k 0 ∧ l.getD k 0 < t
  · rw [if_pos (by simp only [Bool.and_eq_true, decide_eq_true_eq]; exact h), if_pos h]
  · rw [if_neg (by simp only [Bool.and_eq_true, decide_eq_true_eq]; exact h), if_neg h]
end Ytjkphacidpongaa
end Go.Proofs
