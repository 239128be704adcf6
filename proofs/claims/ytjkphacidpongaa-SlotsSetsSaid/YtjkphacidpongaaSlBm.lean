/- The reference's Purge. -/
import Derived.Test.YtjkphacidpongaaSlBk
namespace Go.Proofs
namespace Ytjkphacidpongaa
open Go.RowKit

def pgB (f t c : Int) : Bool := decide (0 < c) && (decide (f ≤ c) && decide (c < t))
/-- the first k cells purged -/
def pgU (cs : List Int) (f t : Int) (k : Nat) : List Int := purgeF (cs.take k) f t ++ cs.drop k
def pgN (cs : List Int) (f t : Int) (k : Nat) : Nat := (cs.take k).countP fun c => decide (0 < c ∧ f ≤ c ∧ c < t)
theorem pgU_len (cs : List Int) (f t : Int) (k : Nat) : (pgU cs f t k).length = cs.length := by
  unfold pgU purgeF
  rw [List.length_append, List.length_map, List.length_take, List.length_drop]; omega
theorem pgU_zero (cs : List Int) (f t : Int) : pgU cs f t 0 = cs := by simp [pgU, purgeF]
theorem pgU_all (cs : List Int) (f t : Int) : pgU cs f t cs.length = purgeF cs f t := by unfold pgU; rw [List.take_length, List.drop_length, List.append_nil]
theorem pgU_get (cs : List Int) (f t : Int) {k : Nat} (h : k < cs.length) : (pgU cs f t k).getD k 0 = cs.getD k 0 := by
  unfold pgU purgeF
  rw [List.getD_eq_getElem?_getD, List.getElem?_append_right (by simp; omega)]
  simp only [List.length_map, List.length_take, List.getElem?_drop]
  rw [show k + (k - min k cs.length) = k by omega, List.getD_eq_getElem?_getD]
theorem pgU_step (cs : List Int) (f t : Int) {k : Nat} (h : k < cs.length) : pgU cs f t (k + 1) = if 0 < cs.getD k 0 ∧ f ≤ cs.getD k 0 ∧ cs.getD k 0 < t then (pgU cs f t k).set k (-1) else pgU cs f t k := by
  have e1 : cs.drop k = cs.getD k 0 :: cs.drop (k + 1) := by rw [List.drop_eq_getElem_cons h, getElem_getD h]
  have e2 : ((cs.take k).map fun c => if 0 < c ∧ f ≤ c ∧ c < t then -1 else c).length = k := by simp; omega
  unfold pgU purgeF
  rw [take_snoc h, List.map_append, e1]
  simp only [List.map_cons, List.map_nil]
  split
  · rw [List.set_append_right _ _ (by omega), e2, Nat.sub_self, List.set_cons_zero, List.append_assoc]; rfl
  · rw [List.append_assoc]; rfl
theorem pgN_step (cs : List Int) (f t : Int) {k : Nat} (h : k < cs.length) : pgN cs f t (k + 1) = pgN cs f t k + if 0 < cs.getD k 0 ∧ f ≤ cs.getD k 0 ∧ cs.getD k 0 < t then 1 else 0 := by
  unfold pgN
  rw [take_snoc h, List.countP_append, List.countP_singleton]
  simp only [decide_eq_true_eq]
theorem pgN_le (cs : List Int) (f t : Int) (k : Nat) : pgN cs f t k ≤ cs.length := by
  unfold pgN
  refine Nat.le_trans List.countP_le_length ?_
  rw [List.length_take]; omega
theorem pgN_all {cs : List Int} (h : Tab cs) (f t : Int) : pgN cs f t cs.length = (inF f t (srt cs)).length := by unfold pgN; rw [List.take_length, purge_count h]
end Ytjkphacidpongaa
end Go.Proofs
