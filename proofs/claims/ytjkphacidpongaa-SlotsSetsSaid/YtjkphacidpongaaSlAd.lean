/- Join and Purge, the program's. -/
import Derived.Test.YtjkphacidpongaaSlAc
namespace Go.Proofs
namespace Ytjkphacidpongaa
open Go.RowKit

theorem own_far {W : World} {B g n : Nat} {v : Value} {xs : List Value} (h : W.ownsRow B 3 1 v n xs) (hg : g < B) : Apart v g := by
  intro A m c b off e1 _ e2
  subst e1 e2
  have := (h.lt b rfl).1
  omega
theorem three_boxes (w : World) (o0 o1 o2 : Obj) : (((w.alloc o0).alloc o1).alloc o2).heap[w.heap.size]? = some o0 ∧ (((w.alloc o0).alloc o1).alloc o2).heap[w.heap.size + 1]? = some o1 ∧ (((w.alloc o0).alloc o1).alloc o2).heap[w.heap.size + 2]? = some o2 ∧
    (((w.alloc o0).alloc o1).alloc o2).heap.size = w.heap.size + 3 ∧ Below w.heap.size w (((w.alloc o0).alloc o1).alloc o2) := by
  obtain ⟨h0, h1, h2, h3⟩ := two_boxes w o0 o1
  have hb := alloc_below ((w.alloc o0).alloc o1) o2
  have h4 := heap_alloc_new ((w.alloc o0).alloc o1) o2
  rw [h2] at h4
  exact ⟨keep_heap hb h0, keep_heap hb h1, h4, by rw [World.size_alloc, h2], below_end h3 hb⟩
theorem join_1 {cs ts : List Int} (h : (chkF cs).2 ≠ 0) : joinA cs ts = ([], (chkF cs).2) := by unfold joinA; rw [if_pos h]
theorem join_2 {cs ts : List Int} (h : ¬ (chkF cs).2 ≠ 0) (h2 : (chkF ts).2 ≠ 0) : joinA cs ts = ([], (chkF ts).2) := by unfold joinA; rw [if_neg h, if_pos h2]
theorem join_3 {cs ts : List Int} (h : ¬ (chkF cs).2 ≠ 0) (h2 : ¬ (chkF ts).2 ≠ 0) : joinA cs ts = ((srt ts).foldl addF cs, 0) := by unfold joinA; rw [if_neg h, if_neg h2]
theorem list_ok {ts : List Int} (h : ¬ (chkF ts).2 ≠ 0) : listA ts = (srt ts, 0) := by unfold listA rangeA; rw [if_neg h, inF_all]
theorem list_err {ts : List Int} (h : (chkF ts).2 ≠ 0) : listA ts = ([], (chkF ts).2) := by unfold listA rangeA; rw [if_pos h]
end Ytjkphacidpongaa
end Go.Proofs
