/- The reference's Add and Drop. -/
import Derived.Test.YtjkphacidpongaaSlBh
namespace Go.Proofs
namespace Ytjkphacidpongaa
open Go.RowKit

theorem row_set {w W W1 : World} {v : Value} {zs : List Int} (h : Row W1 W v zs) (hs : w.heap.size ≤ W1.heap.size) (b i : Nat) (u : Value) (hb : b < W1.heap.size) : Row w (W.setCell ⟨b, i, none⟩ u) v zs := by
  refine own_mono (World.ownsRow.kept h (grown_set W b i u) ?_) hs
  cases ho : v.ownBlock with
  | none => exact .inl rfl
  | some k => right; have := (World.ownsRow.lt h k ho).1; intro e; injection e with e; omega
theorem box_lt {W : World} {b : Nat} {o : Obj} (h : W.heap[b]? = some o) : b < W.heap.size := (Array.getElem?_eq_some_iff.1 h).1
theorem atF_yes {cs : List Int} {a : Int} (h : hasB cs a = true) : atF cs a = (pos a cs.length (stopI cs a) : Int) := by unfold atF; rw [h]; rfl
theorem atF_no {cs : List Int} {a : Int} (h : hasB cs a = false) : atF cs a = -1 := by unfold atF; rw [h]; rfl
end Ytjkphacidpongaa
end Go.Proofs
