/- How many places differ. -/
import Derived.Test.YtmgoonahpndfoaaObL
namespace Go.Proofs
namespace Ytmgoonahpndfoaa
open Go.RowKit
theorem diffs_len (k : Nat) (xs ys : List Int) : (diffs k xs ys).length ≤ xs.length := by
  induction xs generalizing k ys with
  | nil => simp [diffs_nil]
  | cons x xs ih =>
    cases ys with
    | nil => simp [diffs]
    | cons y ys =>
      rw [diffs]
      have := ih (k + 1) ys
      split <;> simp <;> omega
/-- a call that answers an arena -/
def RAns (w : World) (rs : List Int) (e : Ending) (w' : World) : Prop := ∃ u, e = .returned (.tuple #[u, .int .i64 0]) ∧ Hid (Ar w' u rs) ∧ Below w.heap.size w w'
end Ytmgoonahpndfoaa
end Go.Proofs
