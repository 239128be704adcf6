/- The reference's Of. -/
import Derived.Test.YtjkphacidpongaaSlBj
namespace Go.Proofs
namespace Ytjkphacidpongaa
open Go.RowKit

theorem field_of (A : Option Addr) (n c : Nat) (W : World) : (Instr.field 26 (.agg #[.slice A n c]) 0).run Try.prog W = .ok (.slice A n c) W := by
  simp [Instr.field, go_sem, asAgg]
theorem add_found {cs : List Int} {a : Int} (h : hasB cs a = true) : addF cs a = cs := by unfold addF; rw [h]; rfl
theorem SAns.row {w w' : World} {zs : List Int} {v : Value} (h : SAns w zs v w') (hl : zs.length ≤ 100000) : ∃ u, v = sv u ∧ Row w w' u zs ∧ Below w.heap.size w w' := by
  obtain ⟨g, rfl, hg, ht, hb⟩ := h
  exact ⟨_, rfl, ht.row hg hl, hb⟩
end Ytjkphacidpongaa
end Go.Proofs
