/- A row of bytes of the call's own in which one byte is set. -/
import Derived.Test.YtkhggnfhhafkjaaDoorLinesS
import Derived.OwnWalk
import Derived.Laws.OwnMore
namespace Go.Proofs
namespace YtkhggnfhhafkjaaDoor
open Go.RowKit

/-- the row of N bytes in block g of the call's own: its bytes are l -/
def NRow (B : Nat) (W : World) (g N : Nat) (l : List UInt8) : Prop := l.length = N ∧ W.ownsRow B 5 1 (.slice (some ⟨g, 0, none⟩) N N) N (bc l)
theorem NRow.cell {B : Nat} {W : World} {g N : Nat} {l : List UInt8} (h : NRow B W g N l) {k : Nat} (hk : k < N) : ∃ c : Value, W.cell? ⟨g, k, none⟩ = some c := by
  refine ⟨(bc l)[k]'(by rw [bc_length, h.1]; exact hk), ?_⟩
  rw [h.2.cellAt k (by omega), List.getElem?_eq_getElem]
theorem NRow.put {B : Nat} {w W : World} {g N : Nat} {l : List UInt8} (h : NRow B W g N l) (hB : Below B w W) (k : Nat) (c : UInt8) (u : Value) (hu : u = .int .u8 c.toNat) : NRow B (W.setCell ⟨g, k, none⟩ u) g N (l.set k c) ∧ Below B w (W.setCell ⟨g, k, none⟩ u) := by
  subst hu
  obtain ⟨h1, h2⟩ := h.2.stored k (.int .u8 c.toNat)
  refine ⟨⟨by rw [List.length_set]; exact h.1, ?_⟩, ?_⟩
  · have e : bc (l.set k c) = (bc l).set k (.int .u8 c.toNat) := by unfold bc; rw [List.map_set]
    rw [e]
    exact h1
  · exact hB.setCell (p := ⟨g, k, none⟩) (h.2.lt g rfl).1 _
theorem NRow.made {B : Nat} {W : World} {g N : Nat} (h : W.ownsRow B 5 1 (.slice (some ⟨g, 0, none⟩) N N) N (madeCells (Value.int .u8 0).cells (N * 1)).toList) : NRow B W g N (List.replicate N 0) := by
  refine ⟨by simp, ?_⟩
  have e : (madeCells (Value.int .u8 0).cells (N * 1)).toList = bc (List.replicate N 0) := by
    rw [show (Value.int .u8 0).cells = #[.int .u8 0] from rfl, toList_madeCells_one, Nat.mul_one]; unfold bc; rw [List.map_replicate]; rfl
  rw [← e]
  exact h
theorem NRow.text {B : Nat} {W : World} {g N : Nat} {l : List UInt8} (h : NRow B W g N l) : (convert 38 9 (.slice (some ⟨g, 0, none⟩) N N)).run Tryd.prog W = .ok (.string ⟨l.toArray⟩) W := by
  obtain ⟨rfl, h⟩ := h
  exact string_of_row h
end YtkhggnfhhafkjaaDoor
end Go.Proofs
