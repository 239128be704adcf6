/- Parts of a slice of operations, and how large the answers of a play are. -/
import Derived.Test.YtkffabochgmagaaArPP
import Derived.Test.YtkffabochgmagaaArQ
namespace Go.Proofs
namespace Ytkffabochgmagaa
open Go.RowKit

theorem oc_append (xs ys : List AOp) : oc (xs ++ ys) = oc xs ++ oc ys := by simp [oc]
theorem OAt.take {W : World} {A : Option Addr} {cap : Nat} {ops : List AOp} (h : OAt W (.slice A ops.length cap) ops) {k : Nat} (hk : k ≤ ops.length) (c2 : Nat) : OAt W (.slice A k c2) (ops.take k) := by
  obtain ⟨A', cap', e, hc⟩ := h
  simp only [Value.slice.injEq] at e
  obtain ⟨rfl, _, rfl⟩ := e
  refine ⟨A, c2, by rw [List.length_take]; congr 1; omega, fun h0 => ?_⟩
  rw [List.length_take] at h0
  obtain ⟨b, off, hA, hx⟩ := hc (by omega)
  refine ⟨b, off, hA, fun j u hu => hx j u ?_⟩
  rw [← List.take_append_drop k ops, oc_append, List.getElem?_append_left (List.getElem?_eq_some_iff.1 hu).1]
  exact hu
theorem OAt.drop {W : World} {b off : Nat} {cap : Nat} {ops : List AOp} (h : OAt W (.slice (some ⟨b, off, none⟩) ops.length cap) ops) {k : Nat} (hk : k ≤ ops.length) (c2 : Nat) : OAt W (.slice (some ⟨b, off + k * 5, none⟩) (ops.length - k) c2) (ops.drop k) := by
  obtain ⟨A', cap', e, hc⟩ := h
  simp only [Value.slice.injEq] at e
  obtain ⟨rfl, _, rfl⟩ := e
  refine ⟨_, c2, by rw [List.length_drop], fun h0 => ?_⟩
  rw [List.length_drop] at h0
  obtain ⟨b', off', hA, hx⟩ := hc (by omega)
  simp only [Option.some.injEq, Addr.mk.injEq, and_true] at hA
  obtain ⟨rfl, rfl⟩ := hA
  refine ⟨b, off + k * 5, rfl, fun j u hu => ?_⟩
  rw [Nat.add_assoc]
  refine hx (k * 5 + j) u ?_
  rw [← List.take_append_drop k ops, oc_append, List.getElem?_append_right (by rw [oc_length, List.length_take]; omega), oc_length, List.length_take]
  rw [show k * 5 + j - min k ops.length * 5 = j by rw [Nat.min_eq_left hk]; omega]
  exact hu
theorem OAt.empty {W : World} (A : Option Addr) (c : Nat) : OAt W (.slice A 0 c) [] := ⟨A, c, rfl, fun h => by simp at h⟩
theorem step_room (s : ASt) (o : AOp) (hl : s.ws.length ≤ 200) : s.r ≤ (stepF s o).2.r ∧ (stepF s o).2.r ≤ s.r + 201 ∧ s.w ≤ (stepF s o).2.w ∧ (stepF s o).2.w ≤ s.w + 201 := by
  have P := fun (a n : Int) (h : partB s.ws.length a n = true) => partB_spec.1 h
  unfold stepF
  split
  · split <;> dsimp only <;> omega
  · split
    · split <;> dsimp only <;> omega
    · split
      · split
        · rename_i h
          have := P _ _ h.1
          dsimp only
          omega
        · dsimp only; omega
      · split
        · split
          · rename_i h
            have := P _ _ h
            dsimp only
            omega
          · dsimp only; omega
        · dsimp only; omega
theorem go_room (ops : List AOp) : ∀ (i : Nat) (s : ASt), s.ws.length ≤ 200 → 0 ≤ s.r → 0 ≤ s.w →
    0 ≤ (goF i s ops).r ∧ (goF i s ops).r ≤ s.r + 201 * ops.length ∧ 0 ≤ (goF i s ops).w ∧ (goF i s ops).w ≤ s.w + 201 * ops.length ∧ 0 ≤ (goF i s ops).at_ ∧ (goF i s ops).at_ ≤ i + ops.length := by
  induction ops with
  | nil => intro i s hl hr hw; simp [goF]; omega
  | cons o t ih =>
    intro i s hl hr hw
    have hs := step_room s o hl
    by_cases h1 : (stepF s o).1 = 0
    · rw [goF_step h1]
      have := ih (i + 1) (stepF s o).2 (by rw [step_length]; exact hl) (by omega) (by omega)
      simp only [List.length_cons]
      omega
    · rw [goF_err h1]
      simp only [AAns.err, List.length_cons]
      omega
theorem play_room (ws : List Int) (ops : List AOp) (hl : ws.length ≤ 200) (ho : ops.length ≤ 60) :
    0 ≤ (playF ws ops).r ∧ (playF ws ops).r ≤ 12060 ∧ 0 ≤ (playF ws ops).w ∧ (playF ws ops).w ≤ 12060 ∧ 0 ≤ (playF ws ops).at_ ∧ (playF ws ops).at_ ≤ 60 := by
  unfold playF
  split
  · simp [AAns.err]
  · rw [if_neg (by omega)]
    have := go_room ops 0 ⟨ws, [], 0, 0⟩ hl (by simp) (by simp)
    dsimp only at this
    omega
end Ytkffabochgmagaa
end Go.Proofs
