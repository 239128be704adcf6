/- Two lines with a space between them are the line of all fields: said of the plain function. -/
import Derived.Test.YtkhggnfhhafkjaaDoorJoinP
namespace Go.Proofs
namespace YtkhggnfhhafkjaaDoor
open Go.RowKit

theorem joinT_both (l m : List Fld) (hl : l ≠ []) (hm : m ≠ []) : joinT (l ++ m) = joinT l ++ 32 :: joinT m := by
  cases l with
  | nil => exact absurd rfl hl
  | cons f r =>
    cases m with
    | nil => exact absurd rfl hm
    | cons g t => simp [joinT, List.flatMap_append]
theorem joinF_ok {l : List Fld} (h : (joinF l).2 = 0) : l.length ≤ 64 ∧ longB l = false ∧ l.any badF = false ∧ (joinT l).length ≤ 8192 ∧ joinF l = (joinT l, 0) := by
  unfold joinF at h ⊢
  split at h
  · simp at h
  · split at h
    · simp at h
    · split at h
      · simp at h
      · split at h
        · simp at h
        · rename_i a b c d
          refine ⟨by omega, by simpa using b, by simpa using c, by omega, ?_⟩
          rw [if_neg a, if_neg b, if_neg c, if_neg d]
theorem joinF_bad {l : List Fld} (h : (joinF l).2 ≠ 0) : 64 < l.length ∨ longB l = true ∨ l.any badF = true ∨ 8192 < (joinT l).length := by
  apply Classical.byContradiction
  intro hn
  simp only [not_or] at hn
  exact h (by unfold joinF; rw [if_neg hn.1, if_neg hn.2.1, if_neg hn.2.2.1, if_neg hn.2.2.2])
theorem joinF_err {l : List Fld} (h : 64 < l.length ∨ longB l = true ∨ l.any badF = true ∨ 8192 < (joinT l).length) : (joinF l).2 ≠ 0 := by
  intro h0
  obtain ⟨a, b, c, d, _⟩ := joinF_ok h0
  rcases h with h | h | h | h
  · omega
  · rw [b] at h; cases h
  · rw [c] at h; cases h
  · omega
theorem longB_both (l m : List Fld) : longB (l ++ m) = (longB l || longB m) := by simp [longB]
theorem both_err (l m : List Fld) (hl : l ≠ []) (hm : m ≠ []) (h : (joinF l).2 ≠ 0 ∨ (joinF m).2 ≠ 0) : (joinF (l ++ m)).2 ≠ 0 := by
  apply joinF_err
  rw [List.length_append, longB_both, List.any_append, joinT_both l m hl hm, List.length_append, List.length_cons]
  rcases h with h | h
  · rcases joinF_bad h with h | h | h | h
    · exact .inl (by omega)
    · exact .inr (.inl (by rw [h]; rfl))
    · exact .inr (.inr (.inl (by rw [h]; rfl)))
    · exact .inr (.inr (.inr (by omega)))
  · rcases joinF_bad h with h | h | h | h
    · exact .inl (by omega)
    · exact .inr (.inl (by rw [h, Bool.or_true]))
    · exact .inr (.inr (.inl (by rw [h, Bool.or_true])))
    · exact .inr (.inr (.inr (by omega)))
theorem both_many (l m : List Fld) (hl : l ≠ []) (hm : m ≠ []) (h1 : (joinF l).2 = 0) (h2 : (joinF m).2 = 0) (h : 64 < l.length + m.length ∨ 8192 < (joinF l).1.length + 1 + (joinF m).1.length) : joinF (l ++ m) = ([], 3) := by
  obtain ⟨a1, b1, c1, d1, e1⟩ := joinF_ok h1
  obtain ⟨a2, b2, c2, d2, e2⟩ := joinF_ok h2
  rw [e1, e2] at h
  unfold joinF
  by_cases h64 : 64 < (l ++ m).length
  · rw [if_pos h64]
  · rw [if_neg h64, if_neg (by rw [longB_both, b1, b2]; simp), if_neg (by rw [List.any_append, c1, c2]; simp), if_pos]
    rw [joinT_both l m hl hm, List.length_append, List.length_cons]
    rw [List.length_append] at h64
    simp only at h
    omega
theorem both_fine (l m : List Fld) (hl : l ≠ []) (hm : m ≠ []) (h1 : (joinF l).2 = 0) (h2 : (joinF m).2 = 0) (h : ¬ (64 < l.length + m.length ∨ 8192 < (joinF l).1.length + 1 + (joinF m).1.length)) : joinF (l ++ m) = ((joinF l).1 ++ 32 :: (joinF m).1, 0) := by
  obtain ⟨a1, b1, c1, d1, e1⟩ := joinF_ok h1
  obtain ⟨a2, b2, c2, d2, e2⟩ := joinF_ok h2
  rw [e1, e2] at h ⊢
  simp only [not_or] at h
  unfold joinF
  rw [if_neg (by rw [List.length_append]; omega), if_neg (by rw [longB_both, b1, b2]; simp), if_neg (by rw [List.any_append, c1, c2]; simp), joinT_both l m hl hm, if_neg]
  rw [List.length_append, List.length_cons]
  omega
end YtkhggnfhhafkjaaDoor
end Go.Proofs
