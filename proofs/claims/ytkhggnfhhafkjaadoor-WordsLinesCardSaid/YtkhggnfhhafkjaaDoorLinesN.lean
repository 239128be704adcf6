/- Facts about a text's lines: their number, and the first of them. -/
import Derived.Test.YtkhggnfhhafkjaaDoorLinesP
import Derived.Lib.Strings
namespace Go.Proofs
namespace YtkhggnfhhafkjaaDoor
open Go.RowKit

theorem lns_count (l : List UInt8) : ∀ cur, (lnsC cur l).length = l.count 10 := by
  induction l with
  | nil => intro cur; simp [lnsC]
  | cons c r ih =>
    intro cur
    by_cases h : c = 10
    · subst h; simp [lnsC, ih]
    · rw [lns_char _ _ h, ih, List.count_cons_of_ne h]
theorem lns_first (t r : List UInt8) (h : ∀ c ∈ t, c ≠ 10) : ∀ cur, lnsC cur (t ++ 10 :: r) = (cur ++ t) :: lnsC [] r := by
  induction t with
  | nil => intro cur; simp [lnsC]
  | cons c t ih =>
    intro cur
    rw [List.cons_append, lns_char _ _ (h c (by simp)), ih (fun d hd => h d (by simp [hd]))]
    simp
theorem ends_10 (l : List UInt8) : Lib.hasSuffix l [10] = decide (l.getLast? = some 10) := by
  unfold Lib.hasSuffix
  rw [Bool.eq_iff_iff, List.isSuffixOf_iff_suffix, decide_eq_true_eq]
  constructor
  · rintro ⟨t, rfl⟩; simp
  · intro h
    obtain ⟨t, rfl⟩ := List.getLast?_eq_some_iff.1 h
    exact ⟨t, rfl⟩
theorem trim_10 (t : List UInt8) : Lib.trimSuffix (t ++ [10]) [10] = t := by
  unfold Lib.trimSuffix
  rw [if_pos (by rw [ends_10]; simp)]
  simp
end YtkhggnfhhafkjaaDoor
end Go.Proofs
