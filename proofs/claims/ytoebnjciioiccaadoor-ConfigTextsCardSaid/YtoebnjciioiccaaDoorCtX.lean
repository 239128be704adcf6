/- SplitN's parts are the parts between spaces. -/
import Derived.Test.YtoebnjciioiccaaDoorCtP
import Derived.Lib.Split
namespace Go.Proofs
namespace YtoebnjciioiccaaDoor
namespace Ct

theorem idx_nil : Lib.index [] [32] = -1 := by decide
theorem idx_sp (r : List UInt8) : Lib.index (32 :: r) [32] = 0 := by
  unfold Lib.index
  simp [List.isPrefixOf]
theorem idx_cons {c : UInt8} (r : List UInt8) (h : c ≠ 32) : Lib.index (c :: r) [32] = if Lib.index r [32] = -1 then -1 else Lib.index r [32] + 1 := by
  have h' : ¬ (32 : UInt8) = c := fun e => h e.symm
  rw [Lib.index]
  simp [List.isPrefixOf, h']
/-- the first space, said by the parts -/
theorem idx_spl (l : List UInt8) : (Lib.index l [32] = -1 ∧ spl l = [l]) ∨ ∃ p r, l = p ++ 32 :: r ∧ Lib.index l [32] = (p.length : Int) ∧ spl l = p :: spl r := by
  induction l with
  | nil => left; exact ⟨idx_nil, rfl⟩
  | cons c l ih =>
    by_cases h : c = 32
    · subst h
      right
      exact ⟨[], l, rfl, by rw [idx_sp]; rfl, spl_sp l⟩
    · rcases ih with ⟨h1, h2⟩ | ⟨p, r, h1, h2, h3⟩
      · left
        refine ⟨by rw [idx_cons l h, if_pos h1], ?_⟩
        rw [spl, if_neg h, h2]
      · right
        refine ⟨c :: p, r, by rw [h1]; rfl, ?_, ?_⟩
        · rw [idx_cons l h, if_neg (by omega), h2]; simp
        · rw [spl, if_neg h, h3]
/-- cut at k spaces at most: all parts if there are no more, else k + 1 of them -/
theorem splitK_spl : ∀ (k : Nat) (l : List UInt8), ((spl l).length ≤ k + 1 → Lib.splitK [32] 0 k l = spl l) ∧ (Lib.splitK [32] 0 k l).length = min (k + 1) (spl l).length := by
  intro k
  induction k with
  | zero =>
    intro l
    refine ⟨fun h => ?_, ?_⟩
    · rcases idx_spl l with ⟨-, h2⟩ | ⟨p, r, -, -, h3⟩
      · rw [h2]; rfl
      · rw [h3] at h
        have := spl_ne r
        cases hr : spl r with
        | nil => exact absurd hr this
        | cons a b => rw [hr] at h; simp at h
    · have := spl_ne l
      cases hr : spl l with
      | nil => exact absurd hr this
      | cons a b => simp [Lib.splitK]
  | succ k ih =>
    intro l
    rcases idx_spl l with ⟨h1, h2⟩ | ⟨p, r, h1, h2, h3⟩
    · have e : Lib.splitK [32] 0 (k + 1) l = [l] := by rw [Lib.splitK, if_pos (by simp [h1])]
      rw [e, h2]
      exact ⟨fun _ => rfl, by simp⟩
    · have e : Lib.splitK [32] 0 (k + 1) l = p :: Lib.splitK [32] 0 k r := by
        rw [Lib.splitK, if_neg (by simp [h2]), h2]
        simp only [Int.toNat_natCast, Nat.add_zero, List.length_cons, List.length_nil]
        rw [h1]
        simp
      obtain ⟨i1, i2⟩ := ih r
      rw [e, h3]
      refine ⟨fun h => ?_, ?_⟩
      · rw [i1 (by simp at h; omega)]
      · simp only [List.length_cons, i2]; omega
theorem spl_le (l : List UInt8) : (spl l).length ≤ l.length + 1 := by
  induction l with
  | nil => simp [spl]
  | cons c r ih =>
    by_cases h : c = 32
    · subst h; rw [spl_sp]; simp only [List.length_cons]; omega
    · obtain ⟨p, ps, h1, h2⟩ := spl_cons (r := r) h
      rw [h2]
      rw [h1] at ih
      simp only [List.length_cons] at *
      omega
/-- SplitN with eleven: ten parts exactly where there are ten -/
theorem split_ten (l : List UInt8) : (Lib.splitK [32] 0 (min 11 (l.length + 1) - 1) l).length = 10 ↔ (spl l).length = 10 := by
  have h := (splitK_spl (min 11 (l.length + 1) - 1) l).2
  have h2 := spl_le l
  rw [h]
  omega
theorem split_same (l : List UInt8) (h : (spl l).length = 10) : Lib.splitK [32] 0 (min 11 (l.length + 1) - 1) l = spl l := by
  have h2 := spl_le l
  exact (splitK_spl (min 11 (l.length + 1) - 1) l).1 (by omega)
end Ct
end YtoebnjciioiccaaDoor
end Go.Proofs
