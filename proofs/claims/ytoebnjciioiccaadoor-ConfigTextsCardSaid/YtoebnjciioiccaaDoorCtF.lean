/- A decimal form is the form of its value, for small numbers. -/
import Derived.Test.YtoebnjciioiccaaDoorCtP
namespace Go.Proofs
namespace YtoebnjciioiccaaDoor
namespace Ct

theorem of_digit (c : UInt8) (d : Nat) (h : c.toNat = 48 + d) : c = UInt8.ofNat (48 + d) := by
  apply UInt8.toNat_inj.1
  rw [h]
  have := c.toNat_lt
  simp
  omega
theorem mag_pos : ∀ (r : List UInt8) (acc : Nat), 0 < acc → 0 < mag acc r := fun r acc h => Nat.lt_of_lt_of_le h (mag_ge r acc)
/-- a decimal form is the form of its value -/
theorem dec_small (n : Nat) (hn : n ≤ 64) (l : List UInt8) (hd : decL l = true) (hv : intVal l = (n : Int)) : l = Lib.itoa (n : Int) := by
  have hd' : natL (unsign l) = true ∧ l ≠ [45, 48] := by simpa [decL] using hd
  obtain ⟨hnat, hne⟩ := hd'
  rw [Lib.itoa_nonneg]
  cases l with
  | nil => simp [unsign, natL] at hnat
  | cons c r =>
    by_cases hc : c = 45
    · subst hc
      rw [intVal_minus] at hv
      rw [unsign_minus] at hnat
      exfalso
      cases r with
      | nil => simp [natL] at hnat
      | cons d t =>
        simp only [natL, Bool.and_eq_true, Bool.or_eq_true, List.all_cons] at hnat
        obtain ⟨h1, h2, -⟩ := hnat
        have h3 := (digU_iff d).1 h2
        rw [mag_cons] at hv
        have hg := mag_ge t (0 * 10 + (d.toNat - 48))
        have hd0 : d = 48 := by apply UInt8.toNat_inj.1; show d.toNat = 48; omega
        subst hd0
        rcases h1 with h1 | h1
        · have : t = [] := by simpa using h1
          subst this
          exact hne rfl
        · simp at h1
    · rw [unsign_other r hc] at hnat
      rw [intVal_other r hc] at hv
      simp only [natL, Bool.and_eq_true, Bool.or_eq_true, List.all_cons] at hnat
      obtain ⟨h1, h2, h3⟩ := hnat
      have hcd := (digU_iff c).1 h2
      rw [mag_cons] at hv
      cases r with
      | nil =>
        rw [mag_nil] at hv
        rw [Lib.decDigits_one (by omega)]
        exact congrArg (· :: []) (of_digit c n (by omega))
      | cons d t =>
        have hc0 : c ≠ 48 := by simpa using h1
        have hc1 : c.toNat ≠ 48 := fun e => hc0 (UInt8.toNat_inj.1 e)
        rw [List.all_cons, Bool.and_eq_true] at h3
        have hdd := (digU_iff d).1 h3.1
        rw [mag_cons] at hv
        cases t with
        | nil =>
          rw [mag_nil] at hv
          rw [Lib.decDigits_two (by omega) (by omega)]
          rw [of_digit c (n / 10) (by omega), of_digit d (n % 10) (by omega)]
        | cons e t =>
          exfalso
          rw [mag_cons] at hv
          have hg := mag_ge t (((0 * 10 + (c.toNat - 48)) * 10 + (d.toNat - 48)) * 10 + (e.toNat - 48))
          omega
end Ct
end YtoebnjciioiccaaDoor
end Go.Proofs
