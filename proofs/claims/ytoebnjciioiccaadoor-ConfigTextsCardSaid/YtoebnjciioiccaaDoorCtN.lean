/- Decimal forms: plain functions and what strconv makes of them. -/
import Derived.Lib.ParseIntBCases
import Derived.Lib.Strings
namespace Go.Proofs
namespace YtoebnjciioiccaaDoor
namespace Ct

def digB (c : Int) : Bool := decide (48 ≤ c ∧ c ≤ 57)
def digU (c : UInt8) : Bool := digB (c.toNat : Int)
/-- the decimal form of a non-negative integer of any size -/
def natL : List UInt8 → Bool
  | [] => false
  | c :: r => (r.isEmpty || c != 48) && (c :: r).all digU
/-- the string without a leading minus sign -/
def unsign : List UInt8 → List UInt8
  | 45 :: r => r
  | l => l
/-- the decimal form of an integer of any size -/
def decL (l : List UInt8) : Bool := natL (unsign l) && l != [45, 48]
def mag (acc : Nat) (l : List UInt8) : Nat := l.foldl (fun a c => a * 10 + (c.toNat - 48)) acc
def intVal (l : List UInt8) : Int := if l.head? = some 45 then -((mag 0 (unsign l) : Nat) : Int) else ((mag 0 l : Nat) : Int)

theorem mag_nil (acc : Nat) : mag acc [] = acc := by simp only [mag, List.foldl_nil]
theorem mag_cons (acc : Nat) (c : UInt8) (r : List UInt8) : mag acc (c :: r) = mag (acc * 10 + (c.toNat - 48)) r := by simp only [mag, List.foldl_cons]
theorem mag_ge (l : List UInt8) : ∀ acc : Nat, acc ≤ mag acc l := by
  induction l with
  | nil => intro acc; rw [mag_nil]; exact Nat.le_refl _
  | cons c r ih =>
    intro acc
    have h := ih (acc * 10 + (c.toNat - 48))
    rw [mag_cons]
    omega
theorem digU_iff (c : UInt8) : digU c = true ↔ 48 ≤ c.toNat ∧ c.toNat ≤ 57 := by
  unfold digU digB
  simp
  omega
theorem mag_ge_step (r : List UInt8) (acc d : Nat) : acc * 10 + d ≤ mag (acc * 10 + d) r := mag_ge _ _
theorem parseUintM_digits : ∀ (l : List UInt8) (acc : Nat), l.all digU = true → acc ≤ 18446744073709551615 →
    Lib.parseUintM 18446744073709551615 acc l = if mag acc l ≤ 18446744073709551615 then .ok (mag acc l) else .range
  | [], acc, _, ha => by
    rw [mag_nil, Lib.parseUintM, if_pos ha]
  | c :: r, acc, hd, ha => by
    rw [List.all_cons, Bool.and_eq_true] at hd
    have hc := (digU_iff c).1 hd.1
    have hg := mag_ge r (acc * 10 + (c.toNat - 48))
    have em := mag_cons acc c r
    rw [em, Lib.parseUintM, if_pos hc]
    by_cases h1 : 1844674407370955162 ≤ acc
    · rw [if_pos h1, if_neg (by omega)]
    · rw [if_neg h1]
      by_cases h2 : 18446744073709551615 < acc * 10 + (c.toNat - 48)
      · rw [if_pos h2, if_neg (by omega)]
      · rw [if_neg h2]
        exact parseUintM_digits r _ hd.2 (by omega)
theorem parseUintB_digits (l : List UInt8) (hl : l ≠ []) (hd : l.all digU = true) :
    Lib.parseUintB 64 l = if mag 0 l ≤ 18446744073709551615 then .ok (mag 0 l) else .range := by
  unfold Lib.parseUintB
  rw [if_neg hl]
  exact parseUintM_digits l 0 hd (by omega)

theorem natL_digits {l : List UInt8} (h : natL l = true) : l ≠ [] ∧ l.all digU = true := by
  cases l with
  | nil => simp [natL] at h
  | cons c r =>
    simp only [natL, Bool.and_eq_true] at h
    exact ⟨by simp, h.2⟩
theorem unsign_minus (r : List UInt8) : unsign (45 :: r) = r := rfl
theorem unsign_other {c : UInt8} (r : List UInt8) (h : c ≠ 45) : unsign (c :: r) = c :: r := by
  unfold unsign
  split
  · rename_i heq; injection heq with h1 _; exact absurd h1 h
  · rfl
theorem intVal_other {c : UInt8} (r : List UInt8) (h : c ≠ 45) : intVal (c :: r) = ((mag 0 (c :: r) : Nat) : Int) := by
  unfold intVal
  rw [if_neg (by simpa using h)]
theorem intVal_minus (r : List UInt8) : intVal (45 :: r) = -((mag 0 r : Nat) : Int) := by
  unfold intVal
  rw [if_pos (by simp), unsign_minus]

/-- what strconv.ParseInt of base 10 and 64 bits makes of a decimal form -/
theorem parse_dec (l : List UInt8) (h : natL (unsign l) = true) :
    Lib.parseIntB 64 l = if -9223372036854775808 ≤ intVal l ∧ intVal l ≤ 9223372036854775807 then .ok (intVal l) else .range := by
  obtain ⟨hne, hd⟩ := natL_digits h
  cases l with
  | nil => exact absurd rfl hne
  | cons c r =>
    by_cases hc : c = 45
    · subst hc
      rw [unsign_minus] at hne hd
      rw [Lib.parseIntB_minus, parseUintB_digits r hne hd]
      rw [intVal_minus]
      by_cases h1 : mag 0 r ≤ 18446744073709551615
      · rw [if_pos h1]
        show (if 9223372036854775808 < mag 0 r then Lib.NumEnd.range else .ok (-(mag 0 r : Int))) = _
        by_cases h2 : 9223372036854775808 < mag 0 r
        · rw [if_pos h2, if_neg (by omega)]
        · rw [if_neg h2, if_pos (by omega)]
      · rw [if_neg h1, if_neg (by omega)]; rfl
    · rw [unsign_other r hc] at hd
      have hdc : 48 ≤ c.toNat ∧ c.toNat ≤ 57 := by
        simp only [List.all_cons, Bool.and_eq_true] at hd
        exact (digU_iff c).1 hd.1
      rw [Lib.parseIntB_plain 64 c r (by omega) (by omega), parseUintB_digits _ (by simp) hd, intVal_other r hc]
      by_cases h1 : mag 0 (c :: r) ≤ 18446744073709551615
      · rw [if_pos h1]
        show (if 9223372036854775808 ≤ mag 0 (c :: r) then Lib.NumEnd.range else .ok (mag 0 (c :: r) : Int)) = _
        by_cases h2 : 9223372036854775808 ≤ mag 0 (c :: r)
        · rw [if_pos h2, if_neg (by omega)]
        · rw [if_neg h2, if_pos (by omega)]
      · rw [if_neg h1, if_neg (by omega)]; rfl

def intF (l : List UInt8) (lo hi : Int) : Int × Int :=
  if decL l = true then (if (-9223372036854775808 ≤ intVal l ∧ intVal l ≤ 9223372036854775807) ∧ lo ≤ intVal l ∧ intVal l ≤ hi then (intVal l, 0) else (0, 7)) else (0, 6)
theorem trim_minus (l : List UInt8) : Lib.trimPrefix l [45] = unsign l := by
  unfold Lib.trimPrefix Lib.hasPrefix
  cases l with
  | nil => rfl
  | cons c r =>
    by_cases h : c = 45
    · subst h; simp [unsign_minus]
    · have h' : ¬ (45 : UInt8) = c := fun e => h e.symm
      rw [unsign_other r h]; simp [h']
end Ct
end YtoebnjciioiccaaDoor
end Go.Proofs
