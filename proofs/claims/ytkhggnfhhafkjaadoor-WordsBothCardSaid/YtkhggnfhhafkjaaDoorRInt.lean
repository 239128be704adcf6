/- Int, the reference's. -/
import Derived.Test.YtkhggnfhhafkjaaDoorDec
import Derived.Test.YtkhggnfhhafkjaaDoorInt
namespace Go.Proofs
namespace YtkhggnfhhafkjaaDoor
open Go.RowKit

/-- the number of the digits before a place -/
def magTo (l : List UInt8) (k : Nat) : Nat := mag 0 (unsign (l.take k))
theorem mag_append (a b : List UInt8) (acc : Nat) : mag acc (a ++ b) = mag (mag acc a) b := by simp only [mag, List.foldl_append]
theorem magTo_zero (l : List UInt8) : magTo l 0 = 0 := by unfold magTo; rw [List.take_zero]; simp only [unsign, mag, List.foldl_nil]
theorem magTo_end (l : List UInt8) (k : Nat) (h : l.length ≤ k) : magTo l k = mag 0 (unsign l) := by unfold magTo; rw [List.take_of_length_le h]
theorem unsign_snoc (a : List UInt8) (c : UInt8) (h : a ≠ [] ∨ c ≠ 45) : unsign (a ++ [c]) = unsign a ++ [c] := by
  cases a with
  | nil =>
    rcases h with h | h
    · exact absurd rfl h
    · rw [List.nil_append, unsign_other [] h]; rfl
  | cons x r =>
    by_cases hx : x = 45
    · subst hx; rfl
    · rw [List.cons_append, unsign_other _ hx, unsign_other _ hx]; rfl
theorem take_succ_get (s : ByteArray) (k : Nat) (hk : k < s.size) : s.data.toList.take (k + 1) = s.data.toList.take k ++ [s[k]] := by
  rw [List.take_succ_eq_append_getElem (by simpa using hk)]; rfl
theorem magTo_step (s : ByteArray) (k : Nat) (hk : k < s.size) (h : s[k] ≠ 45) : magTo s.data.toList (k + 1) = magTo s.data.toList k * 10 + (s[k].toNat - 48) := by
  unfold magTo
  rw [take_succ_get s k hk, unsign_snoc _ _ (Or.inr h), mag_append]
  rw [mag_cons, mag_nil]
/-- in a decimal form only the first byte may be a minus sign -/
theorem dec_digit (s : ByteArray) (k : Nat) (hk : k < s.size) (hd : decL s.data.toList = true) (h : s[k] ≠ 45) : 48 ≤ s[k].toNat ∧ s[k].toNat ≤ 57 := by
  have hm : s[k] ∈ s.data.toList := List.getElem_mem (l := s.data.toList) (by simpa using hk)
  have ha := (natL_digits (decL_parts hd).1).2
  rw [List.all_eq_true] at ha
  refine (digU_iff _).1 (ha _ ?_)
  unfold unsign
  split
  · rename_i r hr
    rw [hr] at hm
    rcases List.mem_cons.1 hm with e | e
    · exact absurd e h
    · exact e
  · exact hm
theorem dec_minus (s : ByteArray) (k : Nat) (hk : k < s.size) (hd : decL s.data.toList = true) (h : s[k] = 45) : k = 0 := by
  cases k with
  | zero => rfl
  | succ j =>
    exfalso
    have ha := (natL_digits (decL_parts hd).1).2
    rw [List.all_eq_true] at ha
    obtain ⟨r, hr, hrl⟩ := head_eq s (by omega)
    have hg : s.data.toList[j + 1]'(by simpa using hk) = 45 := h
    have hmem : (45 : UInt8) ∈ unsign s.data.toList := by
      have : (45 : UInt8) ∈ r := by
        rw [← hg]
        have e : s.data.toList[j + 1]'(by simpa using hk) = r[j]'(by omega) := by
          have := hr
          simp only [this, List.getElem_cons_succ]
        rw [e]
        exact List.getElem_mem _
      rw [hr]
      by_cases h0 : s[0] = 45
      · rw [h0]; exact this
      · rw [unsign_other r h0]; exact List.mem_cons_of_mem _ this
    have := ha _ hmem
    revert this
    decide
theorem magTo_first (s : ByteArray) (h0 : 0 < s.size) (h : s[0] = 45) : magTo s.data.toList 1 = 0 := by
  unfold magTo
  rw [take_succ_get s 0 h0, h, List.take_zero]
  simp only [List.nil_append, unsign, mag, List.foldl_nil]
theorem magTo_le (l : List UInt8) (k : Nat) : magTo l k ≤ mag 0 (unsign l) := by
  have e : unsign l = unsign (l.take k) ++ l.drop k ∨ magTo l k = 0 := by
    cases k with
    | zero => right; exact magTo_zero l
    | succ k =>
      left
      cases l with
      | nil => rfl
      | cons c r =>
        by_cases hc : c = 45
        · subst hc; simp [unsign]
        · rw [List.take_succ_cons, unsign_other _ hc, unsign_other _ hc]; simp
  rcases e with e | e
  · rw [e, mag_append]; exact mag_ge _ _
  · omega
theorem intVal_eq (l : List UInt8) : intVal l = if l.head? = some 45 then -((mag 0 (unsign l) : Nat) : Int) else ((mag 0 (unsign l) : Nat) : Int) := by
  unfold intVal
  split
  · rfl
  · rename_i h
    cases l with
    | nil => rfl
    | cons c r => rw [unsign_other r (by simpa using h)]

theorem quo_test (m c : Nat) (h0 : 48 ≤ c) (h1 : c ≤ 57) : -(m : Int) < (-9223372036854775808 + ((c : Int) - 48)).tdiv 10 ↔ 9223372036854775808 < m * 10 + (c - 48) := by
  have H : ∀ j : Fin 10, (-9223372036854775808 + ((j.val + 48 : Nat) : Int) - 48).tdiv 10 = if j.val ≤ 8 then -922337203685477580 else -922337203685477579 := by decide
  have h := H ⟨c - 48, by omega⟩
  have e : (c - 48 + 48 : Nat) = c := by omega
  simp only [e] at h
  rw [show (-9223372036854775808 + ((c : Int) - 48)) = (-9223372036854775808 + (c : Int) - 48) by omega, h]
  split <;> omega
theorem quo_yes (m c : Nat) (h0 : 48 ≤ c) (h1 : c ≤ 57) (h : 9223372036854775808 < m * 10 + (c - 48)) : decide (-(m : Int) < (-9223372036854775808 + ((c : Int) - 48)).tdiv 10) = true :=
  decide_eq_true ((quo_test m c h0 h1).2 h)
theorem quo_no (m c : Nat) (h0 : 48 ≤ c) (h1 : c ≤ 57) (h : m * 10 + (c - 48) ≤ 9223372036854775808) : decide (-(m : Int) < (-9223372036854775808 + ((c : Int) - 48)).tdiv 10) = false :=
  decide_eq_false fun h' => by have := (quo_test m c h0 h1).1 h'; omega
theorem step_val (m c : Nat) (h0 : 48 ≤ c) (h : m * 10 + (c - 48) ≤ 9223372036854775808) : wrap64 (wrap64 (10 * -(m : Int)) - ((c : Int) - 48)) = -((m * 10 + (c - 48) : Nat) : Int) := by
  rw [IntWalk.wrap64_in (10 * -(m : Int)) (by omega), IntWalk.wrap64_in _ (by omega)]
  omega

theorem intF_big (l : List UInt8) (lo hi : Int) (hd : decL l = true) (h : 9223372036854775808 < mag 0 (unsign l)) : intF l lo hi = (0, 7) := by
  unfold intF
  rw [if_pos hd, if_neg]
  rw [intVal_eq]
  split <;> omega
theorem intF_minus (l : List UInt8) (lo hi : Int) (hd : decL l = true) (hm : l.head? = some 45) (h : mag 0 (unsign l) ≤ 9223372036854775808) :
    intF l lo hi = if lo ≤ -((mag 0 (unsign l) : Nat) : Int) ∧ -((mag 0 (unsign l) : Nat) : Int) ≤ hi then (-((mag 0 (unsign l) : Nat) : Int), 0) else (0, 7) := by
  unfold intF
  rw [if_pos hd, intVal_eq, if_pos hm]
  split
  · rename_i h1; rw [if_pos h1.2]
  · rename_i h1; rw [if_neg (fun h2 => h1 ⟨by omega, h2⟩)]
theorem intF_plus (l : List UInt8) (lo hi : Int) (hd : decL l = true) (hm : l.head? ≠ some 45) (h : mag 0 (unsign l) ≤ 9223372036854775807) :
    intF l lo hi = if lo ≤ ((mag 0 (unsign l) : Nat) : Int) ∧ ((mag 0 (unsign l) : Nat) : Int) ≤ hi then (((mag 0 (unsign l) : Nat) : Int), 0) else (0, 7) := by
  unfold intF
  rw [if_pos hd, intVal_eq, if_neg hm]
  split
  · rename_i h1; rw [if_pos h1.2]
  · rename_i h1; rw [if_neg (fun h2 => h1 ⟨by omega, h2⟩)]
theorem intF_edge (l : List UInt8) (lo hi : Int) (hd : decL l = true) (hm : l.head? ≠ some 45) (h : mag 0 (unsign l) = 9223372036854775808) : intF l lo hi = (0, 7) := by
  unfold intF
  rw [if_pos hd, intVal_eq, if_neg hm, if_neg]
  omega
end YtkhggnfhhafkjaaDoor
end Go.Proofs
