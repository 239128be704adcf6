/- Texts of configs, as plain functions: parts between spaces, and what Parse makes of them. -/
import Derived.Test.YtoebnjciioiccaaDoorCtN
import Derived.Lib.Join
import Derived.Lib.ItoaLen
namespace Go.Proofs
namespace YtoebnjciioiccaaDoor
namespace Ct

/-- the parts between spaces -/
def spl : List UInt8 → List (List UInt8)
  | [] => [[]]
  | c :: r => if c = 32 then [] :: spl r else match spl r with
    | [] => [[c]]
    | p :: ps => (c :: p) :: ps
theorem spl_nil : spl [] = [[]] := rfl
theorem spl_sp (r : List UInt8) : spl (32 :: r) = [] :: spl r := by rw [spl, if_pos rfl]
theorem spl_ne (l : List UInt8) : spl l ≠ [] := by
  cases l with
  | nil => simp [spl]
  | cons c r =>
    rw [spl]
    split
    · simp
    · split <;> simp
theorem spl_cons {c : UInt8} {r : List UInt8} (h : c ≠ 32) : ∃ p ps, spl r = p :: ps ∧ spl (c :: r) = (c :: p) :: ps := by
  cases hr : spl r with
  | nil => exact absurd hr (spl_ne r)
  | cons p ps => exact ⟨p, ps, rfl, by rw [spl, if_neg h, hr]⟩
theorem join_cons (p : List UInt8) (q : List UInt8) (ps : List (List UInt8)) : Lib.join (p :: q :: ps) [32] = p ++ 32 :: Lib.join (q :: ps) [32] := by
  simp [Lib.join, List.intercalate, List.intersperse]
theorem join_spl (l : List UInt8) : Lib.join (spl l) [32] = l := by
  induction l with
  | nil => rfl
  | cons c r ih =>
    by_cases h : c = 32
    · subst h
      rw [spl_sp]
      cases hr : spl r with
      | nil => exact absurd hr (spl_ne r)
      | cons p ps => rw [join_cons, ← hr, ih]; rfl
    · obtain ⟨p, ps, h1, h2⟩ := spl_cons (r := r) h
      rw [h1] at ih
      rw [h2]
      cases ps with
      | nil => rw [Lib.join_one] at ih ⊢; rw [ih]
      | cons q qs => rw [join_cons] at ih ⊢; rw [← ih]; rfl
theorem spl_word (p : List UInt8) (h : (32 : UInt8) ∉ p) : spl p = [p] := by
  induction p with
  | nil => rfl
  | cons c r ih =>
    have hc : c ≠ 32 := fun e => h (by simp [e])
    have hr := ih (fun hm => h (by simp [hm]))
    rw [spl, if_neg hc, hr]
theorem spl_more (p r : List UInt8) (h : (32 : UInt8) ∉ p) : spl (p ++ 32 :: r) = p :: spl r := by
  induction p with
  | nil => rw [List.nil_append, spl_sp]
  | cons c t ih =>
    have hc : c ≠ 32 := fun e => h (by simp [e])
    have hr := ih (fun hm => h (by simp [hm]))
    rw [List.cons_append, spl, if_neg hc, hr]
theorem spl_join : ∀ (ps : List (List UInt8)), ps ≠ [] → (∀ p ∈ ps, (32 : UInt8) ∉ p) → spl (Lib.join ps [32]) = ps := by
  intro ps
  induction ps with
  | nil => intro h; exact absurd rfl h
  | cons p ps ih =>
    intro _ h
    cases ps with
    | nil => rw [Lib.join_one]; exact spl_word p (h p (by simp))
    | cons q qs => rw [join_cons, spl_more p _ (h p (by simp)), ih (by simp) (fun x hx => h x (by simp [hx]))]
theorem spl_clean (l : List UInt8) : ∀ p ∈ spl l, (32 : UInt8) ∉ p := by
  induction l with
  | nil => intro p hp; simp [spl] at hp; subst hp; simp
  | cons c r ih =>
    intro p hp
    by_cases h : c = 32
    · subst h
      rw [spl_sp] at hp
      rcases List.mem_cons.1 hp with rfl | hp
      · simp
      · exact ih p hp
    · obtain ⟨q, qs, h1, h2⟩ := spl_cons (r := r) h
      rw [h2] at hp
      rcases List.mem_cons.1 hp with rfl | hp
      · intro hm
        rcases List.mem_cons.1 hm with e | hm
        · exact h e.symm
        · exact ih q (by rw [h1]; simp) hm
      · exact ih p (by rw [h1]; simp [hp])
/-- a small number's decimal form, and back -/
theorem itoa_back : ∀ n : Nat, n ≤ 64 → decL (Lib.itoa (n : Int)) = true ∧ intVal (Lib.itoa (n : Int)) = (n : Int) ∧ (32 : UInt8) ∉ Lib.itoa (n : Int) := by
  have h : (List.range 65).all (fun n => decL (Lib.itoa (n : Int)) && decide (intVal (Lib.itoa (n : Int)) = (n : Int)) && !(Lib.itoa (n : Int)).contains 32) = true := by decide +kernel
  intro n hn
  have := List.all_eq_true.1 h n (by simp; omega)
  simp only [Bool.and_eq_true, decide_eq_true_eq, Bool.not_eq_true'] at this
  refine ⟨this.1.1, this.1.2, fun hm => ?_⟩
  have e := this.2
  rw [List.contains_iff_mem.2 hm] at e
  cases e
end Ct
end YtoebnjciioiccaaDoor
end Go.Proofs
