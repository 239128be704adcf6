/- The fields of a line: the plain function. -/
import Derived.Test.YtkhggnfhhafkjaaDoorBare
namespace Go.Proofs
namespace YtkhggnfhhafkjaaDoor

/-- a field: its string, and whether it is quoted -/
abbrev Fld := List UInt8 × Bool
/-- the field that a text begins with, and the rest of the text -/
def fieldAt (l : List UInt8) : Option (Fld × List UInt8) :=
  if l.head? = some 34 then (takeQL l).map fun p => ((p.1, true), l.drop p.2) else if bareN l = 0 then none else some ((l.take (bareN l), false), l.drop (bareN l))
/-- what the iterator yields: fields, each with true; where the form is wrong, one with false -/
def flds : Nat → List UInt8 → List (Fld × Bool)
  | 0, _ => []
  | f + 1, l => match fieldAt l with
    | none => [(([], false), false)]
    | some (x, []) => [(x, true)]
    | some (x, c :: r) => if c = 32 then (x, true) :: flds f r else [(([], false), false)]
theorem tqL_bound : ∀ (f : Nat) (l : List UInt8), l.length ≤ f → ∀ t n, tqL l = some (t, n) → 1 ≤ n ∧ n ≤ l.length ∧ t.length < n
  | 0, [], _, t, n, h => by rw [tqL_nil] at h; cases h
  | f + 1, [], _, t, n, h => by rw [tqL_nil] at h; cases h
  | f + 1, c :: r, hl, t, n, h => by
    by_cases hc : c = 34
    · subst hc
      rw [tqL_quote] at h
      injection h with h
      injection h with h1 h2
      subst h1 h2
      simp
    · cases ht : takeByteL (c :: r) with
      | none => rw [tqL_none hc ht] at h; cases h
      | some p =>
        obtain ⟨b, k⟩ := p
        have hb := (takeByteL_bound ht (by simp)).2
        rw [tqL_some hc ht] at h
        cases hq : tqL ((c :: r).drop k) with
        | none => rw [hq] at h; cases h
        | some q =>
          obtain ⟨t', n'⟩ := q
          rw [hq] at h
          simp only [Option.map_some, Option.some.injEq, Prod.mk.injEq] at h
          obtain ⟨rfl, rfl⟩ := h
          have := tqL_bound f ((c :: r).drop k) (by simp at hl ⊢; omega) t' n' hq
          simp at this hb ⊢
          omega
theorem takeQL_bound {l t : List UInt8} {n : Nat} (h : takeQL l = some (t, n)) : 1 ≤ n ∧ n ≤ l.length ∧ t.length ≤ n := by
  unfold takeQL at h
  split at h
  · rename_i r
    cases hq : tqL r with
    | none => rw [hq] at h; cases h
    | some q =>
      obtain ⟨t', n'⟩ := q
      rw [hq] at h
      simp only [Option.map_some, Option.some.injEq, Prod.mk.injEq] at h
      obtain ⟨rfl, rfl⟩ := h
      have := tqL_bound r.length r (Nat.le_refl _) _ _ hq
      simp
      omega
  · cases h
theorem fieldAt_less {l : List UInt8} {x : Fld} {r : List UInt8} (h : fieldAt l = some (x, r)) : r.length < l.length ∧ x.1.length ≤ l.length := by
  unfold fieldAt at h
  split at h
  · cases hq : takeQL l with
    | none => rw [hq] at h; cases h
    | some q =>
      obtain ⟨t', n'⟩ := q
      rw [hq] at h
      simp only [Option.map_some, Option.some.injEq, Prod.mk.injEq] at h
      obtain ⟨rfl, rfl⟩ := h
      have := takeQL_bound hq
      simp
      omega
  · split at h
    · cases h
    · rename_i hb
      simp only [Option.some.injEq, Prod.mk.injEq] at h
      obtain ⟨rfl, rfl⟩ := h
      have := bareN_le l
      simp
      omega
theorem flds_fuel : ∀ (f : Nat) (l : List UInt8), l.length + 1 ≤ f → flds f l = flds (l.length + 1) l
  | f + 1, l, h => by
    show flds (f + 1) l = flds (l.length + 1) l
    simp only [flds]
    cases hf : fieldAt l with
    | none => rfl
    | some p =>
      obtain ⟨x, r⟩ := p
      cases r with
      | nil => rfl
      | cons c r =>
        have hl := (fieldAt_less hf).1
        simp only [List.length_cons] at hl
        simp only
        rw [flds_fuel f r (by omega), flds_fuel l.length r (by omega)]
def fldsQ (l : List UInt8) : List (Fld × Bool) := flds (l.length + 1) l
theorem fldsQ_none {l : List UInt8} (h : fieldAt l = none) : fldsQ l = [(([], false), false)] := by simp only [fldsQ, flds, h]
theorem fldsQ_last {l : List UInt8} {x : Fld} (h : fieldAt l = some (x, [])) : fldsQ l = [(x, true)] := by simp only [fldsQ, flds, h]
theorem fldsQ_bad {l : List UInt8} {x : Fld} {c : UInt8} {r : List UInt8} (h : fieldAt l = some (x, c :: r)) (hc : c ≠ 32) : fldsQ l = [(([], false), false)] := by simp only [fldsQ, flds, h, hc, if_false]
theorem fldsQ_more {l : List UInt8} {x : Fld} {r : List UInt8} (h : fieldAt l = some (x, 32 :: r)) : fldsQ l = (x, true) :: fldsQ r := by
  have hl := (fieldAt_less h).1
  simp only [List.length_cons] at hl
  have e := flds_fuel l.length r (by omega)
  show flds (l.length + 1) l = (x, true) :: flds (r.length + 1) r
  rw [← e]
  simp only [flds, h, if_true]
/-- all that is yielded of a line -/
def items (l : List UInt8) : List (Fld × Bool) := if l = [] then [] else fldsQ l
end YtkhggnfhhafkjaaDoor
end Go.Proofs
