/- The reference's way of reading a field, held against the iterator's. -/
import Derived.Test.YtkhggnfhhafkjaaDoorSame
import Derived.Test.YtkhggnfhhafkjaaDoorRQuo
namespace Go.Proofs
namespace YtkhggnfhhafkjaaDoor
open Go.RowKit

def notSp (c : UInt8) : Bool := c != 32
/-- the text up to the next blank -/
def tok (l : List UInt8) : List UInt8 := l.takeWhile notSp
def tokN (l : List UInt8) : Nat := (tok l).length
def bareA (l : List UInt8) : Bool := l.all bareC && decide (0 < l.length)
theorem bareC_notSp {c : UInt8} (h : bareC c = true) : notSp c = true := by
  unfold bareC at h; unfold notSp
  simp only [Bool.and_eq_true] at h
  exact h.2
theorem tok_prefix (l : List UInt8) : l = tok l ++ l.drop (tokN l) := by
  unfold tokN tok
  induction l with
  | nil => rfl
  | cons c r ih =>
    rw [List.takeWhile_cons]
    split
    · simp only [List.length_cons, List.drop_succ_cons, List.cons_append]; rw [← ih]
    · simp
theorem tok_next (l : List UInt8) {c : UInt8} {r : List UInt8} (h : l.drop (tokN l) = c :: r) : c = 32 := by
  unfold tokN tok at h
  induction l with
  | nil => simp at h
  | cons d t ih =>
    rw [List.takeWhile_cons] at h
    split at h
    · simp only [List.length_cons, List.drop_succ_cons] at h; exact ih h
    · rename_i hd
      simp only [List.length_nil, List.drop_zero, List.cons.injEq] at h
      obtain ⟨rfl, _⟩ := h
      simpa [notSp] using hd
/-- a token whose bytes are all bare is what the iterator reads -/
theorem bareN_tok {l : List UInt8} (h : (tok l).all bareC = true) : bareN l = tokN l := by
  unfold bareN tokN tok at *
  induction l with
  | nil => rfl
  | cons c r ih =>
    rw [List.takeWhile_cons] at h ⊢
    rw [List.takeWhile_cons]
    by_cases hs : notSp c = true
    · rw [if_pos hs] at h ⊢
      simp only [List.all_cons, Bool.and_eq_true] at h
      rw [if_pos h.1]
      simp only [List.length_cons]
      rw [ih h.2]
    · have hb : ¬ bareC c = true := fun hb => hs (bareC_notSp hb)
      rw [if_neg hs, if_neg hb]
/-- a token with a byte that is not bare: the iterator stops inside it -/
theorem bareN_stop {l : List UInt8} (h : (tok l).all bareC = false) : ∃ c r, l.drop (bareN l) = c :: r ∧ c ≠ 32 := by
  unfold bareN tok at *
  induction l with
  | nil => simp at h
  | cons c r ih =>
    rw [List.takeWhile_cons] at h
    rw [List.takeWhile_cons]
    by_cases hs : notSp c = true
    · rw [if_pos hs] at h
      by_cases hb : bareC c = true
      · rw [if_pos hb]
        simp only [List.all_cons, hb, Bool.true_and] at h
        simp only [List.length_cons, List.drop_succ_cons]
        exact ih h
      · rw [if_neg hb]
        exact ⟨c, r, rfl, by simpa [notSp] using hs⟩
    · rw [if_neg hs] at h; simp at h

/-- the field that the reference reads, and how many bytes it takes -/
def refField (l : List UInt8) : Option (Fld × Nat) :=
  match takeQL l with
  | some (t, n) => some ((t, true), n)
  | none => if bareA (tok l) = true then some ((tok l, false), tokN l) else none
theorem takeQL_34 {l : List UInt8} {p : List UInt8 × Nat} (h : takeQL l = some p) : l.head? = some 34 := by
  cases hh : decide (l.head? = some 34) with
  | true => exact of_decide_eq_true hh
  | false => rw [takeQL_not (of_decide_eq_false hh)] at h; cases h

theorem ref_none {l : List UInt8} (h : refField l = none) : (fldsQ l).all (·.2) = false := by
  unfold refField at h
  cases hq : takeQL l with
  | some p => rw [hq] at h; cases h
  | none =>
    rw [hq] at h
    simp only at h
    split at h
    · cases h
    · rename_i hb
      by_cases h34 : l.head? = some 34
      · rw [fldsQ_none (by unfold fieldAt; rw [if_pos h34, hq]; rfl)]; rfl
      · cases ha : (tok l).all bareC with
        | true =>
          have h0 : (tok l).length = 0 := by
            unfold bareA at hb
            rw [ha] at hb
            simp only [Bool.true_and, decide_eq_true_eq] at hb
            omega
          have hn : bareN l = 0 := (bareN_tok ha).trans h0
          rw [fldsQ_none (by unfold fieldAt; rw [if_neg h34, if_pos hn])]; rfl
        | false =>
          obtain ⟨c, r, hd, hc⟩ := bareN_stop ha
          by_cases hn : bareN l = 0
          · rw [fldsQ_none (by unfold fieldAt; rw [if_neg h34, if_pos hn])]; rfl
          · rw [fldsQ_bad (x := (l.take (bareN l), false)) (by unfold fieldAt; rw [if_neg h34, if_neg hn, hd]) hc]; rfl
theorem ref_some {l : List UInt8} {x : Fld} {n : Nat} (h : refField l = some (x, n)) : fieldAt l = some (x, l.drop n) ∧ 1 ≤ n ∧ n ≤ l.length := by
  unfold refField at h
  cases hq : takeQL l with
  | some p =>
    obtain ⟨t, m⟩ := p
    rw [hq] at h
    simp only [Option.some.injEq, Prod.mk.injEq] at h
    obtain ⟨rfl, rfl⟩ := h
    have hb := takeQL_bound hq
    exact ⟨by unfold fieldAt; rw [if_pos (takeQL_34 hq), hq]; rfl, hb.1, hb.2.1⟩
  | none =>
    rw [hq] at h
    simp only at h
    split at h
    · rename_i hb
      simp only [Option.some.injEq, Prod.mk.injEq] at h
      obtain ⟨rfl, rfl⟩ := h
      unfold bareA at hb
      simp only [Bool.and_eq_true, decide_eq_true_eq] at hb
      have hn := bareN_tok hb.1
      have hlen : (tok l).length ≤ l.length := by
        have := congrArg List.length (tok_prefix l)
        rw [List.length_append] at this
        omega
      have h34 : ¬ l.head? = some 34 := by
        intro hh
        have ht := tok_prefix l
        cases htk : tok l with
        | nil => rw [htk] at hb; simp at hb
        | cons c r =>
          rw [htk] at ht hb
          rw [ht] at hh
          simp only [List.cons_append, List.head?_cons, Option.some.injEq] at hh
          subst hh
          exact absurd hb.1 (by simp [bareC, plainB])
      have htake : l.take (tokN l) = tok l := by
        exact (congrArg (List.take (tokN l)) (tok_prefix l)).trans List.take_left
      have hpos : tokN l ≠ 0 := by unfold tokN; omega
      refine ⟨by unfold fieldAt; rw [if_neg h34, hn, if_neg hpos, htake], by omega, hlen⟩
    · cases h
end YtkhggnfhhafkjaaDoor
end Go.Proofs
