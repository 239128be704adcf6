/- Arenas: what the document's operations do, as plain functions on lists of numbers. -/
import Derived.Test.YtmgoonahpndfoaaProg
import Derived.WalkKit
import Derived.OwnWalk
import Derived.BigQuiet
import Derived.Deep.QuietTactic
import Derived.Lib.Hide
namespace Go.Proofs
namespace Ytmgoonahpndfoaa
open Go.RowKit

/-- an operation: its kind, two addresses, a number of words, a value -/
structure AOp where
  kind : Int
  src : Int
  dst : Int
  n : Int
  val : Int
/-- n words at an address are a part of an arena of len words -/
def partB (len : Nat) (a n : Int) : Bool := decide (1 ≤ a) && (decide (a ≤ len) && (decide (0 ≤ n) && decide (n ≤ len - a)))
def chkF (ws : List Int) : Int := if ws.length < 1 ∨ 1601 < ws.length then 3 else if ws.headD 0 = 0 then 0 else 6
def copyL (ws : List Int) (a b n : Nat) : List Int := ws.take b ++ (ws.drop a).take n ++ ws.drop (b + n)
def zeroL (ws : List Int) (a n : Nat) : List Int := ws.take a ++ List.replicate n 0 ++ ws.drop (a + n)
/-- the words, what has been read, and the two counts -/
structure ASt where
  ws : List Int
  got : List Int
  r : Int
  w : Int
def stepF (s : ASt) (o : AOp) : Int × ASt :=
  if o.kind = 1 then (if partB s.ws.length o.src 1 = true then (0, { s with got := s.got ++ [s.ws.getD o.src.toNat 0], r := s.r + 1 }) else (7, s))
  else if o.kind = 2 then (if partB s.ws.length o.src 1 = true then (0, { s with ws := s.ws.set o.src.toNat o.val, w := s.w + 1 }) else (7, s))
  else if o.kind = 3 then (if partB s.ws.length o.src o.n = true ∧ partB s.ws.length o.dst o.n = true then (0, { s with ws := copyL s.ws o.src.toNat o.dst.toNat o.n.toNat, r := s.r + o.n, w := s.w + o.n }) else (7, s))
  else if o.kind = 4 then (if partB s.ws.length o.src o.n = true then (0, { s with ws := zeroL s.ws o.src.toNat o.n.toNat, w := s.w + o.n }) else (7, s))
  else (2, s)
/-- what Play answers: words, what was read, the two counts, the index, the error -/
structure AAns where
  ws : List Int
  got : List Int
  r : Int
  w : Int
  at_ : Int
  e : Int
def AAns.err (i e : Int) : AAns := ⟨[], [], 0, 0, i, e⟩
def goF : Nat → ASt → List AOp → AAns
  | _, s, [] => ⟨s.ws, s.got, s.r, s.w, 0, 0⟩
  | i, s, o :: r => if (stepF s o).1 = 0 then goF (i + 1) (stepF s o).2 r else AAns.err i (stepF s o).1
def playF (ws : List Int) (ops : List AOp) : AAns :=
  if chkF ws ≠ 0 then AAns.err 0 (chkF ws) else if 500 < ops.length then AAns.err (-1) 3 else goF 0 ⟨ws, [], 0, 0⟩ ops

theorem partB_spec {len : Nat} {a n : Int} : partB len a n = true ↔ 1 ≤ a ∧ a ≤ len ∧ 0 ≤ n ∧ n ≤ len - a := by
  simp [partB]
theorem copyL_length {ws : List Int} {a b n : Nat} (h : a + n ≤ ws.length) (h2 : b + n ≤ ws.length) : (copyL ws a b n).length = ws.length := by
  simp only [copyL, List.length_append, List.length_take, List.length_drop]; omega
theorem zeroL_length {ws : List Int} {a n : Nat} (h : a + n ≤ ws.length) : (zeroL ws a n).length = ws.length := by
  simp only [zeroL, List.length_append, List.length_take, List.length_drop, List.length_replicate]; omega
theorem step_length (s : ASt) (o : AOp) : (stepF s o).2.ws.length = s.ws.length := by
  unfold stepF
  split
  · split <;> rfl
  · split
    · split
      · simp
      · rfl
    · split
      · split
        · rename_i h
          obtain ⟨⟨h1, h2, h3, h4⟩, h5, h6, h7, h8⟩ := And.intro (partB_spec.1 h.1) (partB_spec.1 h.2)
          exact copyL_length (by omega) (by omega)
        · rfl
      · split
        · split
          · rename_i h
            obtain ⟨h1, h2, h3, h4⟩ := partB_spec.1 h
            exact zeroL_length (by omega)
          · rfl
        · rfl
/-- the counts stay small -/
theorem step_counts (s : ASt) (o : AOp) (h : s.ws.length ≤ 1601) : s.r ≤ (stepF s o).2.r ∧ (stepF s o).2.r ≤ s.r + 1601 ∧ s.w ≤ (stepF s o).2.w ∧ (stepF s o).2.w ≤ s.w + 1601 ∧ (stepF s o).2.got.length ≤ s.got.length + 1 := by
  unfold stepF
  split
  · split
    · simp; omega
    · simp; omega
  · split
    · split
      · simp; omega
      · simp; omega
    · split
      · split
        · rename_i h1
          obtain ⟨a1, a2, a3, a4⟩ := partB_spec.1 h1.1
          simp; omega
        · simp; omega
      · split
        · split
          · rename_i h1
            obtain ⟨a1, a2, a3, a4⟩ := partB_spec.1 h1
            simp; omega
          · simp; omega
        · simp; omega
/-- one more word copied -/
theorem copyL_zero (ws : List Int) (a b : Nat) : copyL ws a b 0 = ws := by simp [copyL]
theorem copyL_step {ws : List Int} {a b i : Nat} (h : a + i < ws.length) (h2 : b + i < ws.length) : (copyL ws a b i).set (b + i) (ws.getD (a + i) 0) = copyL ws a b (i + 1) := by
  apply List.ext_getElem?
  intro j
  simp only [copyL, List.getElem?_set, List.getElem?_append, List.length_append, List.length_take, List.length_drop, List.getElem?_take, List.getElem?_drop, List.getD_eq_getElem?_getD]
  have e1 : min b ws.length = b := by omega
  have e2 : min i (ws.length - a) = i := by omega
  have e3 : min (i + 1) (ws.length - a) = i + 1 := by omega
  rw [e1, e2, e3]
  by_cases hj : b + i = j
  · subst hj
    rw [if_pos rfl, if_pos (by omega), if_pos (by omega), if_neg (by omega), if_pos (by omega)]
    rw [show a + (b + i - b) = a + i by omega, List.getElem?_eq_getElem h]
    rfl
  · rw [if_neg hj]
    by_cases h3 : j < b
    · rw [if_pos (by omega), if_pos h3, if_pos (by omega), if_pos (by omega), if_pos h3]
    · by_cases h4 : j < b + i
      · rw [if_pos h4, if_neg h3, if_pos (by omega), if_neg h3, if_pos (by omega), if_pos (by omega)]
      · rw [if_neg h4, if_neg (by omega)]
        congr 1
        omega
theorem zeroL_zero (ws : List Int) (a : Nat) : zeroL ws a 0 = ws := by simp [zeroL]
theorem zeroL_step {ws : List Int} {a i : Nat} (h : a + i < ws.length) : (zeroL ws a i).set (a + i) 0 = zeroL ws a (i + 1) := by
  apply List.ext_getElem?
  intro j
  simp only [zeroL, List.getElem?_set, List.getElem?_append, List.length_append, List.length_take, List.length_drop, List.getElem?_take, List.getElem?_drop, List.length_replicate, List.getElem?_replicate]
  have e1 : min a ws.length = a := by omega
  rw [e1]
  by_cases hj : a + i = j
  · subst hj
    rw [if_pos rfl, if_pos (by omega), if_pos (by omega), if_neg (by omega), if_pos (by omega)]
  · rw [if_neg hj]
    by_cases h3 : j < a
    · rw [if_pos (by omega), if_pos h3, if_pos (by omega), if_pos (by omega), if_pos h3]
    · by_cases h4 : j < a + i
      · rw [if_pos h4, if_neg h3, if_pos (by omega), if_neg h3, if_pos (by omega), if_pos (by omega)]
      · rw [if_neg h4, if_neg (by omega)]
        congr 1
        omega
/-- whether the words from an address up to another one are 0, or the error -/
def zeroF (ws : List Int) (a b : Int) : Bool × Int :=
  if chkF ws ≠ 0 then (false, chkF ws) else if partB ws.length a (b - a) = true then (((ws.take b.toNat).drop a.toNat).all (fun z => decide (z = 0)), 0) else (false, 7)
/-- the addresses from k on where two lists differ -/
def diffs : Nat → List Int → List Int → List Int
  | k, x :: xs, y :: ys => if x = y then diffs (k + 1) xs ys else (k : Int) :: diffs (k + 1) xs ys
  | _, _, _ => []
def differF (vs ws : List Int) : List Int × Int :=
  if chkF vs ≠ 0 then ([], chkF vs) else if chkF ws ≠ 0 then ([], chkF ws) else if vs.length ≠ ws.length then ([], 6) else (diffs 0 vs ws, 0)
/-- one word, or the error -/
def getF (ws : List Int) (a : Int) : Int × Int :=
  if chkF ws ≠ 0 then (0, chkF ws) else if partB ws.length a 1 = true then (ws.getD a.toNat 0, 0) else (0, 7)
/-- the arena after one operation, or the error -/
def afterF (ws : List Int) (o : AOp) : List Int × Int := ((playF ws [o]).ws, (playF ws [o]).e)
end Ytmgoonahpndfoaa
end Go.Proofs
