/- The line of fields: the plain function; the fields of an argument, cell by cell. -/
import Derived.Test.YtkhggnfhhafkjaaDoorRSplit
import Derived.Test.YtkhggnfhhafkjaaDoorQuote
namespace Go.Proofs
namespace YtkhggnfhhafkjaaDoor
open Go.RowKit

def txt (f : Fld) : List UInt8 := if f.2 = true then quoteL f.1 else f.1
/-- a field that may not stand bare -/
def badF (f : Fld) : Bool := !f.2 && !bareA f.1
def joinT (fs : List Fld) : List UInt8 :=
  match fs with
  | [] => []
  | f :: r => txt f ++ r.flatMap (fun g => 32 :: txt g)
theorem joinT_snoc (fs : List Fld) (f : Fld) : joinT (fs ++ [f]) = joinT fs ++ ((if fs = [] then [] else [32]) ++ txt f) := by
  cases fs with
  | nil => simp [joinT]
  | cons g r => simp [joinT, List.flatMap_append]
theorem joinT_step {fs : List Fld} {k : Nat} {f : Fld} (h : fs[k]? = some f) : joinT (fs.take (k + 1)) = joinT (fs.take k) ++ ((if k = 0 then [] else [32]) ++ txt f) := by
  have hk : k < fs.length := (List.getElem?_eq_some_iff.1 h).1
  rw [List.take_add_one, h, Option.toList_some, joinT_snoc]
  have e : (fs.take k = []) ↔ k = 0 := by
    constructor
    · intro h0
      have := congrArg List.length h0
      rw [List.length_take, List.length_nil] at this
      omega
    · rintro rfl; rfl
  by_cases h0 : k = 0
  · rw [if_pos h0, if_pos (e.2 h0)]
  · rw [if_neg h0, if_neg (fun h1 => h0 (e.1 h1))]
theorem flatMap_esc_len (l : List UInt8) : (l.flatMap escL).length ≤ 4 * l.length := by
  induction l with
  | nil => simp
  | cons c r ih =>
    have := (escL_len c).2
    simp only [List.flatMap_cons, List.length_append, List.length_cons]
    omega
theorem txt_len (f : Fld) (h : f.1.length ≤ 2000) : (txt f).length ≤ 8002 := by
  unfold txt
  split
  · have := flatMap_esc_len f.1
    simp only [quoteL, List.length_cons, List.length_append, List.length_nil]
    omega
  · omega
/-- what Join answers -/
def joinF (fs : List Fld) : List UInt8 × Int :=
  if 64 < fs.length then ([], 3) else if longB fs = true then ([], 3) else if fs.any badF = true then ([], 6) else if 8192 < (joinT fs).length then ([], 3) else (joinT fs, 0)
def joinV (p : List UInt8 × Int) : Value := .tuple #[.string ⟨p.1.toArray⟩, .int .i64 p.2]

theorem bareN_eq (l : List UInt8) : bareN l = l.length ↔ l.all bareC = true := by
  induction l with
  | nil => simp [bareN]
  | cons c r ih =>
    have := bareN_le r
    rw [bareN_cons, List.all_cons]
    by_cases h : bareC c = true
    · rw [if_pos h, h, Bool.true_and, ← ih]; simp
    · rw [if_neg h]; simp [h]

theorem fcells {w W : World} (hB : Below w.heap.size w W) {b off : Nat} {fs : List Fld} (h : ∀ j u, (fc fs)[j]? = some u → w.cell? ⟨b, off + j, none⟩ = some u) {k : Nat} {t : List UInt8} {q : Bool} (hx : fs[k]? = some (t, q)) :
    W.cell? ⟨b, off + k * 2, none⟩ = some (.string ⟨t.toArray⟩) ∧ W.cell? ⟨b, off + k * 2 + 1, none⟩ = some (.bool q) := by
  obtain ⟨hk, e⟩ := List.getElem?_eq_some_iff.1 hx
  obtain ⟨e1, e2⟩ := fc_get fs k hk
  rw [e] at e1 e2
  have h1 := h _ _ e1
  have h2 := h _ _ e2
  rw [← Nat.add_assoc] at h2
  exact ⟨(hB.cell (p := ⟨b, _, none⟩) (cell_lt h1)).trans h1, (hB.cell (p := ⟨b, _, none⟩) (cell_lt h2)).trans h2⟩
theorem any_of {fs : List Fld} {p : Fld → Bool} {k : Nat} {f : Fld} (h : fs[k]? = some f) (hp : p f = true) : fs.any p = true :=
  List.any_eq_true.2 ⟨f, List.mem_of_getElem? h, hp⟩
theorem any_none {fs : List Fld} {p : Fld → Bool} (h : ∀ (j : Nat) (f : Fld), fs[j]? = some f → p f = false) : fs.any p = false := by
  rw [List.any_eq_false]
  intro f hf
  obtain ⟨j, hj⟩ := List.getElem?_of_mem hf
  simp [h j f hj]
theorem get_pair {fs : List Fld} {k : Nat} (hk : k < fs.length) : ∃ t q, fs[k]? = some (t, q) := ⟨fs[k].1, fs[k].2, List.getElem?_eq_getElem hk⟩
end YtkhggnfhhafkjaaDoor
end Go.Proofs
