/- A word with its address, and an operation, among the arguments: opened and shut. -/
import Derived.Test.YtkffabochgmagaaRows
import Derived.Test.YtkffabochgmagaaArA
import Derived.ProofKit
import Derived.OpenShut
import Derived.Deep.Slices
namespace Go.Proofs
namespace Ytkffabochgmagaa
open Go.ChangeShapes Go.WideShapes Go.ChangeAt Go.RowKit Go.Deep
set_option maxRecDepth 100000

theorem cellsOf27 : Try.prog.cellsOf 27 = 2 := by kernel_rfl
section
variable {H : Type} {enc : TypeId × Value → H} {w : World} {base : Nat} {spare : Nat → Bool} {held : Bool}
def wordD (a z : Int) : DataW H := .agg [.lit (.int .i64 a), .lit (.int .u64 z)]
theorem open_wordv {r : Reach} {b0 : Nat} {v : Value} {d : DataW H} {p : List MemPlace} (hv : Value.okWide Try.prog w r b0 27 v) (h : DataW.Trod enc Try.prog w base spare held 27 v d p) :
    ∃ a z : Int, v = .agg #[.int .i64 a, .int .u64 z] ∧ d = wordD a z ∧ p = [] ∧ (Lit.int .i64 a).wf = true ∧ (Lit.int .u64 z).wf = true := by
  obtain ⟨cs, rfl, hsz⟩ := okWide_struct Try.underlying27 hv
  obtain ⟨l⟩ := cs
  match l, hsz.trans cellsOf27 with
  | [a0, a1], _ =>
    obtain ⟨fuel, hf⟩ := h
    obtain ⟨xs, n, _, hx, _, hlen, hg⟩ := DataW.trod_struct Try.underlying27 hf
    match xs, hlen with
    | [y0, y1], _ =>
      have h0 : DataW.trod enc Try.prog w base spare held n 3 [a0] = some y0 := by simpa [Value.cells, cellsOf3] using hg 0 _ rfl
      have h1 : DataW.trod enc Try.prog w base spare held n 25 [a1] = some y1 := by simpa [Value.cells, cellsOf25] using hg 1 _ rfl
      obtain ⟨z0, e0, rfl, w0⟩ := DataW.trod_int Try.underlying3 h0
      obtain ⟨z1, e1, rfl, w1⟩ := DataW.trod_int Try.underlying25 h1
      simp only [List.cons.injEq, and_true] at e0 e1
      subst e0 e1
      simp only [Prod.mk.injEq] at hx
      exact ⟨z0, z1, rfl, hx.1, hx.2, w0, w1⟩
theorem shut_wordv {a z : Int} (w0 : (Lit.int .i64 a).wf = true) (w1 : (Lit.int .u64 z).wf = true) :
    DataW.Trod enc Try.prog w base spare held 27 (.agg #[.int .i64 a, .int .u64 z]) (wordD a z) [] := by
  have t := trod_int_mk (enc := enc) (P := Try.prog) (w := w) (base := base) (spare := spare) (held := held) (t := 3) 0 Try.underlying3 w0
  have u := trod_int_mk (enc := enc) (P := Try.prog) (w := w) (base := base) (spare := spare) (held := held) (t := 25) 0 Try.underlying25 w1
  refine ⟨2, ?_⟩
  have := trod_struct_mk (enc := enc) (P := Try.prog) (w := w) (base := base) (spare := spare) (held := held) (t := 27) (n := 1) (cs := [.int .i64 a, .int .u64 z]) (xs := [(.lit (.int .i64 a), []), (.lit (.int .u64 z), [])]) Try.underlying27 cellsOf27.symm (by
    simp [List.mapM_cons, cellsOf3, cellsOf25, t, u])
  simpa [Value.cells, wordD] using this
theorem open_opv {r : Reach} {b0 : Nat} {v : Value} {d : DataW H} {p : List MemPlace} (hv : Value.okWide Try.prog w r b0 56 v) (h : DataW.Trod enc Try.prog w base spare held 56 v d p) :
    ∃ o : AOp, v = opV o ∧ d = opD o ∧ p = [] ∧ opWf o := by
  obtain ⟨cs, rfl, hsz⟩ := okWide_struct Try.underlying56 hv
  obtain ⟨fuel, hf⟩ := h
  obtain ⟨o, h1, h2, h3⟩ := open_op hf
  have h1' : cs.toList = (opC o).toList := h1
  obtain rfl : cs = opC o := Array.toList_inj.1 h1'
  simp only [Prod.mk.injEq] at h2
  exact ⟨o, rfl, h2.1, h2.2, h3⟩
theorem nil_words {n c : Nat} {d : DataW H} {p : List MemPlace} (h : DataW.Trod enc Try.prog w 0 (fun _ => true) true 24 (.slice none n c) d p) : n = 0 ∧ c = 0 := by
  obtain ⟨fuel, hf⟩ := h
  rcases open_slice Try.underlying24 hf with ⟨h1, -⟩ | ⟨a, len, cap, m, n', D, Pl, h1, -⟩
  · simp only [Value.cells, List.cons.injEq, and_true, Value.slice.injEq] at h1
    exact h1.2
  · simp [Value.cells] at h1
theorem shut_opv (o : AOp) (h : opWf o) : DataW.Trod enc Try.prog w base spare held 56 (opV o) (opD o) [] := ⟨2, shut_op o h⟩
end
end Ytkffabochgmagaa
end Go.Proofs
