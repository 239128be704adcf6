/- A config among the arguments: opened and shut; the row's last step. -/
import Derived.Test.YtoebnjciioiccaaDoorRows
import Derived.WalkKit
import Derived.ProofKit
import Derived.OpenShut
import Derived.Below
import Derived.ChangeSame
namespace Go.Proofs
namespace YtoebnjciioiccaaDoor
open Go.ChangeShapes Go.WideShapes Go.ChangeAt Go.RowKit
set_option maxRecDepth 100000

theorem cells3 : Tryd.prog.cellsOf 3 = 1 := by kernel_rfl
theorem cells23 : Tryd.prog.cellsOf 23 = 5 := by kernel_rfl
section
variable {H : Type} {enc : TypeId × Value → H} {w : World} {base : Nat} {spare : Nat → Bool} {held : Bool}
theorem open_cfg {r : Reach} {b0 : Nat} {v : Value} {d : DataW H} {p : List MemPlace} (hv : Value.okWide Tryd.prog w r b0 23 v) (h : DataW.Trod enc Tryd.prog w base spare held 23 v d p) :
    ∃ C N S K Q : Int, v = .agg #[.int .i64 C, .int .i64 N, .int .i64 S, .int .i64 K, .int .i64 Q] ∧ d = .agg [.lit (.int .i64 C), .lit (.int .i64 N), .lit (.int .i64 S), .lit (.int .i64 K), .lit (.int .i64 Q)] ∧ p = [] ∧
      (Lit.int .i64 C).wf = true ∧ (Lit.int .i64 N).wf = true ∧ (Lit.int .i64 S).wf = true ∧ (Lit.int .i64 K).wf = true ∧ (Lit.int .i64 Q).wf = true := by
  obtain ⟨cs, rfl, hsz⟩ := okWide_struct Tryd.underlying23 hv
  obtain ⟨l⟩ := cs
  match l, hsz.trans cells23 with
  | [a0, a1, a2, a3, a4], _ =>
    obtain ⟨fuel, hf⟩ := h
    obtain ⟨xs, n, _, hx, _, hlen, hg⟩ := DataW.trod_struct Tryd.underlying23 hf
    match xs, hlen with
    | [y0, y1, y2, y3, y4], _ =>
      have h0 : DataW.trod enc Tryd.prog w base spare held n 3 [a0] = some y0 := by simpa [Value.cells, cells3] using hg 0 _ rfl
      have h1 : DataW.trod enc Tryd.prog w base spare held n 3 [a1] = some y1 := by simpa [Value.cells, cells3] using hg 1 _ rfl
      have h2 : DataW.trod enc Tryd.prog w base spare held n 3 [a2] = some y2 := by simpa [Value.cells, cells3] using hg 2 _ rfl
      have h3 : DataW.trod enc Tryd.prog w base spare held n 3 [a3] = some y3 := by simpa [Value.cells, cells3] using hg 3 _ rfl
      have h4 : DataW.trod enc Tryd.prog w base spare held n 3 [a4] = some y4 := by simpa [Value.cells, cells3] using hg 4 _ rfl
      obtain ⟨z0, e0, rfl, w0⟩ := DataW.trod_int Tryd.underlying3 h0
      obtain ⟨z1, e1, rfl, w1⟩ := DataW.trod_int Tryd.underlying3 h1
      obtain ⟨z2, e2, rfl, w2⟩ := DataW.trod_int Tryd.underlying3 h2
      obtain ⟨z3, e3, rfl, w3⟩ := DataW.trod_int Tryd.underlying3 h3
      obtain ⟨z4, e4, rfl, w4⟩ := DataW.trod_int Tryd.underlying3 h4
      simp only [List.cons.injEq, and_true] at e0 e1 e2 e3 e4
      subst e0 e1 e2 e3 e4
      simp only [Prod.mk.injEq] at hx
      exact ⟨z0, z1, z2, z3, z4, rfl, hx.1, hx.2, w0, w1, w2, w3, w4⟩
theorem shut_cfg {C N S K Q : Int} (w0 : (Lit.int .i64 C).wf = true) (w1 : (Lit.int .i64 N).wf = true) (w2 : (Lit.int .i64 S).wf = true) (w3 : (Lit.int .i64 K).wf = true) (w4 : (Lit.int .i64 Q).wf = true) :
    DataW.Trod enc Tryd.prog w base spare held 23 (.agg #[.int .i64 C, .int .i64 N, .int .i64 S, .int .i64 K, .int .i64 Q]) (.agg [.lit (.int .i64 C), .lit (.int .i64 N), .lit (.int .i64 S), .lit (.int .i64 K), .lit (.int .i64 Q)]) [] := by
  have t := fun (z : Int) (hz : (Lit.int .i64 z).wf = true) => trod_int_mk (enc := enc) (P := Tryd.prog) (w := w) (base := base) (spare := spare) (held := held) (t := 3) 0 Tryd.underlying3 hz
  refine ⟨2, ?_⟩
  have := trod_struct_mk (enc := enc) (P := Tryd.prog) (w := w) (base := base) (spare := spare) (held := held) (t := 23) (n := 1) (cs := [.int .i64 C, .int .i64 N, .int .i64 S, .int .i64 K, .int .i64 Q]) (xs := [(.lit (.int .i64 C), []), (.lit (.int .i64 N), []), (.lit (.int .i64 S), []), (.lit (.int .i64 K), []), (.lit (.int .i64 Q), [])]) Tryd.underlying23 cells23.symm (by
    simp [List.mapM_cons, cells3, t C w0, t N w1, t S w2, t K w3, t Q w4])
  simpa [Value.cells] using this
end
end YtoebnjciioiccaaDoor
end Go.Proofs
