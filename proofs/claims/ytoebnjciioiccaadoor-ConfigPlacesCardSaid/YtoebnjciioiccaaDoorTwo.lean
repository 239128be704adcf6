/- A pair of numbers among the arguments: opened and shut. -/
import Derived.Test.YtoebnjciioiccaaDoorOpen
namespace Go.Proofs
namespace YtoebnjciioiccaaDoor
open Go.ChangeShapes Go.WideShapes Go.ChangeAt Go.RowKit
set_option maxRecDepth 100000

theorem cells33 : Tryd.prog.cellsOf 33 = 2 := by kernel_rfl
section
variable {H : Type} {enc : TypeId × Value → H} {w : World} {base : Nat} {spare : Nat → Bool} {held : Bool}
theorem open_two {r : Reach} {b0 : Nat} {v : Value} {d : DataW H} {p : List MemPlace} (hv : Value.okWide Tryd.prog w r b0 33 v) (h : DataW.Trod enc Tryd.prog w base spare held 33 v d p) :
    ∃ x y : Int, v = .agg #[.int .i64 x, .int .i64 y] ∧ d = .agg [.lit (.int .i64 x), .lit (.int .i64 y)] ∧ p = [] ∧ (Lit.int .i64 x).wf = true ∧ (Lit.int .i64 y).wf = true := by
  simp only [Value.okWide, Tryd.underlying33] at hv
  obtain ⟨cs, rfl, hsz, _⟩ := hv
  obtain ⟨l⟩ := cs
  match l, hsz.trans cells33 with
  | [a0, a1], _ =>
    obtain ⟨fuel, hf⟩ := h
    obtain ⟨xs, n, _, hx, _, hlen, hg⟩ := DataW.trod_array Tryd.underlying33 hf
    match xs, hlen with
    | [y0, y1], _ =>
      have h0 : DataW.trod enc Tryd.prog w base spare held n 3 [a0] = some y0 := by simpa [Value.cells, cells3] using hg 0 (by omega)
      have h1 : DataW.trod enc Tryd.prog w base spare held n 3 [a1] = some y1 := by simpa [Value.cells, cells3] using hg 1 (by omega)
      obtain ⟨z0, e0, rfl, w0⟩ := DataW.trod_int Tryd.underlying3 h0
      obtain ⟨z1, e1, rfl, w1⟩ := DataW.trod_int Tryd.underlying3 h1
      simp only [List.cons.injEq, and_true] at e0 e1
      subst e0 e1
      simp only [Prod.mk.injEq] at hx
      exact ⟨z0, z1, rfl, hx.1, hx.2, w0, w1⟩
theorem shut_two {x y : Int} (w0 : (Lit.int .i64 x).wf = true) (w1 : (Lit.int .i64 y).wf = true) :
    DataW.Trod enc Tryd.prog w base spare held 33 (.agg #[.int .i64 x, .int .i64 y]) (.agg [.lit (.int .i64 x), .lit (.int .i64 y)]) [] := by
  have t := fun (z : Int) (hz : (Lit.int .i64 z).wf = true) => trod_int_mk (enc := enc) (P := Tryd.prog) (w := w) (base := base) (spare := spare) (held := held) (t := 3) 0 Tryd.underlying3 hz
  refine ⟨2, ?_⟩
  have e : List.range 2 = [0, 1] := rfl
  unfold DataW.trod
  rw [Tryd.underlying33]
  simp [Value.cells, cells33, cells3, e, List.mapM_cons, t x w0, t y w1]
end
end YtoebnjciioiccaaDoor
end Go.Proofs
