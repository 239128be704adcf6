/- An arena and a field among the arguments: opened, and read again behind the call. -/
import Derived.Test.YtmgoonahpndfoaaArA
import Derived.Test.YtmgoonahpndfoaaHdOpen
import Derived.Test.YtmgoonahpndfoaaObE
namespace Go.Proofs
namespace Ytmgoonahpndfoaa
open Go.ChangeShapes Go.WideShapes Go.RowKit Go.Deep
set_option maxRecDepth 100000

section
variable {H : Type} {enc : TypeId × Value → H}
theorem open_arena {w : World} {r : Reach} {b0 : Nat} {v : Value} {d : DataW H} {p : List MemPlace} (hv : Value.okWide Try.prog w r b0 22 v) (h : DataW.Trod enc Try.prog w 0 (fun _ => true) true 22 v d p) :
    ∃ zs : List Int, Ar w v zs ∧ ∀ W : World, Below w.heap.size w W → ∀ sp : Nat → Bool, (∀ q ∈ p, sp q.block = true) → DataW.Trod enc Try.prog W 0 sp true 22 v d p := by
  obtain ⟨zs, h1, ⟨h2, h3⟩, h4, h5⟩ := open_words hv h
  exact ⟨zs, ⟨h1, h4, fun z hz => Hd.wf_u64 (h3 z hz), by unfold maxLen at h2; omega⟩, h5⟩
def fldD (a f t z : Int) : DataW H := .agg [.lit (.int .i64 a), .lit (.int .i64 f), .lit (.int .i64 t), .lit (.int .u64 z)]
theorem cellsOf49 : Try.prog.cellsOf 49 = 4 := by kernel_rfl
theorem open_field {w : World} {r : Reach} {b0 : Nat} {v : Value} {d : DataW H} {p : List MemPlace} (hv : Value.okWide Try.prog w r b0 49 v) (h : DataW.Trod enc Try.prog w 0 (fun _ => true) true 49 v d p) :
    ∃ a f t z : Int, v = .agg #[.int .i64 a, .int .i64 f, .int .i64 t, .int .u64 z] ∧ d = fldD a f t z ∧ p = [] ∧ ((Lit.int .i64 a).wf = true ∧ (Lit.int .i64 f).wf = true ∧ (Lit.int .i64 t).wf = true ∧ (Lit.int .u64 z).wf = true) := by
  obtain ⟨cs, rfl, hsz⟩ := okWide_struct Try.underlying49 hv
  obtain ⟨l⟩ := cs
  match l, hsz.trans cellsOf49 with
  | [a0, a1, a2, a3], _ =>
    obtain ⟨fuel, hf⟩ := h
    obtain ⟨xs, n, _, hx, _, hlen, hg⟩ := DataW.trod_struct Try.underlying49 hf
    match xs, hlen with
    | [y0, y1, y2, y3], _ =>
      have h0 : DataW.trod enc Try.prog w 0 (fun _ => true) true n 3 [a0] = some y0 := by simpa [Value.cells, cellsOf3] using hg 0 _ rfl
      have h1 : DataW.trod enc Try.prog w 0 (fun _ => true) true n 3 [a1] = some y1 := by simpa [Value.cells, cellsOf3] using hg 1 _ rfl
      have h2 : DataW.trod enc Try.prog w 0 (fun _ => true) true n 3 [a2] = some y2 := by simpa [Value.cells, cellsOf3] using hg 2 _ rfl
      have h3 : DataW.trod enc Try.prog w 0 (fun _ => true) true n 42 [a3] = some y3 := by simpa [Value.cells, cellsOf25] using hg 3 _ rfl
      obtain ⟨z0, e0, rfl, w0⟩ := DataW.trod_int Try.underlying3 h0
      obtain ⟨z1, e1, rfl, w1⟩ := DataW.trod_int Try.underlying3 h1
      obtain ⟨z2, e2, rfl, w2⟩ := DataW.trod_int Try.underlying3 h2
      obtain ⟨z3, e3, rfl, w3⟩ := DataW.trod_int Try.underlying42 h3
      simp only [List.cons.injEq, and_true] at e0 e1 e2 e3
      subst e0 e1 e2 e3
      simp only [Prod.mk.injEq] at hx
      exact ⟨z0, z1, z2, z3, rfl, hx.1, hx.2, w0, w1, w2, w3⟩
theorem shut_field {w : World} {base : Nat} {sp : Nat → Bool} {hd : Bool} {a f t z : Int} (h : (Lit.int .i64 a).wf = true ∧ (Lit.int .i64 f).wf = true ∧ (Lit.int .i64 t).wf = true ∧ (Lit.int .u64 z).wf = true) :
    DataW.Trod enc Try.prog w base sp hd 49 (.agg #[.int .i64 a, .int .i64 f, .int .i64 t, .int .u64 z]) (fldD a f t z) [] := by
  obtain ⟨w0, w1, w2, w3⟩ := h
  have t1 := fun (z : Int) (hz : (Lit.int .i64 z).wf = true) => trod_int_mk (enc := enc) (P := Try.prog) (w := w) (base := base) (spare := sp) (held := hd) (t := 3) 0 Try.underlying3 hz
  have t2 := fun (z : Int) (hz : (Lit.int .u64 z).wf = true) => trod_int_mk (enc := enc) (P := Try.prog) (w := w) (base := base) (spare := sp) (held := hd) (t := 42) 0 Try.underlying42 hz
  refine ⟨2, ?_⟩
  have := trod_struct_mk (enc := enc) (P := Try.prog) (w := w) (base := base) (spare := sp) (held := hd) (t := 49) (n := 1) (cs := [.int .i64 a, .int .i64 f, .int .i64 t, .int .u64 z]) (xs := [(.lit (.int .i64 a), []), (.lit (.int .i64 f), []), (.lit (.int .i64 t), []), (.lit (.int .u64 z), [])]) Try.underlying49 cellsOf49.symm (by
    simp [List.mapM_cons, cellsOf3, cellsOf25, t1 _ w0, t1 _ w1, t1 _ w2, t2 _ w3])
  simpa [Value.cells, fldD] using this
theorem open_byte {w : World} {r : Reach} {b0 : Nat} {v : Value} {d : DataW H} {p : List MemPlace} {base : Nat} {spare : Nat → Bool} {held : Bool} (hv : Value.okWide Try.prog w r b0 5 v) (h : DataW.Trod enc Try.prog w base spare held 5 v d p) :
    ∃ n : Int, v = .int .u8 n ∧ d = .lit (.int .u8 n) ∧ p = [] ∧ (Lit.int .u8 n).wf = true := by
  obtain ⟨n, rfl, rfl, rfl, hw⟩ := open_int Try.underlying5 hv h
  exact ⟨n, rfl, rfl, rfl, hw⟩
theorem wf_u8 {z : Int} (h : (Lit.int .u8 z).wf = true) : 0 ≤ z ∧ z ≤ 255 := by
  simp [Lit.wf, IntKind.min, IntKind.max, IntKind.signed, IntKind.bits] at h
  omega
end
end Ytmgoonahpndfoaa
end Go.Proofs
