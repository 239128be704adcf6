/- ArenaMoves: the law of Copy, Clear, Zero and Differ returns true and leaves its inputs as they were, for every two slices of words and every three numbers. No conditions. -/
import Derived.Test.YtkffabochgmagaaRows
import Derived.Test.YtkffabochgmagaaArA
import Derived.Test.YtkffabochgmagaaArMv
import Derived.Test.YtkffabochgmagaaArF
import Derived.ProofKit
import Derived.OpenShut
import Derived.Laws.IdiomArrays
namespace Go.Proofs
namespace Ytkffabochgmagaa
open Go.ChangeShapes Go.WideShapes Go.ChangeAt Go.RowKit
set_option maxRecDepth 100000

theorem under38 : Try.prog.underlying 38 = some (.array 3 3) := by kernel_rfl
theorem cellsOf38 : Try.prog.cellsOf 38 = 3 := by kernel_rfl
section
variable {H : Type} {enc : TypeId × Value → H}
/-- what three numbers read as -/
def triD (a b n : Int) : DataW H := .agg [.lit (.int .i64 a), .lit (.int .i64 b), .lit (.int .i64 n)]
theorem shut_tri {w : World} {base : Nat} {sp : Nat → Bool} {hd : Bool} {a b n : Int} (ha : (Lit.int .i64 a).wf = true) (hb : (Lit.int .i64 b).wf = true) (hn : (Lit.int .i64 n).wf = true) :
    DataW.Trod enc Try.prog w base sp hd 38 (.agg #[.int .i64 a, .int .i64 b, .int .i64 n]) (triD a b n) [] := by
  refine ⟨2, ?_⟩
  have t := fun (z : Int) (hz : (Lit.int .i64 z).wf = true) => trod_int_mk (enc := enc) (P := Try.prog) (w := w) (base := base) (spare := sp) (held := hd) (t := 3) 0 Try.underlying3 hz
  have r3 : List.range 3 = [0, 1, 2] := rfl
  show DataW.trod enc Try.prog w base sp hd 2 38 [.int .i64 a, .int .i64 b, .int .i64 n] = some (triD a b n, [])
  unfold DataW.trod
  rw [under38]
  simp [r3, cellsOf3, cellsOf38, t _ ha, t _ hb, t _ hn, triD]
theorem open_tri {w : World} {r : Reach} {b0 : Nat} {v : Value} {d : DataW H} {p : List MemPlace} (hv : Value.okWide Try.prog w r b0 38 v) (h : DataW.Trod enc Try.prog w 0 (fun _ => true) true 38 v d p) :
    ∃ a b n : Int, v = .agg #[.int .i64 a, .int .i64 b, .int .i64 n] ∧ d = triD a b n ∧ p = [] ∧ (Lit.int .i64 a).wf = true ∧ (Lit.int .i64 b).wf = true ∧ (Lit.int .i64 n).wf = true := by
  simp only [Value.okWide, under38] at hv
  obtain ⟨cs, rfl, hc, _⟩ := hv
  rw [cellsOf38] at hc
  obtain ⟨l⟩ := cs
  match l, hc with
  | [c0, c1, c2], _ =>
    obtain ⟨fuel, hf⟩ := h
    obtain ⟨y0, y1, y2, m, hx, h0, h1, h2⟩ := trod_array3 under38 cellsOf3 (show DataW.trod enc Try.prog w 0 (fun _ => true) true fuel 38 [c0, c1, c2] = some (d, p) from hf)
    obtain ⟨z0, e0, rfl, w0⟩ := DataW.trod_int Try.underlying3 h0
    obtain ⟨z1, e1, rfl, w1⟩ := DataW.trod_int Try.underlying3 h1
    obtain ⟨z2, e2, rfl, w2⟩ := DataW.trod_int Try.underlying3 h2
    simp only [List.cons.injEq, and_true] at e0 e1 e2
    subst e0 e1 e2
    simp only [Prod.mk.injEq] at hx
    exact ⟨z0, z1, z2, rfl, hx.1, hx.2, w0, w1, w2⟩
end
/-- the law's call, for every input -/
theorem moves4 (v1 v2 : Value) (xs ys : List Int) (a b n : Int) (w : World) (h1 : WAt w v1 xs) (h2 : WAt w v2 ys) (hcap : ∀ A n c, v2 = .slice A n c → n ≤ c)
    (a1 : -9223372036854775808 ≤ a) (a2 : a ≤ 9223372036854775807) (b1 : -9223372036854775808 ≤ b) (b2 : b ≤ 9223372036854775807) :
    Calls Try.prog 4 #[v1, v2, .agg #[.int .i64 a, .int .i64 b, .int .i64 n]] w fun e w' => e = .returned (.bool true) ∧ Below w.heap.size w w' := by
  by_cases hl : 1610 < xs.length ∨ 1610 < ys.length
  · exact moves4_long v1 v2 xs ys a b n w h1 h2 hl
  · have h2' := h2
    obtain ⟨A2, p2, rfl, -⟩ := h2'
    exact moves4_good A2 p2 v1 xs ys a b n w h1 h2 (hcap _ _ _ rfl) (by omega) (by omega) a1 a2 b1 b2
theorem wf_i64 {z : Int} (h : (Lit.int .i64 z).wf = true) : -9223372036854775808 ≤ z ∧ z ≤ 9223372036854775807 := by
  simp [Lit.wf, IntKind.min, IntKind.max, IntKind.signed, IntKind.bits] at h
  omega

theorem moves_own : ownKnob Try.prog.godebug = none := by kernel_rfl
theorem moves_lifted (os : Os) (started : os.Started) (H : Type) (enc : TypeId × Value → H) :
    ReturnsInHanded {} Try.checked os 4 .any (Rows.arenaMovesSpec.pre6 enc Try.prog Try.f4 Rows.arenaMovesRow.domain false) (Rows.arenaMovesSpec.post enc Try.prog Try.f4 false true false false) := by
  refine returnsInHanded_of_change (C := Try.checked) moves_own started (by kernel_rfl) Try.func4
    (ChangeSpec.witness6 (enc := enc) (C := Try.checked) false ⟨#[], #[.slice none 0 0, .slice none 0 0, .agg #[.int .i64 0, .int .i64 0, .int .i64 0]], []⟩ 8 (by kernel_rfl) (by kernel_rfl) (by kernel_rfl) (by kernel_rfl)) ?_
  intro W base args ds gs before hval hW hcnd _
  have hW' := hW
  obtain ⟨p, q, hA0, hV, rfl, hfz, hnd⟩ := hW
  have hA : DataW.TrodAll enc Try.prog W 0 (fun _ => true) true Try.f4.params.toList args.toList ds p := hA0
  rw [Try.params4] at hA hval
  obtain ⟨v0, vs0, d0, ds0, p0, q0, hargs, rfl, rfl, h0, r0⟩ := trodAll_cons hA
  obtain ⟨v1, vs1, d1, ds1, p1, q1, rfl, rfl, rfl, h1, r1⟩ := trodAll_cons r0
  obtain ⟨v2, vs2, d2, ds2, p2, q2, rfl, rfl, rfl, h2, r2⟩ := trodAll_cons r1
  obtain ⟨rfl, rfl, rfl⟩ := trodAll_nil r2
  obtain rfl : args = #[v0, v1, v2] := by cases args; simp_all
  obtain ⟨rfl, rfl⟩ := trodVars_none hV
  obtain ⟨xs, hX, _, _, back0⟩ := open_words (hval 0 24 v0 rfl rfl) h0
  obtain ⟨ys, hY, _, hcap, back1⟩ := open_words (hval 1 24 v1 rfl rfl) h1
  obtain ⟨a, b, n, rfl, rfl, rfl, wa, wb, wn⟩ := open_tri (hval 2 38 v2 rfl rfl) h2
  clear hA0
  simp only [List.append_nil] at hW'
  refine (moves4 v0 v1 xs ys a b n W hX hY hcap (wf_i64 wa).1 (wf_i64 wa).2 (wf_i64 wb).1 (wf_i64 wb).2).mono fun e W' ⟨he, hb⟩ => ?_
  subst he
  exact ⟨_, rfl, row_end (pa := p0 ++ p1) (pv := []) hW' hb (List.append_nil _).symm (fun _ _ _ => trodAll_cons_mk (shut_bool Try.underlying4 _) trodAll_mk0)
    (fun sp hsp => by
      have h := trodAll_cons_mk (back0 W' hb sp (fun q hq => hsp q (List.mem_append_left _ hq))) (trodAll_cons_mk (back1 W' hb sp (fun q hq => hsp q (List.mem_append_right _ hq))) (trodAll_cons_mk (shut_tri wa wb wn) (trodAll_mk0 (enc := enc))))
      rw [List.append_nil, List.append_nil] at h
      exact h) (fun _ _ => rfl)
    (ok_one (by kernel_rfl) rfl (okWide_bool_mk Try.underlying4 _))⟩
theorem moves_holds : Rows.ArenaMovesSaid :=
  OpenClaim.holds_of_wide 4 Try.f4 rfl rfl rfl rfl rfl rfl rfl ⟨rfl, rfl, rfl, rfl, rfl⟩ rfl rfl rfl rfl rfl (by kernel_rfl) Try.func4 (by kernel_rfl)
    (of_decide_eq_true (by kernel_rfl)) (by unfold Func.isWrapper; first | (rw [if_pos (by decide +kernel)]; kernel_rfl) | (rw [if_neg (by decide +kernel)]; exact ⟨rfl, rfl⟩))
    (fun os started H enc _ => moves_lifted os started H enc)
end Ytkffabochgmagaa
end Go.Proofs
