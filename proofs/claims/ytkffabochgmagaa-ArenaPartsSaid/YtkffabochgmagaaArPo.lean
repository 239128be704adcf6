/- ArenaParts: the law of operations played in two parts returns true and leaves its inputs as they were, for every slice of words, every slice of operations and every number. No conditions. -/
import Derived.Test.YtkffabochgmagaaRows
import Derived.Test.YtkffabochgmagaaArA
import Derived.Test.YtkffabochgmagaaArPn
import Derived.Test.YtkffabochgmagaaArF
import Derived.ProofKit
import Derived.OpenShut
import Derived.Deep.Slices
namespace Go.Proofs
namespace Ytkffabochgmagaa
open Go.ChangeShapes Go.WideShapes Go.ChangeAt Go.RowKit Go.Deep
set_option maxRecDepth 100000

theorem nil_ops {H : Type} {enc : TypeId × Value → H} {w : World} {n c : Nat} {d : DataW H} {p : List MemPlace} (h : DataW.Trod enc Try.prog w 0 (fun _ => true) true 48 (.slice none n c) d p) : n = 0 ∧ c = 0 := by
  obtain ⟨fuel, hf⟩ := h
  rcases open_slice Try.underlying48 hf with ⟨h1, h2⟩ | ⟨a, len, cap, m, n, D, Pl, h1, _⟩
  · simp only [Value.cells, List.cons.injEq, and_true, Value.slice.injEq] at h1
    exact h1.2
  · simp [Value.cells] at h1
theorem under5 : Try.prog.underlying 5 = some (.int .u8) := by kernel_rfl
theorem wf_u8 {z : Int} (h : (Lit.int .u8 z).wf = true) : 0 ≤ z ∧ z ≤ 255 := by
  simp [Lit.wf, IntKind.min, IntKind.max, IntKind.signed, IntKind.bits] at h
  omega
/-- the law's call, for every input -/
theorem parts7 (v1 v2 : Value) (ws : List Int) (ops : List AOp) (z : Int) (w : World) (h1 : WAt w v1 ws) (h2 : OAt w v2 ops) (hcap : ∀ A n c, v2 = .slice A n c → n ≤ c) (hnil : ∀ n c, v2 = .slice none n c → n = 0 ∧ c = 0) (z0 : 0 ≤ z) (z1 : z ≤ 255) :
    Calls Try.prog 7 #[v1, v2, .int .u8 z] w fun e w' => e = .returned (.bool true) ∧ Below w.heap.size w w' := by
  by_cases hl : 200 < ws.length ∨ 60 < ops.length
  · exact parts7_long v1 v2 ws ops z w h1 h2 hl
  · obtain ⟨A1, p1, rfl, -⟩ := id h1
    obtain ⟨A2, p2, rfl, -⟩ := id h2
    cases A2 with
    | none =>
      obtain ⟨e1, rfl⟩ := hnil _ _ rfl
      rw [e1]
      exact parts7_nil A1 p1 ws z w h1 (by omega) z0 z1
    | some a => exact parts7_some A1 p1 a p2 ws ops z w h1 h2 (hcap _ _ _ rfl) (by omega) (by omega) z0 z1

theorem parts_own : ownKnob Try.prog.godebug = none := by kernel_rfl
theorem parts_lifted (os : Os) (started : os.Started) (H : Type) (enc : TypeId × Value → H) :
    ReturnsInHanded {} Try.checked os 7 .any (Rows.arenaPartsSpec.pre6 enc Try.prog Try.f7 Rows.arenaPartsRow.domain false) (Rows.arenaPartsSpec.post enc Try.prog Try.f7 false true false false) := by
  refine returnsInHanded_of_change (C := Try.checked) parts_own started (by kernel_rfl) Try.func7
    (ChangeSpec.witness6 (enc := enc) (C := Try.checked) false ⟨#[], #[.slice none 0 0, .slice none 0 0, .int .u8 0], []⟩ 8 (by kernel_rfl) (by kernel_rfl) (by kernel_rfl) (by kernel_rfl)) ?_
  intro W base args ds gs before hval hW hcnd _
  have hW' := hW
  obtain ⟨p, q, hA0, hV, rfl, hfz, hnd⟩ := hW
  have hA : DataW.TrodAll enc Try.prog W 0 (fun _ => true) true Try.f7.params.toList args.toList ds p := hA0
  rw [Try.params7] at hA hval
  obtain ⟨v0, vs0, d0, ds0, p0, q0, hargs, rfl, rfl, h0, r0⟩ := trodAll_cons hA
  obtain ⟨v1, vs1, d1, ds1, p1, q1, rfl, rfl, rfl, h1, r1⟩ := trodAll_cons r0
  obtain ⟨v2, vs2, d2, ds2, p2, q2, rfl, rfl, rfl, h2, r2⟩ := trodAll_cons r1
  obtain ⟨rfl, rfl, rfl⟩ := trodAll_nil r2
  obtain rfl : args = #[v0, v1, v2] := by cases args; simp_all
  obtain ⟨rfl, rfl⟩ := trodVars_none hV
  obtain ⟨ws, hX, _, _, back0⟩ := open_words (hval 0 24 v0 rfl rfl) h0
  obtain ⟨ops, hY, _, _, hcap, back1⟩ := open_ops (hval 1 48 v1 rfl rfl) h1
  have hnil : ∀ n c, v1 = .slice none n c → n = 0 ∧ c = 0 := fun n c e => by subst e; exact nil_ops h1
  obtain ⟨z, rfl, rfl, rfl, wz⟩ := open_int under5 (hval 2 5 v2 rfl rfl) h2
  clear hA0
  simp only [List.append_nil] at hW'
  refine (parts7 v0 v1 ws ops z W hX hY hcap hnil (wf_u8 wz).1 (wf_u8 wz).2).mono fun e W' ⟨he, hb⟩ => ?_
  subst he
  exact ⟨_, rfl, row_end (pa := p0 ++ p1) (pv := []) hW' hb (List.append_nil _).symm (fun _ _ _ => trodAll_cons_mk (shut_bool Try.underlying4 _) trodAll_mk0)
    (fun sp hsp => by
      have h := trodAll_cons_mk (back0 W' hb sp (fun q hq => hsp q (List.mem_append_left _ hq))) (trodAll_cons_mk (back1 W' hb sp (fun q hq => hsp q (List.mem_append_right _ hq))) (trodAll_cons_mk (shut_int under5 wz) (trodAll_mk0 (enc := enc))))
      rw [List.append_nil, List.append_nil] at h
      exact h) (fun _ _ => rfl)
    (ok_one (by kernel_rfl) rfl (okWide_bool_mk Try.underlying4 _))⟩
theorem parts_holds : Rows.ArenaPartsSaid :=
  OpenClaim.holds_of_wide 7 Try.f7 rfl rfl rfl rfl rfl rfl rfl ⟨rfl, rfl, rfl, rfl, rfl⟩ rfl rfl rfl rfl rfl (by kernel_rfl) Try.func7 (by kernel_rfl)
    (of_decide_eq_true (by kernel_rfl)) (by unfold Func.isWrapper; first | (rw [if_pos (by decide +kernel)]; kernel_rfl) | (rw [if_neg (by decide +kernel)]; exact ⟨rfl, rfl⟩))
    (fun os started H enc _ => parts_lifted os started H enc)
end Ytkffabochgmagaa
end Go.Proofs
