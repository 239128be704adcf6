/- ObjectsAlike: the law of objects that are alike returns true and leaves its inputs as they were, for every shape, word and byte. No conditions. -/
import Derived.Test.YtmgoonahpndfoaaRows
import Derived.Test.YtmgoonahpndfoaaObOpen
import Derived.Test.YtmgoonahpndfoaaArF
import Derived.Test.YtmgoonahpndfoaaObAl
namespace Go.Proofs
namespace Ytmgoonahpndfoaa
open Go.ChangeShapes Go.WideShapes Go.ChangeAt Go.RowKit
set_option maxRecDepth 100000

theorem alike_own : ownKnob Try.prog.godebug = none := by kernel_rfl
theorem alike_lifted (os : Os) (started : os.Started) (H : Type) (enc : TypeId × Value → H) :
    ReturnsInHanded {} Try.checked os 8 .any (Rows.objectsAlikeSpec.pre6 enc Try.prog Try.f8 Rows.objectsAlikeRow.domain false) (Rows.objectsAlikeSpec.post enc Try.prog Try.f8 false true false false) := by
  refine returnsInHanded_of_change (C := Try.checked) alike_own started (by kernel_rfl) Try.func8
    (ChangeSpec.witness6 (enc := enc) (C := Try.checked) false ⟨#[], #[.agg #[.int .i64 0, .int .i64 0], .int .u64 0, .int .u8 0], []⟩ 8 (by kernel_rfl) (by kernel_rfl) (by kernel_rfl) (by kernel_rfl)) ?_
  intro W base args ds gs before hval hW hcnd _
  have hW' := hW
  obtain ⟨p, q, hA0, hV, rfl, hfz, hnd⟩ := hW
  have hA : DataW.TrodAll enc Try.prog W 0 (fun _ => true) true Try.f8.params.toList args.toList ds p := hA0
  rw [Try.params8] at hA hval
  obtain ⟨v0, vs0, d0, ds0, p0, q0, hargs, rfl, rfl, h0, r0⟩ := trodAll_cons hA
  obtain ⟨v1, vs1, d1, ds1, p1, q1, rfl, rfl, rfl, h1, r1⟩ := trodAll_cons r0
  obtain ⟨v2, vs2, d2, ds2, p2, q2, rfl, rfl, rfl, h2, r2⟩ := trodAll_cons r1
  obtain ⟨rfl, rfl, rfl⟩ := trodAll_nil r2
  obtain rfl : args = #[v0, v1, v2] := by cases args; simp_all
  obtain ⟨rfl, rfl⟩ := trodVars_none hV
  obtain ⟨P0, R0, rfl, rfl, rfl, hp0, hr0⟩ := Hd.open_shape (hval 0 24 v0 rfl rfl) h0
  obtain ⟨P1, rfl, rfl, rfl, hp1⟩ := Hd.open_word (hval 1 42 v1 rfl rfl) h1
  obtain ⟨P2, rfl, rfl, rfl, hp2⟩ := open_byte (hval 2 5 v2 rfl rfl) h2
  clear hA0
  simp only [List.append_nil] at hW'
  refine (alike8 P0 R0 P1 P2 W  (Hd.wf_i64 hp0) (Hd.wf_i64 hr0) (Hd.wf_u64 hp1) (wf_u8 hp2)).mono fun e W' ⟨he, hb⟩ => ?_
  subst he
  exact ⟨_, rfl, row_end (pa := []) (pv := []) hW' hb rfl (fun _ _ _ => trodAll_cons_mk (shut_bool Try.underlying4 _) trodAll_mk0)
    (fun _ _ => (trodAll_cons_mk (Hd.shut_shape hp0 hr0) (trodAll_cons_mk (shut_int Try.underlying42 hp1) (trodAll_cons_mk (shut_int Try.underlying5 hp2) (trodAll_mk0 (enc := enc)))))) (fun _ _ => rfl)
    (ok_one (by kernel_rfl) rfl (okWide_bool_mk Try.underlying4 _))⟩
theorem alike_holds : Rows.ObjectsAlikeSaid :=
  OpenClaim.holds_of_wide 8 Try.f8 rfl rfl rfl rfl rfl rfl rfl ⟨rfl, rfl, rfl, rfl, rfl⟩ rfl rfl rfl rfl rfl (by kernel_rfl) Try.func8 (by kernel_rfl)
    (of_decide_eq_true (by kernel_rfl)) (by unfold Func.isWrapper; first | (rw [if_pos (by decide +kernel)]; kernel_rfl) | (rw [if_neg (by decide +kernel)]; exact ⟨rfl, rfl⟩))
    (fun os started H enc _ => alike_lifted os started H enc)
end Ytmgoonahpndfoaa
end Go.Proofs
