/- ArenaLast: the law of what was written last returns true and leaves its inputs as they were, for every slice of words and every slice of operations. No conditions. -/
import Derived.Test.YtkffabochgmagaaRows
import Derived.Test.YtkffabochgmagaaArA
import Derived.Test.YtkffabochgmagaaArF
import Derived.Test.YtkffabochgmagaaArLw
import Derived.ProofKit
import Derived.OpenShut
namespace Go.Proofs
namespace Ytkffabochgmagaa
open Go.ChangeShapes Go.WideShapes Go.ChangeAt Go.RowKit
set_option maxRecDepth 100000

theorem last_own : ownKnob Try.prog.godebug = none := by kernel_rfl
theorem last_lifted (os : Os) (started : os.Started) (H : Type) (enc : TypeId × Value → H) :
    ReturnsInHanded {} Try.checked os 6 .any (Rows.arenaLastSpec.pre6 enc Try.prog Try.f6 Rows.arenaLastRow.domain false) (Rows.arenaLastSpec.post enc Try.prog Try.f6 false true false false) := by
  refine returnsInHanded_of_change (C := Try.checked) last_own started (by kernel_rfl) Try.func6
    (ChangeSpec.witness6 (enc := enc) (C := Try.checked) false ⟨#[], #[.slice none 0 0, .slice none 0 0], []⟩ 8 (by kernel_rfl) (by kernel_rfl) (by kernel_rfl) (by kernel_rfl)) ?_
  intro W base args ds gs before hval hW hcnd _
  have hW' := hW
  obtain ⟨p, q, hA0, hV, rfl, hfz, hnd⟩ := hW
  have hA : DataW.TrodAll enc Try.prog W 0 (fun _ => true) true Try.f6.params.toList args.toList ds p := hA0
  rw [Try.params6] at hA hval
  obtain ⟨v0, vs0, d0, ds0, p0, q0, hargs, rfl, rfl, h0, r0⟩ := trodAll_cons hA
  obtain ⟨v1, vs1, d1, ds1, p1, q1, rfl, rfl, rfl, h1, r1⟩ := trodAll_cons r0
  obtain ⟨rfl, rfl, rfl⟩ := trodAll_nil r1
  obtain rfl : args = #[v0, v1] := by cases args; simp_all
  obtain ⟨rfl, rfl⟩ := trodVars_none hV
  obtain ⟨ws0, hX0, _, hc0, back0⟩ := open_words (hval 0 24 v0 rfl rfl) h0
  obtain ⟨os1, hX1, _, _, hc1, back1⟩ := open_ops (hval 1 48 v1 rfl rfl) h1
  clear hA0
  simp only [List.append_nil] at hW'
  refine (last6 v0 v1 _ _ W hX0 hX1).mono fun e W' ⟨he, hb⟩ => ?_
  subst he
  exact ⟨_, rfl, row_end (pa := p0 ++ p1) (pv := []) hW' hb (List.append_nil _).symm (fun _ _ _ => trodAll_cons_mk (shut_bool Try.underlying4 _) trodAll_mk0)
    (fun sp hsp => by
      have h := (trodAll_cons_mk (back0 W' hb sp (fun q hq => hsp q (List.mem_append_left _ hq))) (trodAll_cons_mk (back1 W' hb sp (fun q hq => hsp q (List.mem_append_right _ hq))) (trodAll_mk0 (enc := enc))))
      simp only [List.append_nil] at h
      exact h) (fun _ _ => rfl)
    (ok_one (by kernel_rfl) rfl (okWide_bool_mk Try.underlying4 _))⟩
theorem last_holds : Rows.ArenaLastSaid :=
  OpenClaim.holds_of_wide 6 Try.f6 rfl rfl rfl rfl rfl rfl rfl ⟨rfl, rfl, rfl, rfl, rfl⟩ rfl rfl rfl rfl rfl (by kernel_rfl) Try.func6 (by kernel_rfl)
    (of_decide_eq_true (by kernel_rfl)) (by unfold Func.isWrapper; first | (rw [if_pos (by decide +kernel)]; kernel_rfl) | (rw [if_neg (by decide +kernel)]; exact ⟨rfl, rfl⟩))
    (fun os started H enc _ => last_lifted os started H enc)
end Ytkffabochgmagaa
end Go.Proofs
