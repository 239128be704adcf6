/- SlotsOrders: the law of orders returns true and leaves its inputs as they were, for every two sets and list of numbers. No conditions. -/
import Derived.Test.YtjanicngedkhnaaRows
import Derived.Test.YtjanicngedkhnaaSlDo
import Derived.Test.YtjanicngedkhnaaSlDf
import Derived.Test.YtjanicngedkhnaaSlCi
namespace Go.Proofs
namespace Ytjanicngedkhnaa
open Go.ChangeShapes Go.WideShapes Go.ChangeAt Go.RowKit
set_option maxRecDepth 100000

theorem orders_own : ownKnob Try.prog.godebug = none := by kernel_rfl
theorem orders_lifted (os : Os) (started : os.Started) (H : Type) (enc : TypeId × Value → H) :
    ReturnsInHanded {} Try.checked os 9 .any (Rows.slotsOrdersSpec.pre6 enc Try.prog Try.f9 Rows.slotsOrdersRow.domain false) (Rows.slotsOrdersSpec.post enc Try.prog Try.f9 false true false false) := by
  refine returnsInHanded_of_change (C := Try.checked) orders_own started (by kernel_rfl) Try.func9
    (ChangeSpec.witness6 (enc := enc) (C := Try.checked) false ⟨#[], #[.agg #[.slice none 0 0], .agg #[.slice none 0 0], .slice none 0 0], []⟩ 8 (by kernel_rfl) (by kernel_rfl) (by kernel_rfl) (by kernel_rfl)) ?_
  intro W base args ds gs before hval hW hcnd _
  have hW' := hW
  obtain ⟨p, q, hA0, hV, rfl, hfz, hnd⟩ := hW
  have hA : DataW.TrodAll enc Try.prog W 0 (fun _ => true) true Try.f9.params.toList args.toList ds p := hA0
  rw [Try.params9] at hA hval
  obtain ⟨v0, vs0, d0, ds0, p0, q0, hargs, rfl, rfl, h0, r0⟩ := trodAll_cons hA
  obtain ⟨v1, vs1, d1, ds1, p1, q1, rfl, rfl, rfl, h1, r1⟩ := trodAll_cons r0
  obtain ⟨v2, vs2, d2, ds2, p2, q2, rfl, rfl, rfl, h2, r2⟩ := trodAll_cons r1
  obtain ⟨rfl, rfl, rfl⟩ := trodAll_nil r2
  obtain rfl : args = #[v0, v1, v2] := by cases args; simp_all
  obtain ⟨rfl, rfl⟩ := trodVars_none hV
  obtain ⟨u0, ws0, rfl, hX0, hL0, back0⟩ := open_set (hval 0 24 v0 rfl rfl) h0
  obtain ⟨u1, ws1, rfl, hX1, hL1, back1⟩ := open_set (hval 1 24 v1 rfl rfl) h1
  obtain ⟨ws2, hX2, hL2, back2⟩ := open_list (hval 2 22 v2 rfl rfl) h2
  clear hA0
  simp only [List.append_nil] at hW'
  refine (orders9 u0 ws0 u1 ws1 v2 ws2 W hX0 hX1 hX2).mono fun e W' ⟨he, hb⟩ => ?_
  subst he
  exact ⟨_, rfl, row_end (pa := p0 ++ (p1 ++ p2)) (pv := []) hW' hb (List.append_nil _).symm (fun _ _ _ => trodAll_cons_mk (shut_bool Try.underlying4 _) trodAll_mk0)
    (fun sp hsp => by
      have h := (trodAll_cons_mk (back0 W' hb sp (fun q hq => hsp q (List.mem_append_left _ hq))) (trodAll_cons_mk (back1 W' hb sp (fun q hq => hsp q (List.mem_append_right _ (List.mem_append_left _ hq)))) (trodAll_cons_mk (back2 W' hb sp (fun q hq => hsp q (List.mem_append_right _ (List.mem_append_right _ hq)))) (trodAll_mk0 (enc := enc)))))
      simp only [List.append_nil] at h
      exact h) (fun _ _ => rfl)
    (ok_one (by kernel_rfl) rfl (okWide_bool_mk Try.underlying4 _))⟩
theorem orders_holds : Rows.SlotsOrdersSaid :=
  OpenClaim.holds_of_wide 9 Try.f9 rfl rfl rfl rfl rfl rfl rfl ⟨rfl, rfl, rfl, rfl, rfl⟩ rfl rfl rfl rfl rfl (by kernel_rfl) Try.func9 (by kernel_rfl)
    (of_decide_eq_true (by kernel_rfl)) (by unfold Func.isWrapper; first | (rw [if_pos (by decide +kernel)]; kernel_rfl) | (rw [if_neg (by decide +kernel)]; exact ⟨rfl, rfl⟩))
    (fun os started H enc _ => orders_lifted os started H enc)
end Ytjanicngedkhnaa
end Go.Proofs
