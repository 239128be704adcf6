/- RemsetStores: the law of Record, Forget and Store returns true and leaves its inputs as they were, for every case, number and pair. No conditions. -/
import Derived.Test.YtjkphacidpongaaGreatRows
import Derived.Test.YtjkphacidpongaaGreatG01
import Derived.Test.YtjkphacidpongaaGreatQRnG
import Derived.Test.YtjkphacidpongaaGreatG21
namespace Go.Proofs
namespace YtjkphacidpongaaGreat
open Go.ChangeShapes Go.WideShapes Go.ChangeAt Go.RowKit
set_option maxRecDepth 100000

theorem remsetstores_own : ownKnob Tryz.prog.godebug = none := by kernel_rfl
theorem remsetstores_lifted (os : Os) (started : os.Started) (H : Type) (enc : TypeId × Value → H) :
    ReturnsInHanded {} Tryz.checked os 4 .any (Rows.remsetStoresSpec.pre6 enc Tryz.prog Tryz.f4 Rows.remsetStoresRow.domain false) (Rows.remsetStoresSpec.post enc Tryz.prog Tryz.f4 false true false false) := by
  refine returnsInHanded_of_change (C := Tryz.checked) remsetstores_own started (by kernel_rfl) Tryz.func4
    (ChangeSpec.witness6 (enc := enc) (C := Tryz.checked) false ⟨#[], #[.agg #[.int .i64 0, .int .i64 0, .int .i64 0, .int .i64 0, .int .i64 0, .slice none 0 0, .slice none 0 0], .int .i64 0, .agg #[.int .i64 0, .int .i64 0]], []⟩ 8 (by kernel_rfl) (by kernel_rfl) (by kernel_rfl) (by kernel_rfl)) ?_
  intro W base args ds gs before hval hW hcnd _
  have hW' := hW
  obtain ⟨p, q, hA0, hV, rfl, hfz, hnd⟩ := hW
  have hA : DataW.TrodAll enc Tryz.prog W 0 (fun _ => true) true Tryz.f4.params.toList args.toList ds p := hA0
  rw [Tryz.params4] at hA hval
  obtain ⟨v0, vs0, d0, ds0, p0, q0, hargs, rfl, rfl, h0, r0⟩ := trodAll_cons hA
  obtain ⟨v1, vs1, d1, ds1, p1, q1, rfl, rfl, rfl, h1, r1⟩ := trodAll_cons r0
  obtain ⟨v2, vs2, d2, ds2, p2, q2, rfl, rfl, rfl, h2, r2⟩ := trodAll_cons r1
  obtain ⟨rfl, rfl, rfl⟩ := trodAll_nil r2
  obtain rfl : args = #[v0, v1, v2] := by cases args; simp_all
  obtain ⟨rfl, rfl⟩ := trodVars_none hV
  obtain ⟨C0, N0, S0, K0, Q0, A0, nv0, n0, U0, T0, rfl, hX0, back0⟩ := open_case (hval 0 31 v0 rfl rfl) h0
  obtain ⟨P1, rfl, rfl, rfl, hp1⟩ := open_int Tryz.underlying3 (hval 1 3 v1 rfl rfl) h1
  obtain ⟨P2, R2, rfl, rfl, rfl, hp2, hr2⟩ := open_pair (hval 2 42 v2 rfl rfl) h2
  clear hA0
  simp only [List.append_nil] at hW'
  refine (stores4 C0 N0 S0 K0 Q0 A0 nv0 n0 U0 T0 P1 P2 R2 W hX0).mono fun e W' ⟨he, hb⟩ => ?_
  subst he
  exact ⟨_, rfl, row_end (pa := p0) (pv := []) hW' hb (List.append_nil _).symm (fun _ _ _ => trodAll_cons_mk (shut_bool Tryz.underlying4 _) trodAll_mk0)
    (fun sp hsp => by
      have h := (trodAll_cons_mk (back0 W' hb sp (fun q hq => hsp q (hq))) (trodAll_cons_mk (shut_int Tryz.underlying3 hp1) (trodAll_cons_mk (shut_pair hp2 hr2) (trodAll_mk0 (enc := enc)))))
      simp only [List.append_nil] at h
      exact h) (fun _ _ => rfl)
    (ok_one (by kernel_rfl) rfl (okWide_bool_mk Tryz.underlying4 _))⟩
theorem remsetstores_holds : Rows.RemsetStoresSaid :=
  OpenClaim.holds_of_wide 4 Tryz.f4 rfl rfl rfl rfl rfl rfl rfl ⟨rfl, rfl, rfl, rfl, rfl⟩ rfl rfl rfl rfl rfl (by kernel_rfl) Tryz.func4 (by kernel_rfl)
    (of_decide_eq_true (by kernel_rfl)) (by unfold Func.isWrapper; first | (rw [if_pos (by decide +kernel)]; kernel_rfl) | (rw [if_neg (by decide +kernel)]; exact ⟨rfl, rfl⟩))
    (fun os started H enc _ => remsetstores_lifted os started H enc)
end YtjkphacidpongaaGreat
end Go.Proofs
