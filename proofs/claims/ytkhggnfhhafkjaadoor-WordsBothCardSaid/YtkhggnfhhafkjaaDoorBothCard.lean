/- The law WordsBoth answers true and leaves its inputs as they were, for every two lists of fields. Conditions: the listed package-level variables hold what the program lays at its start, which the card ties. -/
import Derived.Test.YtkhggnfhhafkjaaDoorBoth
import Derived.Test.YtkhggnfhhafkjaaDoorFldsArg
import Derived.Test.YtkhggnfhhafkjaaDoorLays
import Derived.Test.YtkhggnfhhafkjaaDoorFrame
import Derived.Test.YtkhggnfhhafkjaaDoorCards
import Derived.Test.YtkhggnfhhafkjaaDoorTie
import Derived.WalkKit
import Derived.ProofKit
import Derived.OpenShut
import Derived.Deep.DeepHandedRow
namespace Go.Proofs
namespace YtkhggnfhhafkjaaDoor
open Go.ChangeShapes Go.WideShapes Go.ChangeAt Go.RowKit
open Go.ChangeMaps (open_string shut_string)
set_option maxRecDepth 100000

theorem both_own : ownKnob Tryd.prog.godebug = none := by kernel_rfl
theorem both_laid {W : World} (h : laidMetH Tryd.prog Rows.wordsBothRow.laid W) : Laid W :=
  laid_of (l := Rows.wordsBothRow.laid) h (by simp [Rows.wordsBothRow]) (by simp [Rows.wordsBothRow]) (by simp [Rows.wordsBothRow])

theorem both_contract (H : Type) (enc : TypeId × Value → H) (W : World) (base : Nat) (args : Array Value) (ds gs : List (DataW H)) (old : List MemPlace)
    (hval : ∀ (j : Nat) t v, Tryd.f10.params[j]? = some t → args[j]? = some v → Value.okWide Tryd.prog W .any base t v)
    (hW : DataW.Whole enc Tryd.prog Tryd.f10.params.toList Rows.wordsBothSpec.vars false W args.toList ds gs old) (hL : laidMetH Tryd.prog Rows.wordsBothRow.laid W) :
    Calls Tryd.prog 10 args W fun e W' => ∃ v, e = .returned v ∧ Rows.wordsBothSpec.post enc Tryd.prog Tryd.f10 false true false false W args v W' := by
  have hW' := hW
  obtain ⟨p, q, hA0, hV, rfl, hfz, hnd⟩ := hW
  have hA : DataW.TrodAll enc Tryd.prog W 0 (fun _ => true) true Tryd.f10.params.toList args.toList ds p := hA0
  rw [Tryd.params10] at hA hval
  obtain ⟨v0, vs0, d0, ds0, p0, q0, hargs, rfl, rfl, h0, r0⟩ := trodAll_cons hA
  obtain ⟨v1, vs1, d1, ds1, p1, q1, rfl, rfl, rfl, h1, r1⟩ := trodAll_cons r0
  obtain ⟨rfl, rfl, rfl⟩ := trodAll_nil r1
  obtain rfl : args = #[v0, v1] := by cases args; simp_all
  obtain ⟨rfl, rfl⟩ := trodVars_none hV
  obtain ⟨fs, hFA, hlen, hback⟩ := open_flds (hval 0 32 v0 rfl rfl) h0
  obtain ⟨gs1, hFB, hlen1, hback1⟩ := open_flds (hval 1 32 v1 rfl rfl) h1
  clear hA0
  simp only [List.append_nil] at hW'
  refine (both10 v0 v1 fs gs1 W hFA hFB (by unfold maxLen at hlen; omega) (by unfold maxLen at hlen1; omega) (both_laid hL)).mono fun e W' ⟨he, hb⟩ => ?_
  subst he
  exact ⟨_, rfl, row_end (pa := p0 ++ p1) (pv := []) hW' hb (List.append_nil _).symm (fun _ _ _ => trodAll_cons_mk (shut_bool Tryd.underlying4 _) trodAll_mk0)
    (fun sp hsp => by have h := trodAll_cons_mk (hback W' hb sp (fun q hq => hsp q (List.mem_append_left _ hq))) (trodAll_cons_mk (hback1 W' hb sp (fun q hq => hsp q (List.mem_append_right _ hq))) (trodAll_mk0 (enc := enc))); rw [List.append_nil] at h; exact h) (fun _ _ => rfl)
    (ok_one (by kernel_rfl) rfl (okWide_bool_mk Tryd.underlying4 _))⟩

theorem both_reads (os : Os) {H : Type} (enc : TypeId × Value → H) : ∃ places, DataW.whole enc Tryd.prog ((laidWorld os).forCall (fun _ _ => 0) ⟨#[], #[.slice none 0 0, .slice none 0 0], []⟩).memory Tryd.f10.params.toList Rows.wordsBothSpec.vars false #[Value.slice none 0 0, .slice none 0 0].toList 8 = some ([.nil, .nil], [], places) :=
  ⟨[], by kernel_rfl⟩

theorem both_lifted (os : Os) (started : os.Started) (H : Type) (enc : TypeId × Value → H) (F : Stop.Interp) :
    ReturnsInHanded {} Tryd.checked os 10 .any ((OpenSpec.ofChange Rows.wordsBothSpec).preRow enc Tryd.prog Tryd.f10 Rows.wordsBothRow.domain false Rows.wordsBothRow.laid) (((OpenSpec.ofChange Rows.wordsBothSpec).at F).post enc Tryd.prog Tryd.f10 false true false false) := by
  obtain ⟨places, hx⟩ := both_reads os enc
  refine returnsInHanded_of_row (C := Tryd.checked) (s := OpenSpec.ofChange Rows.wordsBothSpec) both_own started (by kernel_rfl) Tryd.func10
    (witness_row_at (enc := enc) (C := Tryd.checked) false (laidWorld os) #[.slice none 0 0, .slice none 0 0] rfl (by kernel_rfl) (by kernel_rfl) (by kernel_rfl)
      (OpenSpec.preRow_of_cond 8 hx (by kernel_rfl) (fun k hk => by cases hk) (by kernel_rfl) (laid_met os _))) ?_
  intro W base args ds gs old hval hW _ _ _ hL _ _
  exact both_contract H enc W base args ds gs old hval hW hL

theorem both_said : Rows.WordsBothSaid :=
  OpenClaim.holds_of_cond 10 Tryd.f10 rfl rfl rfl rfl rfl rfl rfl ⟨rfl, rfl, rfl, rfl, rfl⟩ rfl rfl rfl rfl rfl (by kernel_rfl) Tryd.func10 (by kernel_rfl)
    (of_decide_eq_true (by kernel_rfl)) (by unfold Func.isWrapper; first | (rw [if_pos (by decide +kernel)]; kernel_rfl) | (rw [if_neg (by decide +kernel)]; exact ⟨rfl, rfl⟩))
    (fun os started H enc _ F => by rw [OpenClaim.pre_eq_preRow]; exact both_lifted os started H enc F)

theorem both_plain (f : FuncId) (fn : Func) (hf : Tryd.pinned.checked.prog.funcNamed "shunter/shunterlaw01.WordsBoth" = some f) (hfn : Tryd.pinned.checked.prog.funcs[f]? = some fn) :
    true = Tryd.pinned.checked.prog.looks [] ∧ ∀ (j : Nat) t, fn.params[j]? = some t → Tryd.pinned.checked.prog.wantsStandIn t = false := by
  obtain rfl : f = 10 := Option.some.inj ((show Tryd.prog.funcNamed "shunter/shunterlaw01.WordsBoth" = some 10 by kernel_rfl).symm.trans hf) |>.symm
  obtain rfl : fn = Tryd.f10 := (Option.some.inj (Tryd.func10.symm.trans hfn)).symm
  refine ⟨by kernel_rfl, fun j t ht => ?_⟩
  rw [Tryd.params10] at ht
  obtain rfl : t = 32 := by simpa using Array.mem_of_getElem? ht
  exact (show Tryd.prog.wantsStandIn 32 = false by kernel_rfl)

theorem both_card : Rows.WordsBothCardSaid :=
  Claim7.holds_tied_plain_at .later [] _ _ _ _ both_said (fun _ h => by cases h) (by kernel_rfl) (fun _ h => by cases h) wordsBoth_row_tie rfl ⟨rfl, rfl⟩ (by kernel_rfl) rfl both_plain (by kernel_rfl)
end YtkhggnfhhafkjaaDoor
end Go.Proofs
