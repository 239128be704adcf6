/- The law WordsJoins answers true, for every list of fields. Condition: the listed package-level variables lie as the program lays them. -/
import Derived.Test.YtkhggnfhhafkjaaDoorFar
import Derived.Test.YtkhggnfhhafkjaaDoorJoin
import Derived.Test.YtkhggnfhhafkjaaDoorRJoin
import Derived.Test.YtkhggnfhhafkjaaDoorSplits
namespace Go.Proofs
namespace YtkhggnfhhafkjaaDoor
open Go.RowKit

set_option maxRecDepth 100000 in
set_option maxHeartbeats 1000000 in
/-- WordsJoins answers true -/
theorem joins6 (v : Value) (fs : List Fld) (w : World) (hF : FAt w v fs) (hmax : fs.length ≤ 9223372036854775807) (hL : Laid w) :
    Calls Tryd.prog 6 #[v] w fun e w' => e = .returned (.bool true) ∧ Below w.heap.size w w' := by
  have HL := Lib.hid hL
  have F26 := Lib.hid (far26 v fs w hF hmax)
  cases hfar : farB fs with
  | true =>
    rw [hfar] at F26
    clear hL hfar
    go_enter Tryd.func6, Tryd.ntmps6
    go_wp2_with (first
      | (go_at_call 26; refine F26.out.mono ?_; rintro e w' ⟨rfl, rfl⟩)
      | (go_at_call 12; refine (shown12x w _ HL (Below.refl _ _)).mono ?_; rintro e w1 ⟨rfl, hB1⟩))
    exact bodyPost_ret (v := .bool true) (by simp [results, Tryd.f6, go_sem]) rfl ⟨rfl, hB1⟩
  | false =>
    rw [hfar] at F26
    have hb := farB_false hfar
    have hs : ∀ (j : Nat) (f : Fld), fs[j]? = some f → f.1.length ≤ 1000000 := fun j f hj => Nat.le_trans (hb.2 j f hj) (by omega)
    have F27 := Lib.hid (join27 v fs w hL.esc hF hs)
    have F28 := Lib.hid (fun (W : World) (h : Below w.heap.size w W) => rjoin28 v fs W (hF.below h) hs)
    clear hL hfar hs hb
    generalize joinF fs = R at *
    obtain ⟨l, e⟩ := R
    unfold joinV at F27 F28
    go_enter Tryd.func6, Tryd.ntmps6
    go_wp2_with (first
      | (go_at_call 26; refine F26.out.mono ?_; rintro e w' ⟨rfl, rfl⟩)
      | (go_at_call 27; refine F27.out.mono ?_; rintro e w1 ⟨rfl, hB1⟩)
      | (go_at_call 28; refine (F28.out _ hB1).mono ?_; rintro e w2 ⟨rfl, hb2⟩; have hB2 := below_end hB1 hb2)
      | (go_at_call 12; refine (shown12x w _ HL hB2).mono ?_; rintro e w3 ⟨rfl, hB3⟩))
    exact bodyPost_ret (v := .bool true) (by simp [results, Tryd.f6, go_sem]) rfl ⟨rfl, hB3⟩
end YtkhggnfhhafkjaaDoor
end Go.Proofs
