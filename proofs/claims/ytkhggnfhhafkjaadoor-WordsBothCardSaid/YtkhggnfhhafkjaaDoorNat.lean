/- natural and decimal. -/
import Derived.Test.YtkhggnfhhafkjaaDoorNumP
namespace Go.Proofs
namespace YtkhggnfhhafkjaaDoor
open Go.RowKit

theorem allFrom_zero (s : ByteArray) : allFrom digB s 0 = s.data.toList.all digU := by unfold allFrom; rw [List.drop_zero]; rfl

theorem head_eq (s : ByteArray) (h : 0 < s.size) : ∃ r, s.data.toList = s[0] :: r ∧ r.length = s.size - 1 := by
  have hl : s.data.toList.length = s.size := by simp
  refine ⟨s.data.toList.drop 1, ?_, by simp⟩
  have := List.drop_eq_getElem_cons (l := s.data.toList) (i := 0) (by omega)
  rw [List.drop_zero] at this
  exact this

theorem nat35 (s : ByteArray) (w : World) (hs : s.size ≤ maxLen) : Calls Tryd.prog 35 #[.string s] w fun e w' => e = .returned (.bool (natL s.data.toList)) ∧ w = w' := by
  by_cases hp : 0 < s.size
  · obtain ⟨r, hr, hrl⟩ := head_eq s hp
    by_cases h : (s[0].toNat : Int) = 48 ∧ 1 < s.size
    · have T := Lib.hid (show natL s.data.toList = false by
        rw [hr]
        have e48 : s[0] = 48 := by apply UInt8.toNat_inj.1; show s[0].toNat = 48; omega
        have hne : r.isEmpty = false := by
          cases r with
          | nil => simp at hrl; omega
          | cons => rfl
        simp [natL, e48, hne])
      obtain ⟨h48, h1⟩ := h
      have h0 := isEmpty_of s hp
      clear hr hrl
      unfold maxLen at hs
      have q : (1 : Int) < (s.size : Int) := by omega
      go_enter Tryd.func35, Tryd.ntmps35
      go_wp2
      go_ret
      exact ⟨ret_bool T.out.symm, rfl⟩
    · refine (nat35_loop s w hs hp (fun h48 => by by_cases h1 : 1 < s.size; exact absurd ⟨h48, h1⟩ h; omega)).mono fun e w' hh => ?_
      refine ⟨?_, hh.2⟩
      rw [hh.1, allFrom_zero]
      refine ret_bool ?_
      rw [hr]
      have : (r.isEmpty || s[0] != 48) = true := by
        by_cases h1 : 1 < s.size
        · have : s[0] ≠ 48 := fun e => h ⟨by rw [e]; rfl, h1⟩
          simp [this]
        · have : r = [] := List.eq_nil_of_length_eq_zero (by omega)
          simp [this]
      simp only [natL, this, Bool.true_and]
  · have h0 : s.toList = [] := toList_nil s (by omega)
    have T := Lib.hid (show natL s.data.toList = false by rw [← ByteArray.toList_eq, h0]; rfl)
    go_enter Tryd.func35, Tryd.ntmps35
    go_wp2
    go_ret
    exact ⟨ret_bool T.out.symm, rfl⟩
end YtkhggnfhhafkjaaDoor
end Go.Proofs
