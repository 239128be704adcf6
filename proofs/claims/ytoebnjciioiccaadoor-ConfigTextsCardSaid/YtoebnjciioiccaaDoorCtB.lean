/- Bytes, and natural. -/
import Derived.Test.YtoebnjciioiccaaDoorProg
import Derived.Test.YtoebnjciioiccaaDoorCtN
import Derived.WalkKit
import Derived.OwnWalk
import Derived.BigQuiet
import Derived.Deep.QuietTactic
import Derived.Lib.Hide
import Derived.Deep.Cut
namespace Go.Proofs
namespace YtoebnjciioiccaaDoor
namespace Ct
open Go.RowKit

theorem ret_bool {a b : Bool} (h : a = b) : Ending.returned (.bool a) = .returned (.bool b) := by rw [h]
theorem dig40 (c : Int) (w : World) : Calls Tryd.prog 69 #[.int .u8 c] w fun e w' => e = .returned (.bool (digB c)) ∧ w = w' := by
  go_enter Tryd.func69, Tryd.ntmps69
  go_wp2
  all_goals (go_ret; exact ⟨ret_bool (by rw [Bool.eq_iff_iff]; simp [digB]; omega), rfl⟩)
theorem dig42 (c : Int) (w : World) : Calls Tryd.prog 73 #[.int .u8 c] w fun e w' => e = .returned (.bool (digB c)) ∧ w = w' := by
  go_enter Tryd.func73, Tryd.ntmps73
  go_wp2
  all_goals (go_ret; exact ⟨ret_bool (by rw [Bool.eq_iff_iff]; simp [digB]; omega), rfl⟩)
/-- the bytes from a place on, all of them with a property -/
def allFrom (p : Int → Bool) (s : ByteArray) (k : Nat) : Bool := (s.data.toList.drop k).all fun c => p c.toNat
theorem allFrom_step (p : Int → Bool) (s : ByteArray) (k : Nat) (h : k < s.size) : allFrom p s k = (p s[k].toNat && allFrom p s (k + 1)) := by
  unfold allFrom
  rw [List.drop_eq_getElem_cons (by simpa using h)]
  rfl
theorem allFrom_end (p : Int → Bool) (s : ByteArray) (k : Nat) (h : s.size ≤ k) : allFrom p s k = true := by
  unfold allFrom
  rw [List.drop_eq_nil_of_le (by simpa using h)]
  rfl
theorem isEmpty_of (s : ByteArray) (h : 0 < s.size) : s.toList.isEmpty = false := by
  rw [ByteArray.toList_eq, List.isEmpty_eq_false_iff_exists_mem]
  exact ⟨s.data.toList[0]'(by simpa using h), List.getElem_mem _⟩
theorem toList_nil (s : ByteArray) (h : s.size = 0) : s.toList = [] := by
  rw [ByteArray.toList_eq]
  exact List.eq_nil_of_length_eq_zero (by simpa using h)
theorem nat35_loop (s : ByteArray) (w : World) (hs : s.size ≤ maxLen) (hp : 0 < s.size) (h1 : (s[0].toNat : Int) = 48 → s.size ≤ 1) : Calls Tryd.prog 59 #[.string s] w fun e w' => e = .returned (.bool (allFrom digB s 0)) ∧ w = w' := by
  unfold maxLen at hs
  have h0 := isEmpty_of s hp
  by_cases h48 : (s[0].toNat : Int) = 48
  · have h2 := h1 h48
    clear h1
    go_enter Tryd.func59, Tryd.ntmps59
    go_wp2
    go_loop [3] (fun i => ∃ k : Nat, k ≤ s.size ∧ i = .int .i64 k ∧ Hid (allFrom digB s 0 = allFrom digB s k)) (fun i => s.size - (intOf i).toNat)
    case atStart => exact ⟨0, by omega, rfl, rfl⟩
    case round =>
      obtain ⟨k, hk, rfl, H⟩ := hrel
      by_cases hlt : k < s.size
      · have S := Lib.hid (allFrom_step digB s k hlt)
        by_cases hd : digB s[k].toNat = true
        · go_wp2_with (go_at_call 69; refine (dig40 _ _).mono ?_; rintro e w' ⟨rfl, rfl⟩)
          go_round
          case rel => exact ⟨k + 1, by omega, by go_num, Lib.hid (by rw [H.out, S.out, hd]; simp)⟩
          case measure => simp [intOf]; omega
        · simp only [Bool.not_eq_true] at hd
          go_wp2_with (go_at_call 69; refine (dig40 _ _).mono ?_; rintro e w' ⟨rfl, rfl⟩)
          go_ret
          exact ⟨ret_bool (by rw [H.out, S.out, hd]; simp), rfl⟩
      · have E := Lib.hid (allFrom_end digB s k (by omega))
        go_wp2
        go_ret
        exact ⟨ret_bool (by rw [H.out, E.out]), rfl⟩
  · clear h1
    go_enter Tryd.func59, Tryd.ntmps59
    go_wp2
    go_loop [3] (fun i => ∃ k : Nat, k ≤ s.size ∧ i = .int .i64 k ∧ Hid (allFrom digB s 0 = allFrom digB s k)) (fun i => s.size - (intOf i).toNat)
    case atStart => exact ⟨0, by omega, rfl, rfl⟩
    case round =>
      obtain ⟨k, hk, rfl, H⟩ := hrel
      by_cases hlt : k < s.size
      · have S := Lib.hid (allFrom_step digB s k hlt)
        by_cases hd : digB s[k].toNat = true
        · go_wp2_with (go_at_call 69; refine (dig40 _ _).mono ?_; rintro e w' ⟨rfl, rfl⟩)
          go_round
          case rel => exact ⟨k + 1, by omega, by go_num, Lib.hid (by rw [H.out, S.out, hd]; simp)⟩
          case measure => simp [intOf]; omega
        · simp only [Bool.not_eq_true] at hd
          go_wp2_with (go_at_call 69; refine (dig40 _ _).mono ?_; rintro e w' ⟨rfl, rfl⟩)
          go_ret
          exact ⟨ret_bool (by rw [H.out, S.out, hd]; simp), rfl⟩
      · have E := Lib.hid (allFrom_end digB s k (by omega))
        go_wp2
        go_ret
        exact ⟨ret_bool (by rw [H.out, E.out]), rfl⟩
/-- the byte at a place, as a number -/
def g (l : List UInt8) (i : Nat) : Int := ((l.getD i 0).toNat : Int)
theorem g_eq (s : ByteArray) (i : Nat) (h : i < s.size) : (s[i].toNat : Int) = g s.data.toList i := by
  unfold g
  rw [List.getD_eq_getElem?_getD, List.getElem?_eq_getElem (by simpa using h)]
  rfl
theorem g_range (l : List UInt8) (i : Nat) : 0 ≤ g l i ∧ g l i < 256 := by
  unfold g
  have := UInt8.toNat_lt (l.getD i 0)
  omega

theorem allFrom_zero (s : ByteArray) : allFrom digB s 0 = s.data.toList.all digU := by unfold allFrom; rw [List.drop_zero]; rfl
theorem head_eq (s : ByteArray) (h : 0 < s.size) : ∃ r, s.data.toList = s[0] :: r ∧ r.length = s.size - 1 := by
  have hl : s.data.toList.length = s.size := by simp
  refine ⟨s.data.toList.drop 1, ?_, by simp⟩
  have := List.drop_eq_getElem_cons (l := s.data.toList) (i := 0) (by omega)
  rw [List.drop_zero] at this
  exact this
theorem nat35 (s : ByteArray) (w : World) (hs : s.size ≤ maxLen) : Calls Tryd.prog 59 #[.string s] w fun e w' => e = .returned (.bool (natL s.data.toList)) ∧ w = w' := by
  by_cases hp : 0 < s.size
  · obtain ⟨r, hr, hrl⟩ := head_eq s hp
    by_cases h : (s[0].toNat : Int) = 48 ∧ 1 < s.size
    · have T := Lib.hid (show natL s.data.toList = false by
        rw [hr]
        have e48 : s[0] = 48 := by apply UInt8.toNat_inj.1; show s[0].toNat = 48; omega
        have hne : r.isEmpty = false := by
          cases r with
          | nil => simp at hrl; omega
          | cons => rfl
        simp [natL, e48, hne])
      obtain ⟨h48, h1⟩ := h
      have h0 := isEmpty_of s hp
      clear hr hrl
      unfold maxLen at hs
      have q : (1 : Int) < (s.size : Int) := by omega
      go_enter Tryd.func59, Tryd.ntmps59
      go_wp2
      go_ret
      exact ⟨ret_bool T.out.symm, rfl⟩
    · refine (nat35_loop s w hs hp (fun h48 => by by_cases h1 : 1 < s.size; exact absurd ⟨h48, h1⟩ h; omega)).mono fun e w' hh => ?_
      refine ⟨?_, hh.2⟩
      rw [hh.1, allFrom_zero]
      refine ret_bool ?_
      rw [hr]
      have : (r.isEmpty || s[0] != 48) = true := by
        by_cases h1 : 1 < s.size
        · have : s[0] ≠ 48 := fun e => h ⟨by rw [e]; rfl, h1⟩
          simp [this]
        · have : r = [] := List.eq_nil_of_length_eq_zero (by omega)
          simp [this]
      simp only [natL, this, Bool.true_and]
  · have h0 : s.toList = [] := toList_nil s (by omega)
    have T := Lib.hid (show natL s.data.toList = false by rw [← ByteArray.toList_eq, h0]; rfl)
    go_enter Tryd.func59, Tryd.ntmps59
    go_wp2
    go_ret
    exact ⟨ret_bool T.out.symm, rfl⟩
end Ct
end YtoebnjciioiccaaDoor
end Go.Proofs
