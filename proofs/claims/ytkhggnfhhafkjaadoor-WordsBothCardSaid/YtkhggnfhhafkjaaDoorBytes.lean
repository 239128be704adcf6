/- Contracts of the small functions on single bytes, and of Name, natural and decimal. -/
import Derived.Test.YtkhggnfhhafkjaaDoorProg
import Derived.WalkKit
import Derived.OwnWalk
import Derived.BigQuiet
import Derived.Deep.QuietTactic
import Derived.Lib.Hide
namespace Go.Proofs
namespace YtkhggnfhhafkjaaDoor
open Go.RowKit

def lowB (c : Int) : Bool := decide (97 ≤ c ∧ c ≤ 122)
def digB (c : Int) : Bool := decide (48 ≤ c ∧ c ≤ 57)
def plainB (c : Int) : Bool := decide (32 ≤ c ∧ c ≤ 126 ∧ c ≠ 34 ∧ c ≠ 92)

theorem ret_bool {a b : Bool} (h : a = b) : Ending.returned (.bool a) = .returned (.bool b) := by rw [h]

theorem low39 (c : Int) (w : World) : Calls Tryd.prog 39 #[.int .u8 c] w fun e w' => e = .returned (.bool (lowB c)) ∧ w = w' := by
  go_enter Tryd.func39, Tryd.ntmps39
  go_wp2
  all_goals (go_ret; exact ⟨ret_bool (by rw [Bool.eq_iff_iff]; simp [lowB]; omega), rfl⟩)
theorem dig40 (c : Int) (w : World) : Calls Tryd.prog 40 #[.int .u8 c] w fun e w' => e = .returned (.bool (digB c)) ∧ w = w' := by
  go_enter Tryd.func40, Tryd.ntmps40
  go_wp2
  all_goals (go_ret; exact ⟨ret_bool (by rw [Bool.eq_iff_iff]; simp [digB]; omega), rfl⟩)
theorem low41 (c : Int) (w : World) : Calls Tryd.prog 41 #[.int .u8 c] w fun e w' => e = .returned (.bool (lowB c)) ∧ w = w' := by
  go_enter Tryd.func41, Tryd.ntmps41
  go_wp2
  all_goals (go_ret; exact ⟨ret_bool (by rw [Bool.eq_iff_iff]; simp [lowB]; omega), rfl⟩)
theorem dig42 (c : Int) (w : World) : Calls Tryd.prog 42 #[.int .u8 c] w fun e w' => e = .returned (.bool (digB c)) ∧ w = w' := by
  go_enter Tryd.func42, Tryd.ntmps42
  go_wp2
  all_goals (go_ret; exact ⟨ret_bool (by rw [Bool.eq_iff_iff]; simp [digB]; omega), rfl⟩)
theorem plain71 (c : Int) (w : World) : Calls Tryd.prog 71 #[.int .u8 c] w fun e w' => e = .returned (.bool (plainB c)) ∧ w = w' := by
  go_enter Tryd.func71, Tryd.ntmps71
  go_wp2
  all_goals (go_ret; exact ⟨ret_bool (by rw [Bool.eq_iff_iff]; simp [plainB]; omega), rfl⟩)
theorem plain67 (c : Int) (w : World) : Calls Tryd.prog 67 #[.int .u8 c] w fun e w' => e = .returned (.bool (plainB c)) ∧ w = w' := by
  go_enter Tryd.func67, Tryd.ntmps67
  go_wp2
  all_goals (go_ret; exact ⟨ret_bool (by rw [Bool.eq_iff_iff]; simp [plainB]; omega), rfl⟩)

/-- the bytes from a place on, all of them with a property -/
def allFrom (p : Int → Bool) (s : ByteArray) (k : Nat) : Bool := (s.data.toList.drop k).all fun c => p c.toNat
theorem allFrom_step (p : Int → Bool) (s : ByteArray) (k : Nat) (h : k < s.size) : allFrom p s k = (p s[k].toNat && allFrom p s (k + 1)) := by
  unfold allFrom
  rw [List.drop_eq_getElem_cons (by simpa using h)]
  rfl
theorem allFrom_end (p : Int → Bool) (s : ByteArray) (k : Nat) (h : s.size ≤ k) : allFrom p s k = true := by
  unfold allFrom
  rw [List.drop_eq_nil_of_le (by simpa using h)]
  rfl
theorem isEmpty_of (s : ByteArray) (h : 0 < s.size) : s.toList.isEmpty = false := by
  rw [ByteArray.toList_eq, List.isEmpty_eq_false_iff_exists_mem]
  exact ⟨s.data.toList[0]'(by simpa using h), List.getElem_mem _⟩
theorem toList_nil (s : ByteArray) (h : s.size = 0) : s.toList = [] := by
  rw [ByteArray.toList_eq]
  exact List.eq_nil_of_length_eq_zero (by simpa using h)

/-- no leading zero, and digits alone -/
def natB (s : ByteArray) : Bool := if h : 0 < s.size then (decide (s.size = 1) || !(s[0] == 48)) && allFrom digB s 0 else false

theorem nat35_loop (s : ByteArray) (w : World) (hs : s.size ≤ maxLen) (hp : 0 < s.size) (h1 : (s[0].toNat : Int) = 48 → s.size ≤ 1) : Calls Tryd.prog 35 #[.string s] w fun e w' => e = .returned (.bool (allFrom digB s 0)) ∧ w = w' := by
  unfold maxLen at hs
  have h0 := isEmpty_of s hp
  by_cases h48 : (s[0].toNat : Int) = 48
  · have h2 := h1 h48
    clear h1
    go_enter Tryd.func35, Tryd.ntmps35
    go_wp2
    go_loop [3] (fun i => ∃ k : Nat, k ≤ s.size ∧ i = .int .i64 k ∧ Hid (allFrom digB s 0 = allFrom digB s k)) (fun i => s.size - (intOf i).toNat)
    case atStart => exact ⟨0, by omega, rfl, rfl⟩
    case round =>
      obtain ⟨k, hk, rfl, H⟩ := hrel
      by_cases hlt : k < s.size
      · have S := Lib.hid (allFrom_step digB s k hlt)
        by_cases hd : digB s[k].toNat = true
        · go_wp2_with (go_at_call 40; refine (dig40 _ _).mono ?_; rintro e w' ⟨rfl, rfl⟩)
          go_round
          case rel => exact ⟨k + 1, by omega, by go_num, Lib.hid (by rw [H.out, S.out, hd]; simp)⟩
          case measure => simp [intOf]; omega
        · simp only [Bool.not_eq_true] at hd
          go_wp2_with (go_at_call 40; refine (dig40 _ _).mono ?_; rintro e w' ⟨rfl, rfl⟩)
          go_ret
          exact ⟨ret_bool (by rw [H.out, S.out, hd]; simp), rfl⟩
      · have E := Lib.hid (allFrom_end digB s k (by omega))
        go_wp2
        go_ret
        exact ⟨ret_bool (by rw [H.out, E.out]), rfl⟩
  · clear h1
    go_enter Tryd.func35, Tryd.ntmps35
    go_wp2
    go_loop [3] (fun i => ∃ k : Nat, k ≤ s.size ∧ i = .int .i64 k ∧ Hid (allFrom digB s 0 = allFrom digB s k)) (fun i => s.size - (intOf i).toNat)
    case atStart => exact ⟨0, by omega, rfl, rfl⟩
    case round =>
      obtain ⟨k, hk, rfl, H⟩ := hrel
      by_cases hlt : k < s.size
      · have S := Lib.hid (allFrom_step digB s k hlt)
        by_cases hd : digB s[k].toNat = true
        · go_wp2_with (go_at_call 40; refine (dig40 _ _).mono ?_; rintro e w' ⟨rfl, rfl⟩)
          go_round
          case rel => exact ⟨k + 1, by omega, by go_num, Lib.hid (by rw [H.out, S.out, hd]; simp)⟩
          case measure => simp [intOf]; omega
        · simp only [Bool.not_eq_true] at hd
          go_wp2_with (go_at_call 40; refine (dig40 _ _).mono ?_; rintro e w' ⟨rfl, rfl⟩)
          go_ret
          exact ⟨ret_bool (by rw [H.out, S.out, hd]; simp), rfl⟩
      · have E := Lib.hid (allFrom_end digB s k (by omega))
        go_wp2
        go_ret
        exact ⟨ret_bool (by rw [H.out, E.out]), rfl⟩
end YtkhggnfhhafkjaaDoor
end Go.Proofs
