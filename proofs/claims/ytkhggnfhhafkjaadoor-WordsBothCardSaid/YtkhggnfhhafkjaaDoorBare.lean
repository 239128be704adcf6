/- bareBytes, and strings.Clone. -/
import Derived.Test.YtkhggnfhhafkjaaDoorTake
namespace Go.Proofs
namespace YtkhggnfhhafkjaaDoor
open Go.RowKit

def bareC (c : UInt8) : Bool := plainB (c.toNat : Int) && c != 32
def bareN (l : List UInt8) : Nat := (l.takeWhile bareC).length
theorem bareN_le (l : List UInt8) : bareN l ≤ l.length := by
  unfold bareN
  exact (List.takeWhile_sublist bareC).length_le
theorem bareN_cons (c : UInt8) (r : List UInt8) : bareN (c :: r) = if bareC c = true then bareN r + 1 else 0 := by
  unfold bareN
  rw [List.takeWhile_cons]
  split <;> simp_all
theorem bareN_step (s : ByteArray) (k : Nat) (hk : k < s.size) : bareN (s.data.toList.drop k) = if bareC s[k] = true then bareN (s.data.toList.drop (k + 1)) + 1 else 0 := by
  rw [List.drop_eq_getElem_cons (by simpa using hk), bareN_cons]; rfl

set_option maxHeartbeats 1000000 in
theorem bare50 (s : ByteArray) (w : World) (hs : s.size ≤ 9223372036854775807) : Calls Tryd.prog 50 #[.string s] w fun e w' => e = .returned (.int .i64 (bareN s.data.toList : Int)) ∧ w = w' := by
  go_enter Tryd.func50, Tryd.ntmps50
  go_wp2
  go_loop [3] (fun i => ∃ k : Nat, k ≤ s.size ∧ i = .int .i64 k ∧ Hid (bareN s.data.toList = k + bareN (s.data.toList.drop k))) (fun i => s.size - (intOf i).toNat)
  case atStart => exact ⟨0, by omega, rfl, Lib.hid (by simp)⟩
  case round =>
    obtain ⟨k, hk, rfl, H⟩ := hrel
    by_cases hlt : k < s.size
    · have S := Lib.hid (bareN_step s k hlt)
      have hlt' : (k : Int) < (s.size : Int) := by omega
      cases hp : plainB (s[k].toNat : Int) with
      | false =>
        have HP := Lib.hid hp
        have T := Lib.hid (show bareN s.data.toList = k by rw [H.out, S.out, if_neg (by simp [bareC, hp])]; omega)
        clear hp
        go_wp2_with (go_at_call 71; refine (plain71 _ _).mono ?_; rintro e w' ⟨rfl, rfl⟩; rw [HP.out])
        go_ret
        exact ⟨by rw [T.out]; rfl, rfl⟩
      | true =>
        have HP := Lib.hid hp
        by_cases h32 : (s[k].toNat : Int) = 32
        · have h32' : ((s[k].toNat : Int) != 32) = false := by simp [h32]
          have e32 : s[k] = 32 := by apply UInt8.toNat_inj.1; show s[k].toNat = 32; omega
          have T := Lib.hid (show bareN s.data.toList = k by rw [H.out, S.out, if_neg (by simp [bareC, e32])]; omega)
          clear hp h32 e32
          go_wp2_with (go_at_call 71; refine (plain71 _ _).mono ?_; rintro e w' ⟨rfl, rfl⟩; rw [HP.out])
          go_ret
          exact ⟨by rw [T.out]; rfl, rfl⟩
        · have h32' : ((s[k].toNat : Int) != 32) = true := by simp [h32]
          have e32 : s[k] ≠ 32 := fun e => h32 (by rw [e]; rfl)
          have T := Lib.hid (show bareN (s.data.toList.drop k) = bareN (s.data.toList.drop (k + 1)) + 1 by rw [S.out, if_pos (by simp [bareC, hp, e32])])
          clear hp h32 e32
          go_wp2_with (go_at_call 71; refine (plain71 _ _).mono ?_; rintro e w' ⟨rfl, rfl⟩; rw [HP.out])
          go_round
          case rel => exact ⟨k + 1, by omega, by go_num, Lib.hid (by rw [H.out, T.out]; omega)⟩
          case measure => simp [intOf]; omega
    · have hks : k = s.size := by omega
      subst hks
      have T := Lib.hid (show bareN s.data.toList = s.size by rw [H.out, List.drop_of_length_le (by simp)]; rfl)
      go_wp2
      go_ret
      exact ⟨by rw [T.out]; rfl, rfl⟩

theorem clone70 (s : ByteArray) (w : World) (hs : s.size ≤ 281474976710656) : Calls Tryd.prog 70 #[.string s] w fun e w' => e = .returned (.string s) ∧ Below w.heap.size w w' := by
  go_enter Tryd.func70, Tryd.ntmps70
  go_wp2_with (go_at_call 95; refine (Tryd.stringslite_Clone s _ hs).mono ?_; rintro e w' ⟨rfl, hb⟩)
  go_ret
  exact ⟨rfl, hb⟩
end YtkhggnfhhafkjaaDoor
end Go.Proofs
