/- Name, both of them. -/
import Derived.Test.YtkhggnfhhafkjaaDoorNat
namespace Go.Proofs
namespace YtkhggnfhhafkjaaDoor
open Go.RowKit

def nameC (c : Int) : Bool := lowB c || digB c || decide (c = 45)
def name0 (l : List UInt8) : Int := ((l.getD 0 0).toNat : Int)
def nameL (l : List UInt8) : Bool := decide (0 < l.length ∧ l.length ≤ 16) && lowB (name0 l) && l.all fun c => nameC c.toNat
theorem nameL_none {l : List UInt8} (h : ¬ (0 < l.length ∧ l.length ≤ 16)) : nameL l = false := by simp [nameL, h]
theorem nameL_head {c : UInt8} {r : List UInt8} (h : lowB c.toNat = false) : nameL (c :: r) = false := by simp [nameL, name0, h]
theorem nameL_cons {c : UInt8} {r : List UInt8} (h : lowB c.toNat = true) (hl : r.length < 16) : nameL (c :: r) = r.all fun c => nameC c.toNat := by
  have : nameC c.toNat = true := by simp [nameC, h]
  simp only [nameL, name0, List.length_cons, List.getD_cons_zero, h, List.all_cons, this, Bool.true_and, Bool.and_true]
  rw [decide_eq_true (by omega)]; simp

theorem all_drop (s : ByteArray) (k : Nat) : allFrom nameC s k = (s.data.toList.drop k).all fun c => nameC c.toNat := rfl

set_option maxHeartbeats 400000 in
theorem name15_loop (s : ByteArray) (w : World) (hp : 0 < s.size) (h16 : s.size ≤ 16) (hc : lowB s[0].toNat = true) : Calls Tryd.prog 15 #[.string s] w fun e w' => e = .returned (.bool (allFrom nameC s 1)) ∧ w = w' := by
  have h0 := isEmpty_of s hp
  have HC := Lib.hid hc
  clear hc
  have q : decide ((16 : Int) < (s.size : Int)) = false := by simp; omega
  go_enter Tryd.func15, Tryd.ntmps15
  go_wp2_with (go_at_call 39; refine (low39 _ _).mono ?_; rintro e w' ⟨rfl, rfl⟩; rw [HC.out])
  go_loop [3] (fun i => ∃ k : Nat, 1 ≤ k ∧ k ≤ s.size ∧ i = .int .i64 k ∧ Hid (allFrom nameC s 1 = allFrom nameC s k)) (fun i => s.size - (intOf i).toNat)
  case atStart => exact ⟨1, by omega, by omega, rfl, Lib.hid rfl⟩
  case round =>
    obtain ⟨k, hk1, hk, rfl, H⟩ := hrel
    by_cases hlt : k < s.size
    · have S := Lib.hid (allFrom_step nameC s k hlt)
      by_cases hl : lowB s[k].toNat = true
      · have HL := Lib.hid hl
        have N := Lib.hid (show nameC s[k].toNat = true by simp [nameC, hl])
        clear hl
        go_wp2_with (go_at_call 39; refine (low39 _ _).mono ?_; rintro e w' ⟨rfl, rfl⟩; rw [HL.out])
        go_round
        case rel => exact ⟨k + 1, by omega, by omega, by go_num, Lib.hid (by rw [H.out, S.out, N.out]; simp)⟩
        case measure => simp [intOf]; omega
      · simp only [Bool.not_eq_true] at hl
        by_cases hd : digB s[k].toNat = true
        · have HL := Lib.hid hl
          have HD := Lib.hid hd
          have N := Lib.hid (show nameC s[k].toNat = true by simp [nameC, hd])
          clear hl hd
          go_wp2_with (first | (go_at_call 39; refine (low39 _ _).mono ?_; rintro e w' ⟨rfl, rfl⟩; rw [HL.out]) | (go_at_call 40; refine (dig40 _ _).mono ?_; rintro e w' ⟨rfl, rfl⟩; rw [HD.out]))
          go_round
          case rel => exact ⟨k + 1, by omega, by omega, by go_num, Lib.hid (by rw [H.out, S.out, N.out]; simp)⟩
          case measure => simp [intOf]; omega
        · simp only [Bool.not_eq_true] at hd
          have HL := Lib.hid hl
          have HD := Lib.hid hd
          by_cases h45 : (s[k].toNat : Int) = 45
          · have N := Lib.hid (show nameC s[k].toNat = true by simp [nameC, h45])
            have q : ((s[k].toNat : Int) != 45) = false := by simp [h45]
            clear hl hd h45
            go_wp2_with (first | (go_at_call 39; refine (low39 _ _).mono ?_; rintro e w' ⟨rfl, rfl⟩; rw [HL.out]) | (go_at_call 40; refine (dig40 _ _).mono ?_; rintro e w' ⟨rfl, rfl⟩; rw [HD.out]))
            go_round
            case rel => exact ⟨k + 1, by omega, by omega, by go_num, Lib.hid (by rw [H.out, S.out, N.out]; simp)⟩
            case measure => simp [intOf]; omega
          · have N := Lib.hid (show nameC s[k].toNat = false by simp only [nameC, hl, hd, Bool.false_or]; simpa using h45)
            have q : ((s[k].toNat : Int) != 45) = true := by simp [h45]
            clear hl hd h45
            go_wp2_with (first | (go_at_call 39; refine (low39 _ _).mono ?_; rintro e w' ⟨rfl, rfl⟩; rw [HL.out]) | (go_at_call 40; refine (dig40 _ _).mono ?_; rintro e w' ⟨rfl, rfl⟩; rw [HD.out]))
            go_ret
            exact ⟨ret_bool (by rw [H.out, S.out, N.out]; simp), rfl⟩
    · have E := Lib.hid (allFrom_end nameC s k (by omega))
      go_wp2
      go_ret
      exact ⟨ret_bool (by rw [H.out, E.out]), rfl⟩

theorem name15 (s : ByteArray) (w : World) (hs : s.size ≤ maxLen) : Calls Tryd.prog 15 #[.string s] w fun e w' => e = .returned (.bool (nameL s.data.toList)) ∧ w = w' := by
  unfold maxLen at hs
  have hl : s.data.toList.length = s.size := by simp
  by_cases hp : 0 < s.size
  · by_cases h16 : s.size ≤ 16
    · obtain ⟨r, hr, hrl⟩ := head_eq s hp
      cases hc : lowB s[0].toNat with
      | true =>
        refine (name15_loop s w hp h16 hc).mono fun e w' h => ⟨?_, h.2⟩
        rw [h.1]
        refine ret_bool ?_
        rw [all_drop, hr, nameL_cons hc (by omega)]
        rfl
      | false =>
        have T := Lib.hid (show nameL s.data.toList = false by rw [hr]; exact nameL_head hc)
        have HC := Lib.hid hc
        clear hc hr hrl hl
        have h0 := isEmpty_of s hp
        have q : decide ((16 : Int) < (s.size : Int)) = false := by simp; omega
        go_enter Tryd.func15, Tryd.ntmps15
        go_wp2_with (go_at_call 39; refine (low39 _ _).mono ?_; rintro e w' ⟨rfl, rfl⟩; rw [HC.out])
        go_ret
        exact ⟨ret_bool T.out.symm, rfl⟩
    · have T := Lib.hid (show nameL s.data.toList = false from nameL_none (by omega))
      have h0 := isEmpty_of s hp
      clear hl
      have q : decide ((16 : Int) < (s.size : Int)) = true := by simp; omega
      go_enter Tryd.func15, Tryd.ntmps15
      go_wp2
      go_ret
      exact ⟨ret_bool T.out.symm, rfl⟩
  · have h0 : s.toList = [] := toList_nil s (by omega)
    have T := Lib.hid (show nameL s.data.toList = false from nameL_none (by omega))
    clear hl
    go_enter Tryd.func15, Tryd.ntmps15
    go_wp2
    go_ret
    exact ⟨ret_bool T.out.symm, rfl⟩
set_option maxHeartbeats 400000 in
theorem name16_loop (s : ByteArray) (w : World) (hp : 0 < s.size) (h16 : s.size ≤ 16) (hc : lowB s[0].toNat = true) : Calls Tryd.prog 16 #[.string s] w fun e w' => e = .returned (.bool (allFrom nameC s 0)) ∧ w = w' := by
  have h0 : decide ((s.size : Int) < 1) = false := by simp; omega
  have HC := Lib.hid hc
  clear hc
  have q : decide ((16 : Int) < (s.size : Int)) = false := by simp; omega
  go_enter Tryd.func16, Tryd.ntmps16
  go_wp2_with (go_at_call 41; refine (low41 _ _).mono ?_; rintro e w' ⟨rfl, rfl⟩; rw [HC.out])
  go_loop [3] (fun i => ∃ k : Nat, k ≤ s.size ∧ i = .int .i64 k ∧ Hid (allFrom nameC s 0 = allFrom nameC s k)) (fun i => s.size - (intOf i).toNat)
  case atStart => exact ⟨0, by omega, rfl, Lib.hid rfl⟩
  case round =>
    obtain ⟨k, hk, rfl, H⟩ := hrel
    by_cases hlt : k < s.size
    · have S := Lib.hid (allFrom_step nameC s k hlt)
      by_cases hl : lowB s[k].toNat = true
      · have HL := Lib.hid hl
        have N := Lib.hid (show nameC s[k].toNat = true by simp [nameC, hl])
        clear hl
        go_wp2_with (go_at_call 41; refine (low41 _ _).mono ?_; rintro e w' ⟨rfl, rfl⟩; rw [HL.out])
        go_round
        case rel => exact ⟨k + 1, by omega, by go_num, Lib.hid (by rw [H.out, S.out, N.out]; simp)⟩
        case measure => simp [intOf]; omega
      · simp only [Bool.not_eq_true] at hl
        by_cases hd : digB s[k].toNat = true
        · have HL := Lib.hid hl
          have HD := Lib.hid hd
          have N := Lib.hid (show nameC s[k].toNat = true by simp [nameC, hd])
          clear hl hd
          go_wp2_with (first | (go_at_call 41; refine (low41 _ _).mono ?_; rintro e w' ⟨rfl, rfl⟩; rw [HL.out]) | (go_at_call 42; refine (dig42 _ _).mono ?_; rintro e w' ⟨rfl, rfl⟩; rw [HD.out]))
          go_round
          case rel => exact ⟨k + 1, by omega, by go_num, Lib.hid (by rw [H.out, S.out, N.out]; simp)⟩
          case measure => simp [intOf]; omega
        · simp only [Bool.not_eq_true] at hd
          have HL := Lib.hid hl
          have HD := Lib.hid hd
          by_cases h45 : (s[k].toNat : Int) = 45
          · have N := Lib.hid (show nameC s[k].toNat = true by simp [nameC, h45])
            have q : ((s[k].toNat : Int) != 45) = false := by simp [h45]
            clear hl hd h45
            go_wp2_with (first | (go_at_call 41; refine (low41 _ _).mono ?_; rintro e w' ⟨rfl, rfl⟩; rw [HL.out]) | (go_at_call 42; refine (dig42 _ _).mono ?_; rintro e w' ⟨rfl, rfl⟩; rw [HD.out]))
            go_round
            case rel => exact ⟨k + 1, by omega, by go_num, Lib.hid (by rw [H.out, S.out, N.out]; simp)⟩
            case measure => simp [intOf]; omega
          · have N := Lib.hid (show nameC s[k].toNat = false by simp only [nameC, hl, hd, Bool.false_or]; simpa using h45)
            have q : ((s[k].toNat : Int) != 45) = true := by simp [h45]
            clear hl hd h45
            go_wp2_with (first | (go_at_call 41; refine (low41 _ _).mono ?_; rintro e w' ⟨rfl, rfl⟩; rw [HL.out]) | (go_at_call 42; refine (dig42 _ _).mono ?_; rintro e w' ⟨rfl, rfl⟩; rw [HD.out]))
            go_ret
            exact ⟨ret_bool (by rw [H.out, S.out, N.out]; simp), rfl⟩
    · have E := Lib.hid (allFrom_end nameC s k (by omega))
      go_wp2
      go_ret
      exact ⟨ret_bool (by rw [H.out, E.out]), rfl⟩

theorem name16 (s : ByteArray) (w : World) (hs : s.size ≤ maxLen) : Calls Tryd.prog 16 #[.string s] w fun e w' => e = .returned (.bool (nameL s.data.toList)) ∧ w = w' := by
  unfold maxLen at hs
  have hl : s.data.toList.length = s.size := by simp
  by_cases hp : 0 < s.size
  · by_cases h16 : s.size ≤ 16
    · obtain ⟨r, hr, hrl⟩ := head_eq s hp
      cases hc : lowB s[0].toNat with
      | true =>
        refine (name16_loop s w hp h16 hc).mono fun e w' h => ⟨?_, h.2⟩
        rw [h.1]
        refine ret_bool ?_
        rw [all_drop, hr, nameL_cons hc (by omega), List.drop_zero, List.all_cons]
        have : nameC s[0].toNat = true := by simp [nameC, hc]
        rw [this, Bool.true_and]
      | false =>
        have T := Lib.hid (show nameL s.data.toList = false by rw [hr]; exact nameL_head hc)
        have HC := Lib.hid hc
        clear hc hr hrl hl
        have h0 : decide ((s.size : Int) < 1) = false := by simp; omega
        have q : decide ((16 : Int) < (s.size : Int)) = false := by simp; omega
        go_enter Tryd.func16, Tryd.ntmps16
        go_wp2_with (go_at_call 41; refine (low41 _ _).mono ?_; rintro e w' ⟨rfl, rfl⟩; rw [HC.out])
        go_ret
        exact ⟨ret_bool T.out.symm, rfl⟩
    · have T := Lib.hid (show nameL s.data.toList = false from nameL_none (by omega))
      have h0 : decide ((s.size : Int) < 1) = false := by simp; omega
      clear hl
      have q : decide ((16 : Int) < (s.size : Int)) = true := by simp; omega
      go_enter Tryd.func16, Tryd.ntmps16
      go_wp2
      go_ret
      exact ⟨ret_bool T.out.symm, rfl⟩
  · have h0 : decide ((s.size : Int) < 1) = true := by simp; omega
    have T := Lib.hid (show nameL s.data.toList = false from nameL_none (by omega))
    clear hl
    go_enter Tryd.func16, Tryd.ntmps16
    go_wp2
    go_ret
    exact ⟨ret_bool T.out.symm, rfl⟩
end YtkhggnfhhafkjaaDoor
end Go.Proofs
