/- decimal, the reference's. -/
import Derived.Test.YtoebnjciioiccaaDoorCtB
namespace Go.Proofs
namespace YtoebnjciioiccaaDoor
namespace Ct
open Go.RowKit


theorem drop_data (s : ByteArray) (k : Nat) : (s.extract k s.size).data.toList = s.data.toList.drop k := by
  rw [Lib.extract_data]
  rw [List.take_of_length_le (by simp)]

theorem natL_nil : natL [] = false := rfl
theorem natL_minus (r : List UInt8) : natL (45 :: r) = false := by
  have : digU 45 = false := by decide
  simp [natL, this]
/-- behind a minus sign -/
theorem decL_minus {c : UInt8} {r : List UInt8} (h : c ≠ 48) : decL (45 :: c :: r) = natL (c :: r) := by
  have : (45 :: c :: r != [45, 48]) = true := by simp [h]
  simp only [decL, unsign_minus, this, Bool.and_true]
theorem decL_other {l : List UInt8} (h : ∀ c r, l = 45 :: c :: r → c = 48) : decL l = natL l := by
  cases l with
  | nil => rfl
  | cons a r =>
    by_cases ha : a = 45
    · subst ha
      rw [natL_minus]
      cases r with
      | nil => rfl
      | cons c r =>
        have hc := h c r rfl
        subst hc
        cases r with
        | nil => rfl
        | cons d r => simp [decL, unsign_minus, natL]
    · have : (a :: r != [45, 48]) = true := by simp [ha]
      simp only [decL, unsign_other r ha, this, Bool.and_true]
theorem natL_eq (t : ByteArray) (hp : 0 < t.size) : natL t.data.toList = ((decide (t.size = 1) || !((t[0].toNat : Int) == 48)) && allFrom digB t 0) := by
  obtain ⟨r, hr, hrl⟩ := head_eq t hp
  rw [allFrom_zero, hr]
  have e : (r.isEmpty || t[0] != 48) = (decide (t.size = 1) || !((t[0].toNat : Int) == 48)) := by
    have e1 : r.isEmpty = decide (t.size = 1) := by
      cases r with
      | nil => simp at hrl; simp; omega
      | cons c r => simp at hrl; simp; omega
    have e2 : (t[0] != 48) = !((t[0].toNat : Int) == 48) := by
      rw [Bool.eq_iff_iff]
      simp only [bne_iff_ne, ne_eq, Bool.not_eq_true', beq_eq_false_iff_ne]
      constructor
      · intro h h'; apply h; apply UInt8.toNat_inj.1; show t[0].toNat = 48; omega
      · intro h h'; apply h; rw [h']; rfl
    rw [e1, e2]
  simp only [natL, e]
theorem dec_take (s : ByteArray) (h : (1 < s.size ∧ g s.data.toList 0 = 45) ∧ g s.data.toList 1 ≠ 48) : decL s.data.toList = natL (s.extract 1 s.size).data.toList := by
  rw [drop_data]
  obtain ⟨⟨h1, h2⟩, h3⟩ := h
  have hl : s.data.toList.length = s.size := by simp
  cases hq : s.data.toList with
  | nil => rw [hq] at hl; simp at hl; omega
  | cons a r =>
    cases r with
    | nil => rw [hq] at hl; simp at hl; omega
    | cons c r =>
      rw [hq] at h2 h3
      have ha : a = 45 := by apply UInt8.toNat_inj.1; simp [g] at h2; show a.toNat = 45; omega
      have hc : c ≠ 48 := by intro e; subst e; simp [g] at h3
      subst ha
      rw [decL_minus hc]; rfl
theorem dec_keep (s : ByteArray) (h : ¬ ((1 < s.size ∧ g s.data.toList 0 = 45) ∧ g s.data.toList 1 ≠ 48)) : decL s.data.toList = natL s.data.toList := by
  refine decL_other fun c r hr => ?_
  have hl : s.data.toList.length = s.size := by simp
  rw [hr] at hl h
  simp only [List.length_cons] at hl
  by_cases hc : c = 48
  · exact hc
  · exfalso
    apply h
    refine ⟨⟨by omega, by rfl⟩, ?_⟩
    intro e
    apply hc
    apply UInt8.toNat_inj.1
    simp [g] at e
    show c.toNat = 48
    omega
theorem natL_zero (t : ByteArray) (h : t.size = 0) : natL t.data.toList = false := by
  have hn : t.data.toList = [] := List.eq_nil_of_length_eq_zero (by simpa using h)
  rw [hn, natL_nil]
theorem natL_lead (t : ByteArray) (h : 1 < t.size) (h48 : (t[0].toNat : Int) = 48) : natL t.data.toList = false := by
  rw [natL_eq t (by omega), h48]
  have e : decide (t.size = 1) = false := by simp; omega
  rw [e]; simp
theorem natL_loop (t : ByteArray) (hp : 0 < t.size) (h : 1 < t.size → ¬ (t[0].toNat : Int) = 48) : natL t.data.toList = allFrom digB t 0 := by
  rw [natL_eq t hp]
  have e : (decide (t.size = 1) || !((t[0].toNat : Int) == 48)) = true := by
    by_cases h1 : 1 < t.size
    · simp [h h1]
    · have : t.size = 1 := by omega
      simp [this]
  rw [e, Bool.true_and]
set_option maxHeartbeats 1000000 in
theorem dec38 (s : ByteArray) (w : World) (hs : s.size ≤ 1000000) : Calls Tryd.prog 62 #[.string s] w fun e w' => e = .returned (.bool (decL s.data.toList)) ∧ w = w' := by
  by_cases hA : (1 < s.size ∧ g s.data.toList 0 = 45) ∧ g s.data.toList 1 ≠ 48
  case' pos =>
    have D := dec_take s hA
    obtain ⟨⟨h1, h2⟩, h3⟩ := hA
    have e0 : ((s[0].toNat : Int) == 45) = true := by rw [g_eq s 0 (by omega), h2]; rfl
    have e1 : ((s[1].toNat : Int) != 48) = true := by rw [g_eq s 1 (by omega)]; simpa using h3
    have q : decide ((1 : Int) < (s.size : Int)) = true := by simp; omega
    have hz : (s.extract 1 s.size).size ≤ 1000000 := by simp; omega
    clear h2 h3
    generalize decL s.data.toList = d at *
    have D' := Lib.hid D
    have hz' := Lib.hid hz
    clear D hz
    go_enter Tryd.func62, Tryd.ntmps62
    go_upto_region 3 with (fail)
    generalize s.extract 1 s.size = t at *
    have hs2 := hz'.out
    clear hz' hs h1 e0 e1 q
  case' neg =>
    have D := dec_keep s hA
    generalize hd : decL s.data.toList = d at *
    clear hd
    have D' := Lib.hid D
    clear D
    by_cases h1 : 1 < s.size
    case' neg =>
      clear hA
      have q : decide ((1 : Int) < (s.size : Int)) = false := by simp; omega
    case' pos =>
      have q : decide ((1 : Int) < (s.size : Int)) = true := by simp; omega
      by_cases h2 : g s.data.toList 0 = 45
      case' neg =>
        have e0 : ((s[0].toNat : Int) == 45) = false := by rw [g_eq s 0 (by omega)]; simpa using h2
        clear hA h2
      case' pos =>
        have h3 : g s.data.toList 1 = 48 := by
          by_cases h : g s.data.toList 1 = 48
          · exact h
          · exact absurd ⟨⟨h1, h2⟩, h⟩ hA
        have e0 : ((s[0].toNat : Int) == 45) = true := by rw [g_eq s 0 (by omega), h2]; rfl
        have e1 : ((s[1].toNat : Int) != 48) = false := by rw [g_eq s 1 (by omega), h3]; rfl
        clear hA h2 h3
    all_goals
      go_enter Tryd.func62, Tryd.ntmps62
      go_upto_region 3 with (fail)
      have hs2 := hs
      obtain ⟨t, ht⟩ : ∃ t, t = s := ⟨s, rfl⟩
      subst ht
      try clear e1
      try clear e0
      clear hs q h1
  all_goals
    by_cases hp : 0 < t.size
    case' neg =>
      have T := Lib.hid (D'.out.trans (natL_zero t (by omega)))
      have q : ((t.size : Int) == 0) = true := beq_iff_eq.2 (by omega)
      go_wp2
      go_ret
      exact ⟨ret_bool T.out.symm, rfl⟩
    have q0 : ((t.size : Int) == 0) = false := beq_eq_false_iff_ne.2 (by omega)
    by_cases h48 : (t[0].toNat : Int) = 48
    case' pos =>
      by_cases hq : 1 < t.size
      case' pos =>
        have T := Lib.hid (D'.out.trans (natL_lead t hq h48))
        have q : decide ((1 : Int) < (t.size : Int)) = true := by simp; omega
        have h48' : ((t[0].toNat : Int) == 48) = true := by simp [h48]
        clear h48
        go_wp2
        go_ret
        exact ⟨ret_bool T.out.symm, rfl⟩
      have T := Lib.hid (D'.out.trans (natL_loop t hp fun h => absurd h hq))
      have q : decide ((1 : Int) < (t.size : Int)) = false := by simp; omega
      clear h48
    case' neg =>
      have T := Lib.hid (D'.out.trans (natL_loop t hp fun _ => h48))
      have h48' : ((t[0].toNat : Int) == 48) = false := by simp [h48]
      clear h48
      by_cases hq : 1 < t.size
      case' pos =>
        have q : decide ((1 : Int) < (t.size : Int)) = true := by simp; omega
      case' neg =>
        have q : decide ((1 : Int) < (t.size : Int)) = false := by simp; omega
    all_goals
      clear D'
      go_wp2
      all_goals
        go_loop [3] (fun i => ∃ k : Nat, k ≤ t.size ∧ i = .int .i64 k ∧ Hid (allFrom digB t 0 = allFrom digB t k)) (fun i => t.size - (intOf i).toNat)
        case atStart => exact ⟨0, by omega, rfl, Lib.hid rfl⟩
        case round =>
          obtain ⟨k, hk, rfl, H⟩ := hrel
          by_cases hlt : k < t.size
          · have S := Lib.hid (allFrom_step digB t k hlt)
            by_cases hd : digB t[k].toNat = true
            · have HD := Lib.hid hd
              clear hd
              go_wp2_with (go_at_call 73; refine (dig42 _ _).mono ?_; rintro e w' ⟨rfl, rfl⟩; rw [HD.out])
              go_round
              case rel => exact ⟨k + 1, by omega, by go_num, Lib.hid (by rw [H.out, S.out, HD.out]; simp)⟩
              case measure => simp [intOf]; omega
            · simp only [Bool.not_eq_true] at hd
              have HD := Lib.hid hd
              clear hd
              go_wp2_with (go_at_call 73; refine (dig42 _ _).mono ?_; rintro e w' ⟨rfl, rfl⟩; rw [HD.out])
              go_ret
              exact ⟨ret_bool (by rw [T.out, H.out, S.out, HD.out]; simp), rfl⟩
          · have E := Lib.hid (allFrom_end digB t k (by omega))
            go_wp2
            go_ret
            exact ⟨ret_bool (by rw [T.out, H.out, E.out]), rfl⟩
end Ct
end YtoebnjciioiccaaDoor
end Go.Proofs
