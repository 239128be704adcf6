/- Int, the reference's: the walk. -/
import Derived.Test.YtkhggnfhhafkjaaDoorRInt
namespace Go.Proofs
namespace YtkhggnfhhafkjaaDoor
open Go.RowKit

set_option maxRecDepth 100000 in
set_option maxHeartbeats 1000000 in
theorem rint14 (s : ByteArray) (lo hi : Int) (w : World) (hs : s.size ≤ 1000000) :
    Calls Tryd.prog 14 #[.string s, .int .i64 lo, .int .i64 hi] w fun e w' => e = .returned (intV (intF s.data.toList lo hi)) ∧ w = w' := by
  cases hd : decL s.data.toList with
  | false =>
    have T := Lib.hid (show intF s.data.toList lo hi = (0, 6) by simp [intF, hd])
    have HD := Lib.hid hd
    clear hd
    go_enter Tryd.func14, Tryd.ntmps14
    go_wp2_with (go_at_call 38; refine (dec38 _ _ hs).mono ?_; rintro e w' ⟨rfl, rfl⟩; rw [HD.out])
    go_ret2
    exact ⟨by rw [T.out]; rfl, rfl⟩
  | true =>
    have HD := Lib.hid hd
    clear hd
    have hp : 0 < s.size := by
      have h := (natL_digits (decL_parts HD.out).1).1
      rcases Nat.eq_zero_or_pos s.size with h0 | h0
      · exfalso; apply h
        have : s.data.toList = [] := List.eq_nil_of_length_eq_zero (by simpa using h0)
        rw [this]; rfl
      · exact h0
    have hh : s.data.toList.head? = some s[0] := by
      obtain ⟨r, hr, _⟩ := head_eq s hp
      rw [hr]; rfl
    have hle : ∀ k, magTo s.data.toList k ≤ mag 0 (unsign s.data.toList) := magTo_le _
    have hend : magTo s.data.toList s.size = mag 0 (unsign s.data.toList) := magTo_end _ _ (by simp)
    have HH := Lib.hid hh
    have HLE := Lib.hid hle
    have HEND := Lib.hid hend
    clear hh hle hend
    have hrange : ∀ M : Nat, M = mag 0 (unsign s.data.toList) → Hid (M = mag 0 (unsign s.data.toList)) := fun _ h => h
    cases hm : ((s[0].toNat : Int) == 45) with
    | true =>
      have hm45 : s.data.toList.head? = some 45 := by
        rw [HH.out]; congr 1; apply UInt8.toNat_inj.1; show s[0].toNat = 45
        have := beq_iff_eq.1 hm; omega
      have HM := Lib.hid hm45
      clear hm45 hrange
      go_enter Tryd.func14, Tryd.ntmps14
      go_wp2_with (go_at_call 38; refine (dec38 _ _ hs).mono ?_; rintro e w' ⟨rfl, rfl⟩; rw [HD.out])
      go_loop [9, 10] (fun n i => ∃ k : Nat, k ≤ s.size ∧ i = .int .i64 k ∧ n = .int .i64 (-(magTo s.data.toList k : Int)) ∧ magTo s.data.toList k ≤ 9223372036854775808) (fun _ i => s.size - (intOf i).toNat)
      case atStart => exact ⟨0, by omega, rfl, by rw [magTo_zero]; rfl, by rw [magTo_zero]; omega⟩
      case round =>
        obtain ⟨k, hk, rfl, rfl, hb⟩ := hrel
        by_cases hlt : k < s.size
        · by_cases h45 : (s[k].toNat : Int) = 45
          · have hs45 : s[k] = 45 := by apply UInt8.toNat_inj.1; show s[k].toNat = 45; omega
            have hk0 : k = 0 := dec_minus s k hlt HD.out hs45
            subst hk0
            have e0 := Lib.hid (magTo_first s hlt hs45)
            have e1 := Lib.hid (magTo_zero s.data.toList)
            have h45' : ((s[0].toNat : Int) == 45) = true := beq_iff_eq.2 h45
            clear h45 hs45
            go_wp2
            go_round
            case rel => exact ⟨1, by omega, by go_num, by rw [e1.out, e0.out], by rw [e0.out]; omega⟩
            case measure => simp [intOf]; omega
          · have h45' : ((s[k].toNat : Int) == 45) = false := beq_eq_false_iff_ne.2 h45
            have hn45 : s[k] ≠ 45 := fun e => h45 (by rw [e]; rfl)
            have hdg := dec_digit s k hlt HD.out hn45
            have S := Lib.hid (magTo_step s k hlt hn45)
            clear h45 hn45
            have d1 : (48 : Int) ≤ s[k].toNat := by omega
            have d2 : (s[k].toNat : Int) ≤ 57 := by omega
            by_cases hbig : magTo s.data.toList k * 10 + (s[k].toNat - 48) ≤ 9223372036854775808
            · have q := quo_no (magTo s.data.toList k) _ hdg.1 hdg.2 hbig
              generalize hmk : magTo s.data.toList k = m at *
              have HMK := Lib.hid hmk
              clear hmk
              go_wp2
              go_round
              case rel => exact ⟨k + 1, by omega, by go_num, by rw [S.out]; exact congrArg (Value.int .i64) (by omega), by rw [S.out]; exact hbig⟩
              case measure => simp [intOf]; omega
            · have q := quo_yes (magTo s.data.toList k) _ hdg.1 hdg.2 (by omega)
              have T := Lib.hid (show intF s.data.toList lo hi = (0, 7) from intF_big _ _ _ HD.out (by have := HLE.out (k + 1); rw [S.out] at this; omega))
              generalize hmk : magTo s.data.toList k = m at *
              have HMK := Lib.hid hmk
              clear hmk
              go_wp2
              go_ret2
              exact ⟨by rw [T.out]; rfl, rfl⟩
        · have hks : k = s.size := by omega
          subst hks
          have T := intF_minus _ lo hi HD.out HM.out (by rw [← HEND.out]; exact hb)
          rw [← HEND.out] at T
          generalize hmk : magTo s.data.toList s.size = m at *
          have HMK := Lib.hid hmk
          clear hmk
          by_cases h1 : lo ≤ -(m : Int)
          · by_cases h2 : -(m : Int) ≤ hi
            · rw [if_pos ⟨h1, h2⟩] at T
              have HT := Lib.hid T
              clear T
              go_wp2
              go_ret2
              exact ⟨by rw [HT.out]; rfl, rfl⟩
            · rw [if_neg (fun h => h2 h.2)] at T
              have HT := Lib.hid T
              clear T
              go_wp2
              go_ret2
              exact ⟨by rw [HT.out]; rfl, rfl⟩
          · rw [if_neg (fun h => h1 h.1)] at T
            have HT := Lib.hid T
            clear T
            go_wp2
            go_ret2
            exact ⟨by rw [HT.out]; rfl, rfl⟩
    | false =>
      have hm45 : s.data.toList.head? ≠ some 45 := by
        rw [HH.out]
        intro e
        injection e with e
        rw [e] at hm
        revert hm; decide
      have HM := Lib.hid hm45
      clear hm45 hrange
      go_enter Tryd.func14, Tryd.ntmps14
      go_wp2_with (go_at_call 38; refine (dec38 _ _ hs).mono ?_; rintro e w' ⟨rfl, rfl⟩; rw [HD.out])
      go_loop [9, 10] (fun n i => ∃ k : Nat, k ≤ s.size ∧ i = .int .i64 k ∧ n = .int .i64 (-(magTo s.data.toList k : Int)) ∧ magTo s.data.toList k ≤ 9223372036854775808) (fun _ i => s.size - (intOf i).toNat)
      case atStart => exact ⟨0, by omega, rfl, by rw [magTo_zero]; rfl, by rw [magTo_zero]; omega⟩
      case round =>
        obtain ⟨k, hk, rfl, rfl, hb⟩ := hrel
        by_cases hlt : k < s.size
        · by_cases h45 : (s[k].toNat : Int) = 45
          · exfalso
            have hs45 : s[k] = 45 := by apply UInt8.toNat_inj.1; show s[k].toNat = 45; omega
            have hk0 : k = 0 := dec_minus s k hlt HD.out hs45
            subst hk0
            exact HM.out (by rw [HH.out, hs45])
          · have h45' : ((s[k].toNat : Int) == 45) = false := beq_eq_false_iff_ne.2 h45
            have hn45 : s[k] ≠ 45 := fun e => h45 (by rw [e]; rfl)
            have hdg := dec_digit s k hlt HD.out hn45
            have S := Lib.hid (magTo_step s k hlt hn45)
            clear h45 hn45
            have d1 : (48 : Int) ≤ s[k].toNat := by omega
            have d2 : (s[k].toNat : Int) ≤ 57 := by omega
            by_cases hbig : magTo s.data.toList k * 10 + (s[k].toNat - 48) ≤ 9223372036854775808
            · have q := quo_no (magTo s.data.toList k) _ hdg.1 hdg.2 hbig
              generalize hmk : magTo s.data.toList k = m at *
              have HMK := Lib.hid hmk
              clear hmk
              go_wp2
              go_round
              case rel => exact ⟨k + 1, by omega, by go_num, by rw [S.out]; exact congrArg (Value.int .i64) (by omega), by rw [S.out]; exact hbig⟩
              case measure => simp [intOf]; omega
            · have q := quo_yes (magTo s.data.toList k) _ hdg.1 hdg.2 (by omega)
              have T := Lib.hid (show intF s.data.toList lo hi = (0, 7) from intF_big _ _ _ HD.out (by have := HLE.out (k + 1); rw [S.out] at this; omega))
              generalize hmk : magTo s.data.toList k = m at *
              have HMK := Lib.hid hmk
              clear hmk
              go_wp2
              go_ret2
              exact ⟨by rw [T.out]; rfl, rfl⟩
        · have hks : k = s.size := by omega
          subst hks
          by_cases hedge : magTo s.data.toList s.size = 9223372036854775808
          · have T := Lib.hid (intF_edge _ lo hi HD.out HM.out (by rw [← HEND.out]; exact hedge))
            generalize hmk : magTo s.data.toList s.size = m at *
            have HMK := Lib.hid hmk
            clear hmk
            have q : (-(m : Int) == -9223372036854775808) = true := beq_iff_eq.2 (by omega)
            clear hedge
            go_wp2
            go_ret2
            exact ⟨by rw [T.out]; rfl, rfl⟩
          have hb2 : magTo s.data.toList s.size ≤ 9223372036854775807 := by omega
          have T := intF_plus _ lo hi HD.out HM.out (by rw [← HEND.out]; exact hb2)
          rw [← HEND.out] at T
          generalize hmk : magTo s.data.toList s.size = m at *
          have HMK := Lib.hid hmk
          clear hmk
          have q : (-(m : Int) == -9223372036854775808) = false := beq_eq_false_iff_ne.2 (by omega)
          clear hedge
          by_cases h1 : lo ≤ (m : Int)
          · by_cases h2 : (m : Int) ≤ hi
            · rw [if_pos ⟨h1, h2⟩] at T
              have HT := Lib.hid T
              clear T
              go_wp2
              go_ret2
              exact ⟨by rw [HT.out]; rfl, rfl⟩
            · rw [if_neg (fun h => h2 h.2)] at T
              have HT := Lib.hid T
              clear T
              go_wp2
              go_ret2
              exact ⟨by rw [HT.out]; rfl, rfl⟩
          · rw [if_neg (fun h => h1 h.1)] at T
            have HT := Lib.hid T
            clear T
            go_wp2
            go_ret2
            exact ⟨by rw [HT.out]; rfl, rfl⟩
end YtkhggnfhhafkjaaDoor
end Go.Proofs
