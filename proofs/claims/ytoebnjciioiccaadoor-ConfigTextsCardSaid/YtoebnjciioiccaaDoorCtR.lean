/- Int, the reference's. -/
import Derived.Test.YtoebnjciioiccaaDoorCtD
namespace Go.Proofs
namespace YtoebnjciioiccaaDoor
namespace Ct
open Go.RowKit

theorem unsign_le (l : List UInt8) : (unsign l).length ≤ l.length := by
  unfold unsign; split <;> simp
def intV (p : Int × Int) : Value := .tuple #[.int .i64 p.1, .int .i64 p.2]
theorem decL_parts {l : List UInt8} (h : decL l = true) : natL (unsign l) = true ∧ l ≠ [45, 48] := by
  simpa [decL] using h

/-- the number of the digits before a place -/
def magTo (l : List UInt8) (k : Nat) : Nat := mag 0 (unsign (l.take k))
theorem mag_append (a b : List UInt8) (acc : Nat) : mag acc (a ++ b) = mag (mag acc a) b := by simp only [mag, List.foldl_append]
theorem magTo_zero (l : List UInt8) : magTo l 0 = 0 := by unfold magTo; rw [List.take_zero]; simp only [unsign, mag, List.foldl_nil]
theorem magTo_end (l : List UInt8) (k : Nat) (h : l.length ≤ k) : magTo l k = mag 0 (unsign l) := by unfold magTo; rw [List.take_of_length_le h]
theorem unsign_snoc (a : List UInt8) (c : UInt8) (h : a ≠ [] ∨ c ≠ 45) : unsign (a ++ [c]) = unsign a ++ [c] := by
  cases a with
  | nil =>
    rcases h with h | h
    · exact absurd rfl h
    · rw [List.nil_append, unsign_other [] h]; rfl
  | cons x r =>
    by_cases hx : x = 45
    · subst hx; rfl
    · rw [List.cons_append, unsign_other _ hx, unsign_other _ hx]; rfl
theorem take_succ_get (s : ByteArray) (k : Nat) (hk : k < s.size) : s.data.toList.take (k + 1) = s.data.toList.take k ++ [s[k]] := by
  rw [List.take_succ_eq_append_getElem (by simpa using hk)]; rfl
theorem magTo_step (s : ByteArray) (k : Nat) (hk : k < s.size) (h : s[k] ≠ 45) : magTo s.data.toList (k + 1) = magTo s.data.toList k * 10 + (s[k].toNat - 48) := by
  unfold magTo
  rw [take_succ_get s k hk, unsign_snoc _ _ (Or.inr h), mag_append]
  rw [mag_cons, mag_nil]
/-- in a decimal form only the first byte may be a minus sign -/
theorem dec_digit (s : ByteArray) (k : Nat) (hk : k < s.size) (hd : decL s.data.toList = true) (h : s[k] ≠ 45) : 48 ≤ s[k].toNat ∧ s[k].toNat ≤ 57 := by
  have hm : s[k] ∈ s.data.toList := List.getElem_mem (l := s.data.toList) (by simpa using hk)
  have ha := (natL_digits (decL_parts hd).1).2
  rw [List.all_eq_true] at ha
  refine (digU_iff _).1 (ha _ ?_)
  unfold unsign
  split
  · rename_i r hr
    rw [hr] at hm
    rcases List.mem_cons.1 hm with e | e
    · exact absurd e h
    · exact e
  · exact hm
theorem dec_minus (s : ByteArray) (k : Nat) (hk : k < s.size) (hd : decL s.data.toList = true) (h : s[k] = 45) : k = 0 := by
  cases k with
  | zero => rfl
  | succ j =>
    exfalso
    have ha := (natL_digits (decL_parts hd).1).2
    rw [List.all_eq_true] at ha
    obtain ⟨r, hr, hrl⟩ := head_eq s (by omega)
    have hg : s.data.toList[j + 1]'(by simpa using hk) = 45 := h
    have hmem : (45 : UInt8) ∈ unsign s.data.toList := by
      have : (45 : UInt8) ∈ r := by
        rw [← hg]
        have e : s.data.toList[j + 1]'(by simpa using hk) = r[j]'(by omega) := by
          have := hr
          simp only [this, List.getElem_cons_succ]
        rw [e]
        exact List.getElem_mem _
      rw [hr]
      by_cases h0 : s[0] = 45
      · rw [h0]; exact this
      · rw [unsign_other r h0]; exact List.mem_cons_of_mem _ this
    have := ha _ hmem
    revert this
    decide
theorem magTo_first (s : ByteArray) (h0 : 0 < s.size) (h : s[0] = 45) : magTo s.data.toList 1 = 0 := by
  unfold magTo
  rw [take_succ_get s 0 h0, h, List.take_zero]
  simp only [List.nil_append, unsign, mag, List.foldl_nil]
theorem magTo_le (l : List UInt8) (k : Nat) : magTo l k ≤ mag 0 (unsign l) := by
  have e : unsign l = unsign (l.take k) ++ l.drop k ∨ magTo l k = 0 := by
    cases k with
    | zero => right; exact magTo_zero l
    | succ k =>
      left
      cases l with
      | nil => rfl
      | cons c r =>
        by_cases hc : c = 45
        · subst hc; simp [unsign]
        · rw [List.take_succ_cons, unsign_other _ hc, unsign_other _ hc]; simp
  rcases e with e | e
  · rw [e, mag_append]; exact mag_ge _ _
  · omega
theorem intVal_eq (l : List UInt8) : intVal l = if l.head? = some 45 then -((mag 0 (unsign l) : Nat) : Int) else ((mag 0 (unsign l) : Nat) : Int) := by
  unfold intVal
  split
  · rfl
  · rename_i h
    cases l with
    | nil => rfl
    | cons c r => rw [unsign_other r (by simpa using h)]
theorem quo_test (m c : Nat) (h0 : 48 ≤ c) (h1 : c ≤ 57) : -(m : Int) < (-9223372036854775808 + ((c : Int) - 48)).tdiv 10 ↔ 9223372036854775808 < m * 10 + (c - 48) := by
  have H : ∀ j : Fin 10, (-9223372036854775808 + ((j.val + 48 : Nat) : Int) - 48).tdiv 10 = if j.val ≤ 8 then -922337203685477580 else -922337203685477579 := by decide
  have h := H ⟨c - 48, by omega⟩
  have e : (c - 48 + 48 : Nat) = c := by omega
  simp only [e] at h
  rw [show (-9223372036854775808 + ((c : Int) - 48)) = (-9223372036854775808 + (c : Int) - 48) by omega, h]
  split <;> omega
theorem quo_yes (m c : Nat) (h0 : 48 ≤ c) (h1 : c ≤ 57) (h : 9223372036854775808 < m * 10 + (c - 48)) : decide (-(m : Int) < (-9223372036854775808 + ((c : Int) - 48)).tdiv 10) = true :=
  decide_eq_true ((quo_test m c h0 h1).2 h)
theorem quo_no (m c : Nat) (h0 : 48 ≤ c) (h1 : c ≤ 57) (h : m * 10 + (c - 48) ≤ 9223372036854775808) : decide (-(m : Int) < (-9223372036854775808 + ((c : Int) - 48)).tdiv 10) = false :=
  decide_eq_false fun h' => by have := (quo_test m c h0 h1).1 h'; omega
theorem step_val (m c : Nat) (h0 : 48 ≤ c) (h : m * 10 + (c - 48) ≤ 9223372036854775808) : wrap64 (wrap64 (10 * -(m : Int)) - ((c : Int) - 48)) = -((m * 10 + (c - 48) : Nat) : Int) := by
  rw [IntWalk.wrap64_in (10 * -(m : Int)) (by omega), IntWalk.wrap64_in _ (by omega)]
  omega
theorem intF_big (l : List UInt8) (lo hi : Int) (hd : decL l = true) (h : 9223372036854775808 < mag 0 (unsign l)) : intF l lo hi = (0, 7) := by
  unfold intF
  rw [if_pos hd, if_neg]
  rw [intVal_eq]
  split <;> omega
theorem intF_minus (l : List UInt8) (lo hi : Int) (hd : decL l = true) (hm : l.head? = some 45) (h : mag 0 (unsign l) ≤ 9223372036854775808) :
    intF l lo hi = if lo ≤ -((mag 0 (unsign l) : Nat) : Int) ∧ -((mag 0 (unsign l) : Nat) : Int) ≤ hi then (-((mag 0 (unsign l) : Nat) : Int), 0) else (0, 7) := by
  unfold intF
  rw [if_pos hd, intVal_eq, if_pos hm]
  split
  · rename_i h1; rw [if_pos h1.2]
  · rename_i h1; rw [if_neg (fun h2 => h1 ⟨by omega, h2⟩)]
theorem intF_plus (l : List UInt8) (lo hi : Int) (hd : decL l = true) (hm : l.head? ≠ some 45) (h : mag 0 (unsign l) ≤ 9223372036854775807) :
    intF l lo hi = if lo ≤ ((mag 0 (unsign l) : Nat) : Int) ∧ ((mag 0 (unsign l) : Nat) : Int) ≤ hi then (((mag 0 (unsign l) : Nat) : Int), 0) else (0, 7) := by
  unfold intF
  rw [if_pos hd, intVal_eq, if_neg hm]
  split
  · rename_i h1; rw [if_pos h1.2]
  · rename_i h1; rw [if_neg (fun h2 => h1 ⟨by omega, h2⟩)]
theorem intF_edge (l : List UInt8) (lo hi : Int) (hd : decL l = true) (hm : l.head? ≠ some 45) (h : mag 0 (unsign l) = 9223372036854775808) : intF l lo hi = (0, 7) := by
  unfold intF
  rw [if_pos hd, intVal_eq, if_neg hm, if_neg]
  omega

set_option maxRecDepth 100000 in
set_option maxHeartbeats 1000000 in
theorem rint14 (s : ByteArray) (lo hi : Int) (w : World) (hs : s.size ≤ 1000000) :
    Calls Tryd.prog 48 #[.string s, .int .i64 lo, .int .i64 hi] w fun e w' => e = .returned (intV (intF s.data.toList lo hi)) ∧ w = w' := by
  cases hd : decL s.data.toList with
  | false =>
    have T := Lib.hid (show intF s.data.toList lo hi = (0, 6) by simp [intF, hd])
    have HD := Lib.hid hd
    clear hd
    go_enter Tryd.func48, Tryd.ntmps48
    go_wp2_with (go_at_call 62; refine (dec38 _ _ hs).mono ?_; rintro e w' ⟨rfl, rfl⟩; rw [HD.out])
    go_ret2
    exact ⟨by rw [T.out]; rfl, rfl⟩
  | true =>
    have HD := Lib.hid hd
    clear hd
    have hp : 0 < s.size := by
      have h := (natL_digits (decL_parts HD.out).1).1
      rcases Nat.eq_zero_or_pos s.size with h0 | h0
      · exfalso; apply h
        have : s.data.toList = [] := List.eq_nil_of_length_eq_zero (by simpa using h0)
        rw [this]; rfl
      · exact h0
    have hh : s.data.toList.head? = some s[0] := by
      obtain ⟨r, hr, _⟩ := head_eq s hp
      rw [hr]; rfl
    have hle : ∀ k, magTo s.data.toList k ≤ mag 0 (unsign s.data.toList) := magTo_le _
    have hend : magTo s.data.toList s.size = mag 0 (unsign s.data.toList) := magTo_end _ _ (by simp)
    have HH := Lib.hid hh
    have HLE := Lib.hid hle
    have HEND := Lib.hid hend
    clear hh hle hend
    have hrange : ∀ M : Nat, M = mag 0 (unsign s.data.toList) → Hid (M = mag 0 (unsign s.data.toList)) := fun _ h => h
    cases hm : ((s[0].toNat : Int) == 45) with
    | true =>
      have hm45 : s.data.toList.head? = some 45 := by
        rw [HH.out]; congr 1; apply UInt8.toNat_inj.1; show s[0].toNat = 45
        have := beq_iff_eq.1 hm; omega
      have HM := Lib.hid hm45
      clear hm45 hrange
      go_enter Tryd.func48, Tryd.ntmps48
      go_wp2_with (go_at_call 62; refine (dec38 _ _ hs).mono ?_; rintro e w' ⟨rfl, rfl⟩; rw [HD.out])
      go_loop [9, 10] (fun n i => ∃ k : Nat, k ≤ s.size ∧ i = .int .i64 k ∧ n = .int .i64 (-(magTo s.data.toList k : Int)) ∧ magTo s.data.toList k ≤ 9223372036854775808) (fun _ i => s.size - (intOf i).toNat)
      case atStart => exact ⟨0, by omega, rfl, by rw [magTo_zero]; rfl, by rw [magTo_zero]; omega⟩
      case round =>
        obtain ⟨k, hk, rfl, rfl, hb⟩ := hrel
        by_cases hlt : k < s.size
        · by_cases h45 : (s[k].toNat : Int) = 45
          · have hs45 : s[k] = 45 := by apply UInt8.toNat_inj.1; show s[k].toNat = 45; omega
            have hk0 : k = 0 := dec_minus s k hlt HD.out hs45
            subst hk0
            have e0 := Lib.hid (magTo_first s hlt hs45)
            have e1 := Lib.hid (magTo_zero s.data.toList)
            have h45' : ((s[0].toNat : Int) == 45) = true := beq_iff_eq.2 h45
            clear h45 hs45
            go_wp2
            go_round
            case rel => exact ⟨1, by omega, by go_num, by rw [e1.out, e0.out], by rw [e0.out]; omega⟩
            case measure => simp [intOf]; omega
          · have h45' : ((s[k].toNat : Int) == 45) = false := beq_eq_false_iff_ne.2 h45
            have hn45 : s[k] ≠ 45 := fun e => h45 (by rw [e]; rfl)
            have hdg := dec_digit s k hlt HD.out hn45
            have S := Lib.hid (magTo_step s k hlt hn45)
            clear h45 hn45
            have d1 : (48 : Int) ≤ s[k].toNat := by omega
            have d2 : (s[k].toNat : Int) ≤ 57 := by omega
            by_cases hbig : magTo s.data.toList k * 10 + (s[k].toNat - 48) ≤ 9223372036854775808
            · have q := quo_no (magTo s.data.toList k) _ hdg.1 hdg.2 hbig
              generalize hmk : magTo s.data.toList k = m at *
              have HMK := Lib.hid hmk
              clear hmk
              go_wp2
              go_round
              case rel => exact ⟨k + 1, by omega, by go_num, by rw [S.out]; exact congrArg (Value.int .i64) (by omega), by rw [S.out]; exact hbig⟩
              case measure => simp [intOf]; omega
            · have q := quo_yes (magTo s.data.toList k) _ hdg.1 hdg.2 (by omega)
              have T := Lib.hid (show intF s.data.toList lo hi = (0, 7) from intF_big _ _ _ HD.out (by have := HLE.out (k + 1); rw [S.out] at this; omega))
              generalize hmk : magTo s.data.toList k = m at *
              have HMK := Lib.hid hmk
              clear hmk
              go_wp2
              go_ret2
              exact ⟨by rw [T.out]; rfl, rfl⟩
        · have hks : k = s.size := by omega
          subst hks
          have T := intF_minus _ lo hi HD.out HM.out (by rw [← HEND.out]; exact hb)
          rw [← HEND.out] at T
          generalize hmk : magTo s.data.toList s.size = m at *
          have HMK := Lib.hid hmk
          clear hmk
          by_cases h1 : lo ≤ -(m : Int)
          · by_cases h2 : -(m : Int) ≤ hi
            · rw [if_pos ⟨h1, h2⟩] at T
              have HT := Lib.hid T
              clear T
              go_wp2
              go_ret2
              exact ⟨by rw [HT.out]; rfl, rfl⟩
            · rw [if_neg (fun h => h2 h.2)] at T
              have HT := Lib.hid T
              clear T
              go_wp2
              go_ret2
              exact ⟨by rw [HT.out]; rfl, rfl⟩
          · rw [if_neg (fun h => h1 h.1)] at T
            have HT := Lib.hid T
            clear T
            go_wp2
            go_ret2
            exact ⟨by rw [HT.out]; rfl, rfl⟩
    | false =>
      have hm45 : s.data.toList.head? ≠ some 45 := by
        rw [HH.out]
        intro e
        injection e with e
        rw [e] at hm
        revert hm; decide
      have HM := Lib.hid hm45
      clear hm45 hrange
      go_enter Tryd.func48, Tryd.ntmps48
      go_wp2_with (go_at_call 62; refine (dec38 _ _ hs).mono ?_; rintro e w' ⟨rfl, rfl⟩; rw [HD.out])
      go_loop [9, 10] (fun n i => ∃ k : Nat, k ≤ s.size ∧ i = .int .i64 k ∧ n = .int .i64 (-(magTo s.data.toList k : Int)) ∧ magTo s.data.toList k ≤ 9223372036854775808) (fun _ i => s.size - (intOf i).toNat)
      case atStart => exact ⟨0, by omega, rfl, by rw [magTo_zero]; rfl, by rw [magTo_zero]; omega⟩
      case round =>
        obtain ⟨k, hk, rfl, rfl, hb⟩ := hrel
        by_cases hlt : k < s.size
        · by_cases h45 : (s[k].toNat : Int) = 45
          · exfalso
            have hs45 : s[k] = 45 := by apply UInt8.toNat_inj.1; show s[k].toNat = 45; omega
            have hk0 : k = 0 := dec_minus s k hlt HD.out hs45
            subst hk0
            exact HM.out (by rw [HH.out, hs45])
          · have h45' : ((s[k].toNat : Int) == 45) = false := beq_eq_false_iff_ne.2 h45
            have hn45 : s[k] ≠ 45 := fun e => h45 (by rw [e]; rfl)
            have hdg := dec_digit s k hlt HD.out hn45
            have S := Lib.hid (magTo_step s k hlt hn45)
            clear h45 hn45
            have d1 : (48 : Int) ≤ s[k].toNat := by omega
            have d2 : (s[k].toNat : Int) ≤ 57 := by omega
            by_cases hbig : magTo s.data.toList k * 10 + (s[k].toNat - 48) ≤ 9223372036854775808
            · have q := quo_no (magTo s.data.toList k) _ hdg.1 hdg.2 hbig
              generalize hmk : magTo s.data.toList k = m at *
              have HMK := Lib.hid hmk
              clear hmk
              go_wp2
              go_round
              case rel => exact ⟨k + 1, by omega, by go_num, by rw [S.out]; exact congrArg (Value.int .i64) (by omega), by rw [S.out]; exact hbig⟩
              case measure => simp [intOf]; omega
            · have q := quo_yes (magTo s.data.toList k) _ hdg.1 hdg.2 (by omega)
              have T := Lib.hid (show intF s.data.toList lo hi = (0, 7) from intF_big _ _ _ HD.out (by have := HLE.out (k + 1); rw [S.out] at this; omega))
              generalize hmk : magTo s.data.toList k = m at *
              have HMK := Lib.hid hmk
              clear hmk
              go_wp2
              go_ret2
              exact ⟨by rw [T.out]; rfl, rfl⟩
        · have hks : k = s.size := by omega
          subst hks
          by_cases hedge : magTo s.data.toList s.size = 9223372036854775808
          · have T := Lib.hid (intF_edge _ lo hi HD.out HM.out (by rw [← HEND.out]; exact hedge))
            generalize hmk : magTo s.data.toList s.size = m at *
            have HMK := Lib.hid hmk
            clear hmk
            have q : (-(m : Int) == -9223372036854775808) = true := beq_iff_eq.2 (by omega)
            clear hedge
            go_wp2
            go_ret2
            exact ⟨by rw [T.out]; rfl, rfl⟩
          have hb2 : magTo s.data.toList s.size ≤ 9223372036854775807 := by omega
          have T := intF_plus _ lo hi HD.out HM.out (by rw [← HEND.out]; exact hb2)
          rw [← HEND.out] at T
          generalize hmk : magTo s.data.toList s.size = m at *
          have HMK := Lib.hid hmk
          clear hmk
          have q : (-(m : Int) == -9223372036854775808) = false := beq_eq_false_iff_ne.2 (by omega)
          clear hedge
          by_cases h1 : lo ≤ (m : Int)
          · by_cases h2 : (m : Int) ≤ hi
            · rw [if_pos ⟨h1, h2⟩] at T
              have HT := Lib.hid T
              clear T
              go_wp2
              go_ret2
              exact ⟨by rw [HT.out]; rfl, rfl⟩
            · rw [if_neg (fun h => h2 h.2)] at T
              have HT := Lib.hid T
              clear T
              go_wp2
              go_ret2
              exact ⟨by rw [HT.out]; rfl, rfl⟩
          · rw [if_neg (fun h => h1 h.1)] at T
            have HT := Lib.hid T
            clear T
            go_wp2
            go_ret2
            exact ⟨by rw [HT.out]; rfl, rfl⟩
end Ct
end YtoebnjciioiccaaDoor
end Go.Proofs
