/- The reference's Zero, for every arena and every two numbers. -/
import Derived.Test.YtkffabochgmagaaArR
import Derived.Test.YtkffabochgmagaaArZ
namespace Go.Proofs
namespace Ytkffabochgmagaa
open Go.RowKit

set_option maxRecDepth 100000 in
set_option maxHeartbeats 1000000 in
theorem rzero25 (v : Value) (zs : List Int) (a b : Int) (w : World) (h : WAt w v zs) (hm : zs.length ≤ 9223372036854775807) :
    Calls Try.prog 25 #[v, .int .i64 a, .int .i64 b] w fun e w' => e = .returned (.tuple #[.bool (zeroF zs a b).1, .int .i64 (zeroF zs a b).2]) ∧ w = w' := by
  have C := Lib.hid (rcheck15 v zs w h hm)
  by_cases hc : chkF zs = 0
  rotate_left
  · have T := Lib.hid (show zeroF zs a b = (false, chkF zs) by unfold zeroF; rw [if_pos hc])
    have q1 : (chkF zs == 0) = false := by simpa using hc
    have q2 : (chkF zs != 0) = true := by simpa using hc
    clear hc
    generalize chkF zs = c at *
    obtain ⟨A, cap, rfl, -⟩ := h
    go_enter Try.func25, Try.ntmps25
    go_wp2_with (go_at_call 15; refine C.out.mono ?_; rintro e w' ⟨rfl, rfl⟩)
    exact bodyPost_ret (v := .tuple #[.bool false, .int .i64 c]) (by simp [results, Try.f25, go_sem]) rfl ⟨by rw [T.out], rfl⟩
  have hl : 1 ≤ zs.length ∧ zs.length ≤ 1601 := by
    apply Classical.byContradiction
    intro hn
    rw [chk_long (by omega)] at hc
    cases hc
  rw [hc] at C
  have TN := Lib.hid (show partB zs.length a (b - a) = false → zeroF zs a b = (false, 7) from fun h => by unfold zeroF; rw [if_neg (by simp [hc]), h]; rfl)
  have TY := Lib.hid (show partB zs.length a (b - a) = true → zeroF zs a b = (((zs.take b.toNat).drop a.toNat).all (fun z => decide (z = 0)), 0) from fun h => by unfold zeroF; rw [if_neg (by simp [hc]), if_pos h])
  have NP := Lib.hid (show ¬ (1 ≤ a ∧ a ≤ b ∧ b ≤ (zs.length : Int)) → partB zs.length a (b - a) = false from fun h => by
    rw [Bool.eq_false_iff]
    intro h2
    have := partB_spec.1 h2
    omega)
  obtain ⟨A, cap, rfl, hA⟩ := h
  by_cases h1 : a < 1
  · have q : decide (a < 1) = true := decide_eq_true h1
    have T := Lib.hid (TN.out (NP.out (by omega)))
    clear hc h1 hA
    go_enter Try.func25, Try.ntmps25
    go_wp2_with (go_at_call 15; refine C.out.mono ?_; rintro e w' ⟨rfl, rfl⟩)
    exact bodyPost_ret (v := .tuple #[.bool false, .int .i64 7]) (by simp [results, Try.f25, go_sem]) rfl ⟨by rw [T.out], rfl⟩
  have q1 : decide (a < 1) = false := decide_eq_false h1
  by_cases h2 : b < a
  · have q : decide (b < a) = true := decide_eq_true h2
    have T := Lib.hid (TN.out (NP.out (by omega)))
    clear hc h1 h2 hA
    go_enter Try.func25, Try.ntmps25
    go_wp2_with (go_at_call 15; refine C.out.mono ?_; rintro e w' ⟨rfl, rfl⟩)
    exact bodyPost_ret (v := .tuple #[.bool false, .int .i64 7]) (by simp [results, Try.f25, go_sem]) rfl ⟨by rw [T.out], rfl⟩
  have q2 : decide (b < a) = false := decide_eq_false h2
  by_cases h3 : (zs.length : Int) < b
  · have q : decide ((zs.length : Int) < b) = true := decide_eq_true h3
    have T := Lib.hid (TN.out (NP.out (by omega)))
    clear hc h1 h2 h3 hA
    go_enter Try.func25, Try.ntmps25
    go_wp2_with (go_at_call 15; refine C.out.mono ?_; rintro e w' ⟨rfl, rfl⟩)
    exact bodyPost_ret (v := .tuple #[.bool false, .int .i64 7]) (by simp [results, Try.f25, go_sem]) rfl ⟨by rw [T.out], rfl⟩
  have q3 : decide ((zs.length : Int) < b) = false := decide_eq_false h3
  obtain ⟨k, rfl⟩ : ∃ k : Nat, a = (k : Int) := ⟨a.toNat, by omega⟩
  obtain ⟨l, rfl⟩ : ∃ l : Nat, b = (l : Int) := ⟨b.toNat, by omega⟩
  obtain ⟨m, rfl⟩ : ∃ m, l = k + m := ⟨l - k, by omega⟩
  have hkm : k + m ≤ zs.length := by omega
  have T := Lib.hid (TY.out (partB_spec.2 (by omega)))
  have AZ := Lib.hid (all_zero zs k m hkm)
  have hl2 := hl.2
  have hl1 := hl.1
  obtain ⟨b0, off, rfl, hcell⟩ := hA (by omega)
  have HC := Lib.hid hcell
  clear hc TN TY NP hA hcell hl h1 h2 h3
  go_enter Try.func25, Try.ntmps25
  go_wp2_with (go_at_call 15; refine C.out.mono ?_; rintro e w' ⟨rfl, rfl⟩)
  go_loopw [9] (fun i wr => ∃ j : Nat, j ≤ m ∧ i = .int .i64 ((k : Int) + (j : Int)) ∧ Hid (w = wr) ∧ Hid (∀ q, q < j → zs.getD (k + q) 0 = 0)) (fun i _ => k + m - (intOf i).toNat)
  case atStart => exact ⟨0, by omega, by simp, Lib.hid rfl, Lib.hid (fun q hq => by omega)⟩
  case round =>
    obtain ⟨j, hj, rfl, hw, HZ⟩ := hrel
    by_cases hlt : j < m
    · have hlt' : (k : Int) + (j : Int) < ((k + m : Nat) : Int) := by omega
      have qlt : decide ((k : Int) + (j : Int) < ((k + m : Nat) : Int)) = true := decide_eq_true hlt'
      have i1 : (0 : Int) ≤ (k : Int) + (j : Int) := by omega
      have i2 : (k : Int) + (j : Int) < (zs.length : Int) := by omega
      have i3 : ((k : Int) + (j : Int)).toNat = k + j := by omega
      have d : wr.cell? ⟨b0, off + (k + j), none⟩ = some (.int .u64 (zs.getD (k + j) 0)) := by rw [← hw.out]; exact HC.out _ _ (wc_get zs (k + j) (by omega))
      by_cases hz : zs.getD (k + j) 0 = 0
      · have H2 := Lib.hid (show ∀ q, q < j + 1 → zs.getD (k + q) 0 = 0 from fun q hq => by
          rcases Nat.lt_or_ge q j with h | h
          · exact HZ.out q h
          · obtain rfl : q = j := by omega
            exact hz)
        rw [hz] at d
        clear hz
        go_wp2
        refine ⟨⟨j + 1, by omega, by simp; omega, hw, H2⟩, ?_⟩
        show k + m - ((k : Int) + (j : Int) + 1).toNat < k + m - ((k : Int) + (j : Int)).toNat
        omega
      · have F := Lib.hid (show zeroF zs k ((k + m : Nat) : Int) = (false, 0) by
          rw [T.out]
          show (((zs.take (k + m)).drop k).all (fun z => decide (z = 0)), (0 : Int)) = (false, 0)
          rw [AZ.out, decide_eq_false (fun h => hz (h j hlt))])
        have qz : (zs.getD (k + j) 0 != 0) = true := by simpa using hz
        clear hz
        generalize zs.getD (k + j) 0 = z at *
        go_wp2
        exact bodyPost_ret (v := .tuple #[.bool false, .int .i64 0]) (by simp [results, Try.f25, go_sem]) rfl ⟨by rw [F.out], hw.out⟩
    · have ek : j = m := by omega
      subst ek
      have qlt : decide ((k : Int) + (j : Int) < ((k + j : Nat) : Int)) = false := decide_eq_false (by omega)
      have F := Lib.hid (show zeroF zs k ((k + j : Nat) : Int) = (true, 0) by
        rw [T.out]
        show (((zs.take (k + j)).drop k).all (fun z => decide (z = 0)), (0 : Int)) = (true, 0)
        rw [AZ.out, decide_eq_true HZ.out])
      go_wp2
      exact bodyPost_ret (v := .tuple #[.bool true, .int .i64 0]) (by simp [results, Try.f25, go_sem]) rfl ⟨by rw [F.out], hw.out⟩
end Ytkffabochgmagaa
end Go.Proofs
