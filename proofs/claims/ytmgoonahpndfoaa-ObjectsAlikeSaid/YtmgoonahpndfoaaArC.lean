/- isPart, Get, Same and Ints. -/
import Derived.Test.YtmgoonahpndfoaaArM
namespace Go.Proofs
namespace Ytmgoonahpndfoaa
open Go.RowKit

set_option maxRecDepth 100000 in
theorem part74 (A : Option Addr) (len cap : Nat) (a n : Int) (w : World) (hm : len ≤ 1000000000) :
    Calls Try.prog 74 #[.slice A len cap, .int .i64 a, .int .i64 n] w fun e w' => e = .returned (.bool (partB len a n)) ∧ w = w' := by
  by_cases h1 : 1 ≤ a
  rotate_left
  · have q1 : decide (1 ≤ a) = false := decide_eq_false h1
    have T := Lib.hid (show partB len a n = false by unfold partB; rw [q1]; rfl)
    go_enter Try.func74, Try.ntmps74
    go_wp2
    go_ret
    exact ⟨by rw [T.out]; rfl, rfl⟩
  have q1 : decide (1 ≤ a) = true := decide_eq_true h1
  by_cases h2 : a ≤ (len : Int)
  rotate_left
  · have q2 : decide (a ≤ (len : Int)) = false := decide_eq_false h2
    have T := Lib.hid (show partB len a n = false by unfold partB; rw [q1, q2]; rfl)
    go_enter Try.func74, Try.ntmps74
    go_wp2
    go_ret
    exact ⟨by rw [T.out]; rfl, rfl⟩
  have q2 : decide (a ≤ (len : Int)) = true := decide_eq_true h2
  by_cases h3 : 0 ≤ n
  rotate_left
  · have q3 : decide (0 ≤ n) = false := decide_eq_false h3
    have T := Lib.hid (show partB len a n = false by unfold partB; rw [q1, q2, q3]; rfl)
    go_enter Try.func74, Try.ntmps74
    go_wp2
    go_ret
    exact ⟨by rw [T.out]; rfl, rfl⟩
  have q3 : decide (0 ≤ n) = true := decide_eq_true h3
  have T := Lib.hid (show partB len a n = decide (n ≤ (len : Int) - a) by unfold partB; rw [q1, q2, q3]; rfl)
  go_enter Try.func74, Try.ntmps74
  go_wp2
  go_ret
  exact ⟨by rw [T.out]; rfl, rfl⟩

set_option maxRecDepth 100000 in
theorem get62 (v : Value) (zs : List Int) (a : Int) (w : World) (h : WAt w v zs) (hm : zs.length ≤ 9223372036854775807) :
    Calls Try.prog 62 #[v, .int .i64 a] w fun e w' => e = .returned (.tuple #[.int .u64 (getF zs a).1, .int .i64 (getF zs a).2]) ∧ w = w' := by
  have C14 := Lib.hid (check41 v zs w h hm)
  obtain ⟨A, cap, rfl, hA⟩ := h
  have HA := Lib.hid hA
  clear hA
  by_cases hc : chkF zs = 0
  rotate_left
  · have q : (chkF zs != 0) = true := by simpa using hc
    have T := Lib.hid (show getF zs a = (0, chkF zs) by unfold getF; rw [if_pos hc])
    clear hc
    generalize chkF zs = c at *
    go_enter Try.func62, Try.ntmps62
    go_wp2_with (go_at_call 41; refine C14.out.mono ?_; rintro e w' ⟨rfl, rfl⟩)
    exact bodyPost_ret (v := .tuple #[.int .u64 0, .int .i64 c]) (by simp [results, Try.f62, go_sem]) rfl ⟨by rw [T.out], rfl⟩
  · have hl : 1 ≤ zs.length ∧ zs.length ≤ 1601 := by
      apply Classical.byContradiction
      intro hn
      rw [chk_long (by omega)] at hc
      cases hc
    rw [hc] at C14
    have P36 := Lib.hid (part74 A zs.length cap a 1 w (by omega))
    have H0 := Lib.hid hc
    clear hc
    cases hp : partB zs.length a 1 with
    | false =>
      rw [hp] at P36
      have T := Lib.hid (show getF zs a = (0, 7) by unfold getF; rw [if_neg (by simp [H0.out]), hp]; rfl)
      clear hp
      go_enter Try.func62, Try.ntmps62
      go_wp2_with (first
        | (go_at_call 41; refine C14.out.mono ?_; rintro e w' ⟨rfl, rfl⟩)
        | (go_at_call 74; refine P36.out.mono ?_; rintro e w' ⟨rfl, rfl⟩))
      exact bodyPost_ret (v := .tuple #[.int .u64 0, .int .i64 7]) (by simp [results, Try.f62, go_sem]) rfl ⟨by rw [T.out], rfl⟩
    | true =>
      rw [hp] at P36
      obtain ⟨p1, p2, p3, p4⟩ := partB_spec.1 hp
      obtain ⟨k, rfl⟩ : ∃ k : Nat, a = (k : Int) := ⟨a.toNat, by omega⟩
      have hk : (k : Int) < (zs.length : Int) := by omega
      have T := Lib.hid (show getF zs k = (zs.getD k 0, 0) by unfold getF; rw [if_neg (by simp [H0.out]), if_pos hp]; rfl)
      obtain ⟨b, off, rfl, hc⟩ := HA.out (by omega)
      have d := hc k _ (wc_get zs k (by omega))
      clear hp hc HA
      generalize zs.getD k 0 = z at *
      go_enter Try.func62, Try.ntmps62
      go_wp2_with (first
        | (go_at_call 41; refine C14.out.mono ?_; rintro e w' ⟨rfl, rfl⟩)
        | (go_at_call 74; refine P36.out.mono ?_; rintro e w' ⟨rfl, rfl⟩))
      exact bodyPost_ret (v := .tuple #[.int .u64 z, .int .i64 0]) (by simp [results, Try.f62, go_sem]) rfl ⟨by rw [T.out], rfl⟩
end Ytmgoonahpndfoaa
end Go.Proofs
