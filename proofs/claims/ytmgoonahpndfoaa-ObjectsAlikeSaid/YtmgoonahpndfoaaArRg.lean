/- The reference's Get and Set. -/
import Derived.Test.YtmgoonahpndfoaaArR
namespace Go.Proofs
namespace Ytmgoonahpndfoaa
open Go.RowKit

/-- what Set answers, written out -/
def setF (ws : List Int) (a z : Int) : List Int × Int := if chkF ws ≠ 0 then ([], chkF ws) else if partB ws.length a 1 = true then (ws.set a.toNat z, 0) else ([], 7)
theorem after_set (ws : List Int) (a z : Int) : afterF ws ⟨2, a, 0, 0, z⟩ = setF ws a z := by
  unfold afterF playF setF
  by_cases hc : chkF ws ≠ 0
  · rw [if_pos hc, if_pos hc]; rfl
  · rw [if_neg hc, if_neg hc, if_neg (by simp)]
    by_cases hp : partB ws.length a 1 = true
    · have e : stepF ⟨ws, [], 0, 0⟩ ⟨2, a, 0, 0, z⟩ = (0, ⟨ws.set a.toNat z, [], 0, 0 + 1⟩) := by simp [stepF, hp]
      rw [if_pos hp, goF_step (by rw [e]), e]; rfl
    · have e : stepF ⟨ws, [], 0, 0⟩ ⟨2, a, 0, 0, z⟩ = (7, ⟨ws, [], 0, 0⟩) := by simp [stepF, hp]
      rw [if_neg hp, goF_err (by rw [e]; exact (by decide : (7 : Int) ≠ 0)), e]; rfl
set_option maxRecDepth 100000 in
set_option maxHeartbeats 1000000 in
theorem rget49 (v : Value) (ws : List Int) (a : Int) (w : World) (hv : WAt w v ws) (hm : ws.length ≤ 9223372036854775807) :
    Calls Try.prog 49 #[v, .int .i64 a] w fun e w' => e = .returned (.tuple #[.int .u64 (getF ws a).1, .int .i64 (getF ws a).2]) ∧ w = w' := by
  have C := Lib.hid (rcheck43 v ws w hv hm)
  obtain ⟨A, cap, rfl, hA⟩ := hv
  by_cases hc : chkF ws = 0
  rotate_left
  · have T := Lib.hid (show getF ws a = (0, chkF ws) by unfold getF; rw [if_pos hc])
    have q1 : (chkF ws == 0) = false := by simpa using hc
    have q2 : (chkF ws != 0) = true := by simpa using hc
    clear hc hA
    generalize chkF ws = c at *
    go_enter Try.func49, Try.ntmps49
    go_wp2_with (go_at_call 43; refine C.out.mono ?_; rintro e w' ⟨rfl, rfl⟩)
    exact bodyPost_ret (v := .tuple #[.int .u64 0, .int .i64 c]) (by simp [results, Try.f49, go_sem]) rfl ⟨by rw [T.out], rfl⟩
  · have hl : 1 ≤ ws.length ∧ ws.length ≤ 1601 := by
      apply Classical.byContradiction
      intro hn
      rw [chk_long (by omega)] at hc
      cases hc
    rw [hc] at C
    have P := Lib.hid (rpart61 A ws.length cap a 1 w (by omega))
    cases hp : partB ws.length a 1 with
    | false =>
      have T := Lib.hid (show getF ws a = (0, 7) by unfold getF; rw [if_neg (by simp [hc]), hp]; rfl)
      rw [hp] at P
      clear hc hp hA
      go_enter Try.func49, Try.ntmps49
      go_wp2_with (first
        | (go_at_call 43; refine C.out.mono ?_; rintro e w' ⟨rfl, rfl⟩)
        | (go_at_call 61; refine P.out.mono ?_; rintro e w' ⟨rfl, rfl⟩))
      exact bodyPost_ret (v := .tuple #[.int .u64 0, .int .i64 7]) (by simp [results, Try.f49, go_sem]) rfl ⟨by rw [T.out], rfl⟩
    | true =>
      obtain ⟨p1, p2, p3, p4⟩ := partB_spec.1 hp
      obtain ⟨k, rfl⟩ : ∃ k : Nat, a = (k : Int) := ⟨a.toNat, by omega⟩
      have hk : (k : Int) < (ws.length : Int) := by omega
      have hk0 : (0 : Int) ≤ (k : Int) := by omega
      have T := Lib.hid (show getF ws k = (ws.getD k 0, 0) by unfold getF; rw [if_neg (by simp [hc]), hp]; rfl)
      rw [hp] at P
      obtain ⟨b0, off, rfl, hcell⟩ := hA (by omega)
      have d := hcell _ _ (wc_get ws k (by omega))
      clear hc hp hA hcell p1 p2 p3 p4
      generalize ws.getD k 0 = z at *
      go_enter Try.func49, Try.ntmps49
      go_wp2_with (first
        | (go_at_call 43; refine C.out.mono ?_; rintro e w' ⟨rfl, rfl⟩)
        | (go_at_call 61; refine P.out.mono ?_; rintro e w' ⟨rfl, rfl⟩))
      exact bodyPost_ret (v := .tuple #[.int .u64 z, .int .i64 0]) (by simp [results, Try.f49, go_sem]) rfl ⟨by rw [T.out], rfl⟩
set_option maxRecDepth 100000 in
set_option maxHeartbeats 1000000 in
theorem rset47 (v : Value) (ws : List Int) (a z : Int) (w : World) (hv : WAt w v ws) (hm : ws.length ≤ 9223372036854775807) :
    Calls Try.prog 47 #[v, .int .i64 a, .int .u64 z] w fun e w' => CAns w (setF ws a z) e w' := by
  have C := Lib.hid (rcheck43 v ws w hv hm)
  have HV := Lib.hid hv
  obtain ⟨A, cap, rfl, -⟩ := hv
  by_cases hc : chkF ws = 0
  rotate_left
  · have T := Lib.hid (show setF ws a z = ([], chkF ws) by unfold setF; rw [if_pos hc])
    have q1 : (chkF ws == 0) = false := by simpa using hc
    have q2 : (chkF ws != 0) = true := by simpa using hc
    clear hc
    generalize chkF ws = c at *
    go_enter Try.func47, Try.ntmps47
    go_wp2_with (go_at_call 43; refine C.out.mono ?_; rintro e w' ⟨rfl, rfl⟩)
    exact bodyPost_ret (v := .tuple #[.slice none 0 0, .int .i64 c]) (by simp [results, Try.f47, go_sem]) rfl ⟨.slice none 0 0, by rw [T.out], by rw [T.out]; exact World.ownsRow_nil _ _ _ _, Below.refl _ _⟩
  · have hl : 1 ≤ ws.length ∧ ws.length ≤ 1601 := by
      apply Classical.byContradiction
      intro hn
      rw [chk_long (by omega)] at hc
      cases hc
    rw [hc] at C
    have P := Lib.hid (rpart61 A ws.length cap a 1 w (by omega))
    cases hp : partB ws.length a 1 with
    | false =>
      have T := Lib.hid (show setF ws a z = ([], 7) by unfold setF; rw [if_neg (by simp [hc]), if_neg (by simp [hp])])
      rw [hp] at P
      clear hc hp
      go_enter Try.func47, Try.ntmps47
      go_wp2_with (first
        | (go_at_call 43; refine C.out.mono ?_; rintro e w' ⟨rfl, rfl⟩)
        | (go_at_call 61; refine P.out.mono ?_; rintro e w' ⟨rfl, rfl⟩))
      exact bodyPost_ret (v := .tuple #[.slice none 0 0, .int .i64 7]) (by simp [results, Try.f47, go_sem]) rfl ⟨.slice none 0 0, by rw [T.out], by rw [T.out]; exact World.ownsRow_nil _ _ _ _, Below.refl _ _⟩
    | true =>
      obtain ⟨p1, p2, p3, p4⟩ := partB_spec.1 hp
      obtain ⟨k, rfl⟩ : ∃ k : Nat, a = (k : Int) := ⟨a.toNat, by omega⟩
      have hk : (k : Int) < (ws.length : Int) := by omega
      have hk0 : (0 : Int) ≤ (k : Int) := by omega
      have hkn : k < ws.length := by omega
      have T := Lib.hid (show setF ws k z = (ws.set k z, 0) by unfold setF; rw [if_neg (by simp [hc]), if_pos hp]; rfl)
      rw [hp] at P
      have ER := Lib.hid (empty_words (Below.refl w.heap.size w))
      have EB := Lib.hid (alloc_below w (.cells #[] 42))
      have hl2 := hl.2
      have hl1 := hl.1
      clear hc hp p1 p2 p3 p4
      go_enter Try.func47, Try.ntmps47
      go_wp2_with (first
        | (go_at_call 43; refine C.out.mono ?_; rintro e w' ⟨rfl, rfl⟩)
        | (go_at_call 61; refine P.out.mono ?_; rintro e w' ⟨rfl, rfl⟩)
        | (at_builtin; refine push_words ER.out EB.out HV.out (by omega) rfl _ _ rfl rfl rfl (by simp; omega) ?_; intro g cap2 W1 ho1 hb1; have HO1 := Lib.hid (show W1.ownsRow w.heap.size 42 1 (.slice (some ⟨g, 0, none⟩) (0 + ws.length) cap2) (0 + ws.length) (wc ws) from by simpa using ho1); have HB1 := Lib.hid hb1; clear ho1 hb1; obtain ⟨x1, f1⟩ := row_cell HO1.out (by simp) (k := k) (by omega); have NX := Lib.hid (row_put HO1.out HB1.out k z)))
      have NY := Lib.hid (show (W1.setCell ⟨g, k, none⟩ (.int .u64 z)).ownsRow w.heap.size 42 1 (.slice (some ⟨g, 0, none⟩) ws.length cap2) ws.length (wc (ws.set k z)) by simpa using NX.out.1)
      exact bodyPost_ret (v := .tuple #[.slice (some ⟨g, 0, none⟩) ws.length cap2, .int .i64 0]) (by simp [results, Try.f47, go_sem]) rfl ⟨_, by rw [T.out], by rw [T.out, List.length_set]; exact NY.out, NX.out.2⟩
end Ytmgoonahpndfoaa
end Go.Proofs
