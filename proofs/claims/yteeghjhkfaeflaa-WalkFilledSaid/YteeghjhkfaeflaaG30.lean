/- The reference's Check and Objects. -/
import Derived.Test.YteeghjhkfaeflaaG29
namespace Go.Proofs
namespace Yteeghjhkfaeflaa
open Go.RowKit

theorem errs_zero (xs : List Int) : errsF (fun _ => 0) xs = 0 := by
  unfold errsF
  induction xs with
  | nil => rfl
  | cons x xs ih => simpa [firE] using ih
theorem fir_zero (x : Int) : firE x 0 = x := by
  unfold firE
  split
  · rename_i h; exact h.symm
  · rfl
theorem flat_self (xs : List Int) : xs.flatMap (fun x => [x]) = xs := by
  induction xs with
  | nil => rfl
  | cons x xs ih => simp [ih]
theorem objs_eq (ws : List Int) (f t : Int) : objsF ws f t = if (wcF ws f t).2 = 0 then (visL ws f t, 0) else ([], (wcF ws f t).2) := by
  unfold objsF colF
  rw [errs_zero, fir_zero, flat_self]
theorem wc_zero {ws : List Int} {f t : Int} (h : (wcF ws f t).2 = 0) : strF ws f t = 0 ∧ (wlk ws f t).2 = none ∧ visL ws f t = (wlk ws f t).1 ∧ wcF ws f t = (0, 0) := by
  by_cases hs : strF ws f t = 0
  · have e : wcF ws f t = gapE (wlk ws f t).2 := by unfold wcF; rw [if_pos hs]
    rw [e] at h ⊢
    have e2 : visL ws f t = (wlk ws f t).1 := by unfold visL; rw [if_pos hs]
    cases hg : (wlk ws f t).2 with
    | none => exact ⟨hs, rfl, e2, rfl⟩
    | some a => rw [hg] at h; cases h
  · have e : wcF ws f t = (0, strF ws f t) := by unfold wcF; rw [if_neg hs]
    rw [e] at h; exact absurd h hs
theorem wc_bad {ws : List Int} {f t : Int} (h : (wcF ws f t).2 ≠ 0) : (objsF ws f t) = ([], (wcF ws f t).2) := by rw [objs_eq, if_neg h]
set_option maxRecDepth 100000 in
set_option maxHeartbeats 400000 in
theorem rstretch38 (v : Value) (ws : List Int) (f t : Int) (w : World) (h : Ar w v ws) :
    Calls Try.prog 38 #[v, .int .i64 f, .int .i64 t] w fun e w' => e = .returned (.int .i64 (strF ws f t)) ∧ w = w' := by
  have hm := h.len
  have C := Lib.hid (rcheck43 v ws w h.at_ hm)
  obtain ⟨A, cap, rfl, h1, h2⟩ := h.open
  clear h h1
  by_cases hc : chkF ws = 0
  rotate_left
  · have e1 : strF ws f t = chkF ws := by unfold strF; rw [if_pos hc]
    rw [e1]
    generalize chkF ws = c at *
    have q : (c == 0) = false := by simpa using hc
    clear hc e1
    go_enter Try.func38, Try.ntmps38
    go_wp2_with (go_at_call 57; refine C.out.mono ?_; rintro e w1 ⟨rfl, rfl⟩)
    go_ret
    exact ⟨rfl, rfl⟩
  rw [hc] at C
  by_cases h3 : f < 1
  · have e1 : strF ws f t = 7 := by unfold strF; rw [if_neg (by simp [hc]), if_pos (by omega)]
    rw [e1]
    have q : decide (f < 1) = true := decide_eq_true h3
    clear hc e1
    go_enter Try.func38, Try.ntmps38
    go_wp2_with (go_at_call 57; refine C.out.mono ?_; rintro e w1 ⟨rfl, rfl⟩)
    go_ret
    exact ⟨rfl, rfl⟩
  have q : decide (f < 1) = false := decide_eq_false h3
  by_cases h4 : t < f
  · have e1 : strF ws f t = 7 := by unfold strF; rw [if_neg (by simp [hc]), if_pos (by omega)]
    rw [e1]
    have q2 : decide (t < f) = true := decide_eq_true h4
    clear hc e1
    go_enter Try.func38, Try.ntmps38
    go_wp2_with (go_at_call 57; refine C.out.mono ?_; rintro e w1 ⟨rfl, rfl⟩)
    go_ret
    exact ⟨rfl, rfl⟩
  have q2 : decide (t < f) = false := decide_eq_false h4
  by_cases h5 : (ws.length : Int) < t
  · have e1 : strF ws f t = 7 := by unfold strF; rw [if_neg (by simp [hc]), if_pos (by omega)]
    rw [e1]
    have q3 : decide ((ws.length : Int) < t) = true := decide_eq_true h5
    clear hc e1
    go_enter Try.func38, Try.ntmps38
    go_wp2_with (go_at_call 57; refine C.out.mono ?_; rintro e w1 ⟨rfl, rfl⟩)
    go_ret
    exact ⟨rfl, rfl⟩
  · have e1 : strF ws f t = 0 := by unfold strF; rw [if_neg (by simp [hc]), if_neg (by omega)]
    rw [e1]
    have q3 : decide ((ws.length : Int) < t) = false := decide_eq_false h5
    clear hc e1
    go_enter Try.func38, Try.ntmps38
    go_wp2_with (go_at_call 57; refine C.out.mono ?_; rintro e w1 ⟨rfl, rfl⟩)
    go_ret
    exact ⟨rfl, rfl⟩
set_option maxRecDepth 100000 in
set_option maxHeartbeats 1000000 in
theorem rwcheck14 (v : Value) (ws : List Int) (f t : Int) (w : World) (h : Ar w v ws) :
    Calls Try.prog 14 #[v, .int .i64 f, .int .i64 t] w fun e w' => e = .returned (.tuple #[.int .i64 (wcF ws f t).1, .int .i64 (wcF ws f t).2]) ∧ Below w.heap.size w w' := by
  have S := Lib.hid (rstretch38 v ws f t w h)
  have HA := Lib.hid h
  have Z := Lib.hid (fun (a : Int) W (hb : Below w.heap.size w W) => rsize18 v ws a W (h.below hb))
  obtain ⟨A, cap, rfl, -, -⟩ := h.open
  clear h
  by_cases hs : strF ws f t = 0
  rotate_left
  · have e1 : wcF ws f t = (0, strF ws f t) := by unfold wcF; rw [if_neg hs]
    rw [e1]
    generalize strF ws f t = c at *
    have q : (c != 0) = true := by simpa using hs
    clear hs e1
    go_enter Try.func14, Try.ntmps14
    go_wp2_with (go_at_call 38; refine S.out.mono ?_; rintro e w1 ⟨rfl, rfl⟩)
    exact bodyPost_ret (v := .tuple #[.int .i64 0, .int .i64 c]) (by simp [results, Try.f14, go_sem]) rfl ⟨rfl, Below.refl _ _⟩
  have e1 : wcF ws f t = gapE (goW ws t ((t - f).toNat + 1) f).2 := by unfold wcF; rw [if_pos hs]; rfl
  rw [e1]
  obtain ⟨-, s1, s2, s3, s4⟩ := str_ok hs
  rw [hs] at S
  obtain ⟨g, hg⟩ : ∃ g, (goW ws t ((t - f).toNat + 1) f).2 = g := ⟨_, rfl⟩
  rw [hg]
  have HG := Lib.hid hg
  clear e1 hs hg
  go_enter Try.func14, Try.ntmps14
  go_upto_region 5 with (go_at_call 38; refine S.out.mono ?_; rintro e w1 ⟨rfl, rfl⟩)
  go_loopw [9] (fun q wr => ∃ (a : Int) (k : Nat), q = .int .i64 a ∧ Hid ((goW ws t k a).2 = g) ∧ (t - a).toNat < k ∧ 1 ≤ a ∧ a ≤ t ∧ Hid (Below w.heap.size w wr)) (fun q _ => (t - intOf q).toNat)
  case atStart => exact ⟨f, _, rfl, HG, by omega, by omega, by omega, Lib.hid (Below.refl _ _)⟩
  case round =>
    obtain ⟨a, k, rfl, T, hk, ha1, hat, hB⟩ := hrel
    obtain ⟨k, rfl⟩ : ∃ i, k = i + 1 := ⟨k - 1, by omega⟩
    by_cases hlt : a < t
    rotate_left
    · have q : decide (a < t) = false := decide_eq_false hlt
      have T2 := T.out
      rw [goW_stop _ hlt] at T2
      subst T2
      go_wp2
      exact bodyPost_ret (v := .tuple #[.int .i64 0, .int .i64 0]) (by simp [results, Try.f14, go_sem]) rfl ⟨rfl, hB.out⟩
    have q : decide (a < t) = true := decide_eq_true hlt
    have ZS := Lib.hid (Z.out a wr hB.out)
    obtain ⟨z0, z1⟩ := siz_small ws a
    have esub : IntKind.i64.wrap (t - a) = t - a := IntWalk.i64_in _ (by omega)
    by_cases hgap : (sizF ws a).2 ≠ 0 ∨ t - a < (sizF ws a).1
    · have T2 := T.out
      rw [goW_gap k hlt hgap] at T2
      subst T2
      clear T HG
      generalize sizF ws a = z at *
      obtain ⟨m, c⟩ := z
      dsimp only at *
      by_cases hc : c = 0
      · subst hc
        have q2 : decide (t - a < m) = true := decide_eq_true (by omega)
        clear hgap
        go_wp2_with (go_at_call 39; refine ZS.out.mono ?_; rintro e w1 ⟨rfl, hb1⟩)
        exact bodyPost_ret (v := .tuple #[.int .i64 a, .int .i64 6]) (by simp [results, Try.f14, go_sem]) rfl ⟨rfl, below_end hB.out hb1⟩
      · have q3 : (c != 0) = true := by simpa using hc
        clear hgap hc
        go_wp2_with (go_at_call 39; refine ZS.out.mono ?_; rintro e w1 ⟨rfl, hb1⟩)
        exact bodyPost_ret (v := .tuple #[.int .i64 a, .int .i64 6]) (by simp [results, Try.f14, go_sem]) rfl ⟨rfl, below_end hB.out hb1⟩
    · have T2 := T.out
      rw [goW_step k hlt hgap] at T2
      have hc : (sizF ws a).2 = 0 := Classical.byContradiction fun hn => hgap (.inl hn)
      have hz := siz_ok hc
      have eadd : IntKind.i64.wrap (a + (sizF ws a).1) = a + (sizF ws a).1 := IntWalk.i64_in _ (by omega)
      have hm : ¬ t - a < (sizF ws a).1 := fun h => hgap (.inr h)
      have TN := Lib.hid T2
      clear T2 T hgap
      dsimp only at TN
      generalize sizF ws a = z at *
      obtain ⟨m, c⟩ := z
      dsimp only at *
      subst hc
      have q2 : decide (t - a < m) = false := decide_eq_false (by omega)
      go_wp2_with (go_at_call 39; refine ZS.out.mono ?_; rintro e w1 ⟨rfl, hb1⟩)
      refine ⟨⟨a + m, k, rfl, TN, by omega, by omega, by omega, Lib.hid (below_end hB.out hb1)⟩, ?_⟩
      simp only [intOf]
      omega
set_option maxRecDepth 100000 in
set_option maxHeartbeats 1000000 in
theorem robjs16 (v : Value) (ws : List Int) (f t : Int) (w : World) (h : Ar w v ws) :
    Calls Try.prog 16 #[v, .int .i64 f, .int .i64 t] w fun e w' => IAns w (objsF ws f t) e w' := by
  have S := Lib.hid (rwcheck14 v ws f t w h)
  have Z := Lib.hid (fun (a : Int) W (hb : Below w.heap.size w W) => rsize18 v ws a W (h.below hb))
  obtain ⟨A, cap, rfl, -, -⟩ := h.open
  clear h
  unfold IAns
  by_cases hs : (wcF ws f t).2 = 0
  rotate_left
  · rw [wc_bad hs]
    generalize wcF ws f t = c at *
    obtain ⟨c1, c2⟩ := c
    dsimp only at *
    have q : (c2 != 0) = true := by simpa using hs
    clear hs
    go_enter Try.func16, Try.ntmps16
    go_wp2_with (go_at_call 14; refine S.out.mono ?_; rintro e w1 ⟨rfl, hb1⟩)
    exact bodyPost_ret (v := .tuple #[.slice none 0 0, .int .i64 c2]) (by simp [results, Try.f16, go_sem]) rfl ⟨_, rfl, World.ownsRow_nil _ _ _ _, hb1⟩
  obtain ⟨h1, h2, h3, h4⟩ := wc_zero hs
  rw [objs_eq, if_pos hs, h3]
  rw [h4] at S
  obtain ⟨-, s1, s2, s3, s4⟩ := str_ok h1
  obtain ⟨xs, hx⟩ : ∃ xs, (wlk ws f t).1 = xs := ⟨_, rfl⟩
  have HX := Lib.hid (show xs = [] ++ (goW ws t ((t - f).toNat + 1) f).1 ∧ (goW ws t ((t - f).toNat + 1) f).2 = none from ⟨hx.symm, h2⟩)
  have hlen : xs.length ≤ 1601 := by rw [← hx, ← h3]; exact vis_len ws f t
  rw [hx]
  clear hx h1 h2 h3 h4 hs
  dsimp only at *
  go_enter Try.func16, Try.ntmps16
  go_upto_region 6 with (go_at_call 14; refine S.out.mono ?_; rintro e w1 ⟨rfl, hb1⟩)
  have B1 := Lib.hid hb1
  clear hb1
  go_loopw [10, 11] (fun l q wr => ∃ (a : Int) (k : Nat) (pre : List Int), q = .int .i64 a ∧ Hid (xs = pre ++ (goW ws t k a).1 ∧ (goW ws t k a).2 = none) ∧ (t - a).toNat < k ∧ 1 ≤ a ∧ a ≤ t ∧ Hid (wr.ownsRow w1.heap.size 3 1 l pre.length (ic pre)) ∧ Hid (Below w1.heap.size w1 wr)) (fun _ q _ => (t - intOf q).toNat)
  case atStart => exact ⟨f, _, [], rfl, HX, by omega, by omega, by omega, Lib.hid (World.ownsRow_nil _ _ _ _), Lib.hid (Below.refl _ _)⟩
  case round =>
    obtain ⟨a, k, pre, rfl, T, hk, ha1, hat, hown, hB⟩ := hrel
    obtain ⟨k, rfl⟩ : ∃ i, k = i + 1 := ⟨k - 1, by omega⟩
    by_cases hlt : a < t
    rotate_left
    · have q : decide (a < t) = false := decide_eq_false hlt
      have T2 := T.out
      rw [goW_stop _ hlt, List.append_nil] at T2
      obtain ⟨T2, -⟩ := T2
      subst T2
      obtain ⟨A', c', rfl⟩ := own_form hown.out
      go_wp2
      exact bodyPost_ret (v := .tuple #[.slice A' xs.length c', .int .i64 0]) (by simp [results, Try.f16, go_sem]) rfl ⟨_, rfl, own_mono hown.out B1.out.size, below_end B1.out hB.out⟩
    have q : decide (a < t) = true := decide_eq_true hlt
    have ZS := Lib.hid (Z.out a wr (below_end B1.out hB.out))
    obtain ⟨z0, z1⟩ := siz_small ws a
    by_cases hgap : (sizF ws a).2 ≠ 0 ∨ t - a < (sizF ws a).1
    · have T2 := T.out
      rw [goW_gap k hlt hgap] at T2
      exact absurd T2.2 (by simp)
    · have T2 := T.out
      rw [goW_step k hlt hgap] at T2
      have hc : (sizF ws a).2 = 0 := Classical.byContradiction fun hn => hgap (.inl hn)
      have hz := siz_ok hc
      have eadd : IntKind.i64.wrap (a + (sizF ws a).1) = a + (sizF ws a).1 := IntWalk.i64_in _ (by omega)
      have hm : ¬ t - a < (sizF ws a).1 := fun h => hgap (.inr h)
      have hpl : pre.length + 1 ≤ 1000000 := by have := congrArg List.length T2.1; simp at this; omega
      have TN := Lib.hid (show xs = (pre ++ [a]) ++ (goW ws t k (a + (sizF ws a).1)).1 ∧ (goW ws t k (a + (sizF ws a).1)).2 = none from ⟨by rw [T2.1]; simp, T2.2⟩)
      clear T2 T hgap
      generalize sizF ws a = z at *
      obtain ⟨m, c⟩ := z
      dsimp only at *
      subst hc
      go_wp2_with (first
        | (go_at_call 39; refine ZS.out.mono ?_; rintro e w2 ⟨rfl, hb2⟩; have hB2 := Lib.hid (below_end hB.out hb2); have hO2 := Lib.hid (own_below hown.out hb2))
        | (at_builtin; refine push_int hO2.out hB2.out a rfl _ _ rfl rfl w2.heap.size rfl rfl rfl hpl ?_; intro v5 W5 ho5 hb5 hs5))
      refine ⟨⟨a + m, k, pre ++ [a], rfl, TN, by omega, by omega, by omega, Lib.hid ho5, Lib.hid hb5⟩, ?_⟩
      simp only [intOf]
      omega
end Yteeghjhkfaeflaa
end Go.Proofs
