/- Plain facts on walks; the reference's Find and Count. -/
import Derived.Test.YteeghjhkfaeflaaG30
import Derived.StillTailTactics
namespace Go.Proofs
namespace Yteeghjhkfaeflaa
open Go.RowKit

theorem siz_err (ws : List Int) (x : Int) : (sizF ws x).2 = (objF ws x).2.2 := by
  unfold sizF
  split
  · rename_i h; exact h.symm
  · rfl
theorem slt_err (ws : List Int) (x : Int) : (sltF ws x).2 = (objF ws x).2.2 := by
  unfold sltF
  split
  · rename_i h; exact h.symm
  · rfl
theorem goW_obj {ws : List Int} {top : Int} : ∀ (k : Nat) (a : Int), ∀ x ∈ (goW ws top k a).1, (objF ws x).2.2 = 0 ∧ a ≤ x ∧ x + (sizF ws x).1 ≤ top ∧ 1 ≤ (sizF ws x).1
  | 0, _ => by simp [goW]
  | k + 1, a => by
    by_cases ha : a < top
    · by_cases h2 : (sizF ws a).2 ≠ 0 ∨ top - a < (sizF ws a).1
      · rw [goW_gap k ha h2]; simp
      · rw [goW_step k ha h2]
        have h3 : (sizF ws a).2 = 0 := Classical.byContradiction fun hn => h2 (.inl hn)
        have h4 : ¬ top - a < (sizF ws a).1 := fun h => h2 (.inr h)
        have h5 := siz_ok h3
        intro x hx
        rcases List.mem_cons.1 hx with rfl | hx
        · rw [siz_err] at h3; exact ⟨h3, Int.le_refl _, by omega, h5.2.1⟩
        · obtain ⟨g1, g2, g3, g4⟩ := goW_obj k _ x hx
          exact ⟨g1, by omega, g3, g4⟩
    · rw [goW_stop _ ha]; simp
theorem vis_obj {ws : List Int} {f t : Int} : ∀ x ∈ visL ws f t, (objF ws x).2.2 = 0 ∧ f ≤ x ∧ x + (sizF ws x).1 ≤ t ∧ 1 ≤ (sizF ws x).1 := by
  intro x hx
  unfold visL at hx
  split at hx
  · exact goW_obj _ _ x hx
  · cases hx
theorem errs_all {fe : Int → Int} {xs : List Int} (h : ∀ x ∈ xs, fe x = 0) : errsF fe xs = 0 := by
  unfold errsF
  have : ∀ (xs : List Int) (e : Int), (∀ x ∈ xs, fe x = 0) → xs.foldl (fun e x => firE e (fe x)) e = e := by
    intro xs
    induction xs with
    | nil => intro e _; rfl
    | cons x xs ih =>
      intro e h
      rw [List.foldl_cons, h x (by simp), fir_zero]
      exact ih e (fun y hy => h y (by simp [hy]))
  exact this xs 0 h
theorem col_bad {α : Type} (fl : Int → List α) (fe : Int → Int) {ws : List Int} {f t : Int} (h : (wcF ws f t).2 ≠ 0) : colF fl fe ws f t = ([], (wcF ws f t).2) := by
  have e : firE (wcF ws f t).2 (errsF fe (visL ws f t)) = (wcF ws f t).2 := by unfold firE; rw [if_neg h]
  unfold colF
  rw [e, if_neg h]
theorem col_ok {α : Type} (fl : Int → List α) (fe : Int → Int) {ws : List Int} {f t : Int} (h : (wcF ws f t).2 = 0) : colF fl fe ws f t = if errsF fe (visL ws f t) = 0 then ((visL ws f t).flatMap fl, 0) else ([], errsF fe (visL ws f t)) := by
  have e : firE (wcF ws f t).2 (errsF fe (visL ws f t)) = errsF fe (visL ws f t) := by unfold firE; rw [if_pos h]
  unfold colF
  rw [e]
def pairO (ws : List Int) (x : Int) : Int × Int := ((objF ws x).1, (objF ws x).2.1)
theorem flat_one {α : Type} (g : Int → α) (xs : List Int) : xs.flatMap (fun x => [g x]) = xs.map g := by
  induction xs with
  | nil => rfl
  | cons x xs ih => simp [ih]
theorem shps_ok {ws : List Int} {f t : Int} (h : (wcF ws f t).2 = 0) : shpsF ws f t = ((visL ws f t).map (pairO ws), 0) := by
  unfold shpsF
  rw [col_ok _ _ h, if_pos (errs_all (fun x hx => (vis_obj x hx).1))]
  rw [show shpL ws = fun x => [pairO ws x] from rfl, flat_one]
/-- the reference's Find -/
def rfndF (ws : List Int) (a : Int) : List Int → Int × Int
  | [] => (0, 4)
  | x :: l => if x ≤ a ∧ a < x + (sizF ws x).1 then (x, 0) else rfndF ws a l
theorem foldl_above {a : Int} : ∀ (l : List Int) (acc : Int), (∀ x ∈ l, a < x) → l.foldl (fun acc o => if o ≤ a then o else acc) acc = acc
  | [], _, _ => rfl
  | x :: l, acc, h => by
    rw [List.foldl_cons, if_neg (by have := h x (by simp); omega)]
    exact foldl_above l acc (fun y hy => h y (by simp [hy]))
theorem rfnd_above {ws : List Int} {a : Int} : ∀ (l : List Int), (∀ x ∈ l, a < x) → rfndF ws a l = (0, 4)
  | [], _ => rfl
  | x :: l, h => by
    rw [rfndF, if_neg (by have := h x (by simp); omega)]
    exact rfnd_above l (fun y hy => h y (by simp [hy]))
theorem rfnd_beyond {ws : List Int} {a t : Int} (ht : t ≤ a) : ∀ (l : List Int), (∀ x ∈ l, x + (sizF ws x).1 ≤ t) → rfndF ws a l = (0, 4)
  | [], _ => rfl
  | x :: l, h => by
    rw [rfndF, if_neg (by have := h x (by simp); omega)]
    exact rfnd_beyond ht l (fun y hy => h y (by simp [hy]))
theorem rfnd_in {ws : List Int} {t a : Int} : ∀ (k : Nat) (x acc : Int), (t - x).toNat < k → (goW ws t k x).2 = none → x ≤ a → a < t →
    rfndF ws a (goW ws t k x).1 = ((goW ws t k x).1.foldl (fun acc o => if o ≤ a then o else acc) acc, 0)
  | 0, _, _, h, _, _, _ => by omega
  | k + 1, x, acc, hk, hn, hxa, hat => by
    have hlt : x < t := by omega
    by_cases h2 : (sizF ws x).2 ≠ 0 ∨ t - x < (sizF ws x).1
    · rw [goW_gap k hlt h2] at hn; cases hn
    · rw [goW_step k hlt h2] at hn ⊢
      have h3 : (sizF ws x).2 = 0 := Classical.byContradiction fun hn => h2 (.inl hn)
      have h5 := siz_ok h3
      dsimp only at *
      rw [rfndF, List.foldl_cons, if_pos hxa]
      by_cases ha : a < x + (sizF ws x).1
      · rw [if_pos ⟨hxa, ha⟩, foldl_above _ _ (fun y hy => by have := (goW_obj k _ y hy).2.1; omega)]
      · rw [if_neg (by omega)]
        exact rfnd_in k _ x (by omega) hn (by omega) hat
theorem find_eq {ws : List Int} {f t : Int} (h : (wcF ws f t).2 = 0) (a : Int) : findF ws f t a = rfndF ws a (visL ws f t) := by
  obtain ⟨h1, h2, h3, -⟩ := wc_zero h
  unfold findF
  rw [objs_eq, if_pos h, if_neg (by simp)]
  by_cases hf : a < f
  · rw [if_pos (.inl hf), rfnd_above _ (fun x hx => by have := (vis_obj x hx).2.1; omega)]
  · by_cases ht : t ≤ a
    · rw [if_pos (.inr ht), rfnd_beyond ht _ (fun x hx => (vis_obj x hx).2.2.1)]
    · rw [if_neg (by omega), h3]
      unfold wlk at h2 ⊢
      rw [rfnd_in _ _ 0 (by omega) h2 (by omega) (by omega)]
      rfl
theorem find_bad {ws : List Int} {f t : Int} (h : (wcF ws f t).2 ≠ 0) (a : Int) : findF ws f t a = (0, (wcF ws f t).2) := by
  unfold findF
  rw [wc_bad h, if_pos h]
set_option maxRecDepth 100000 in
set_option maxHeartbeats 1000000 in
theorem rfind19 (v : Value) (ws : List Int) (f t a : Int) (w : World) (h : Ar w v ws) :
    Calls Try.prog 19 #[v, .int .i64 f, .int .i64 t, .int .i64 a] w fun e w' => e = .returned (.tuple #[.int .i64 (findF ws f t a).1, .int .i64 (findF ws f t a).2]) ∧ Below w.heap.size w w' := by
  have E := Lib.hid ((robjs16 v ws f t w h).mono fun e w' h => h.own2)
  have Z := Lib.hid (fun (a : Int) W (hb : Below w.heap.size w W) => rsize18 v ws a W (h.below hb))
  have hlen := objs_len ws f t
  obtain ⟨Av, cv, rfl, -, -⟩ := h.open
  clear h
  by_cases hs : (wcF ws f t).2 = 0
  rotate_left
  · rw [find_bad hs]
    rw [wc_bad hs] at E
    generalize wcF ws f t = c at *
    obtain ⟨c1, c2⟩ := c
    dsimp only at *
    have q : (c2 != 0) = true := by simpa using hs
    clear hs hlen
    go_enter Try.func19, Try.ntmps19
    go_wp2_with (go_at_call 16; refine E.out.mono ?_; rintro e w1 ⟨u, rfl, hx, hb⟩; have HB := Lib.hid hb; clear hb)
    exact bodyPost_ret (v := .tuple #[.int .i64 0, .int .i64 c2]) (by simp [results, Try.f19, go_sem]) rfl ⟨rfl, HB.out⟩
  rw [find_eq hs]
  rw [objs_eq, if_pos hs] at E hlen
  have hvo := Lib.hid (fun x hx => vis_obj (ws := ws) (f := f) (t := t) x hx)
  obtain ⟨hs0, -, -, -⟩ := wc_zero hs
  obtain ⟨-, s1, s2, s3, s4⟩ := str_ok hs0
  clear hs hs0
  dsimp only at *
  generalize visL ws f t = l at *
  obtain ⟨m, hm⟩ : ∃ m, l.length = m := ⟨_, rfl⟩
  have HM := Lib.hid hm
  rw [hm] at hlen
  clear hm
  have HR := Lib.hid (show rfndF ws a l = rfndF ws a (l.drop 0) from rfl)
  generalize hR : rfndF ws a l = R at *
  clear hR
  go_enter Try.func19, Try.ntmps19
  go_upto_region 5 with (go_at_call 16; refine E.out.mono ?_; rintro e w1 ⟨u, rfl, hx, hb⟩; have HB := Lib.hid hb; clear hb; obtain ⟨A, cp, rfl, hc⟩ := hx.out; have HA := Lib.hid hc; clear hc hx)
  rw [HM.out]
  go_loopw [12] (fun i wr => ∃ j : Nat, j ≤ m ∧ i = .int .i64 j ∧ Hid (R = rfndF ws a (l.drop j)) ∧ Hid (Below w1.heap.size w1 wr)) (fun i _ => m - (intOf i).toNat)
  case atStart => exact ⟨0, by omega, rfl, HR, Lib.hid (Below.refl _ _)⟩
  case round =>
    obtain ⟨j, hj, rfl, T, hB⟩ := hrel
    by_cases hlt : j < m
    · have hlt' : (j : Int) < (m : Int) := by omega
      have hjl : j < l.length := by rw [HM.out]; exact hlt
      obtain ⟨b1, o1, rfl, ca⟩ := HA.out (by omega)
      have ca' := Lib.hid (keep_cell hB.out (ca j _ (ic_get l j hjl)))
      have ad1 : (⟨b1, o1, none⟩ : Addr).add j = ⟨b1, o1 + j, none⟩ := by unfold Addr.add; split <;> simp_all
      have T2 := T.out
      rw [List.drop_eq_getElem_cons hjl] at T2
      have hg : l.getD j 0 = l[j] := by simp [List.getD_eq_getElem?_getD, hjl]
      have hv := hvo.out l[j] (List.getElem_mem hjl)
      rw [hg] at ca'
      generalize l[j] = x at *
      have ZX := Lib.hid (Z.out x wr (below_end HB.out hB.out))
      rw [siz_err, hv.1] at ZX
      have c0 := ca'.out
      rw [rfndF] at T2
      have hT2 := Lib.hid T2
      obtain ⟨-, hv1, hv2, hv3⟩ := hv
      generalize (sizF ws x).1 = n at *
      have eadd : IntKind.i64.wrap (x + n) = x + n := IntWalk.i64_in _ (by omega)
      clear T2 T ca hg ca'
      by_cases hx1 : x ≤ a
      rotate_left
      · have q1 : decide (x ≤ a) = false := decide_eq_false hx1
        have TN := hT2.out
        rw [if_neg (by omega)] at TN
        have HTN := Lib.hid TN
        clear TN hT2 hx1
        go_wp2_with (go_at_call 39; refine ZX.out.mono ?_; rintro e w2 ⟨rfl, hb2⟩; have c1 := keep_cell hb2 c0; have HB2 := Lib.hid (below_end hB.out hb2); clear hb2)
        refine ⟨⟨j + 1, by omega, by simp, HTN, HB2⟩, ?_⟩
        show m - ((j : Int) + 1).toNat < m - ((j : Int)).toNat
        omega
      have q1 : decide (x ≤ a) = true := decide_eq_true hx1
      by_cases hx2 : a < x + n
      · have q2 : decide (a < x + n) = true := decide_eq_true hx2
        have TN := hT2.out
        rw [if_pos ⟨hx1, hx2⟩] at TN
        have HTN := Lib.hid TN
        clear TN hT2 hx1 hx2
        go_wp2_with (go_at_call 39; refine ZX.out.mono ?_; rintro e w2 ⟨rfl, hb2⟩; have c1 := keep_cell hb2 c0; have HB2 := Lib.hid (below_end hB.out hb2); clear hb2)
        exact bodyPost_ret (v := .tuple #[.int .i64 x, .int .i64 0]) (by simp [results, Try.f19, go_sem]) rfl ⟨by rw [HTN.out], below_end HB.out HB2.out⟩
      · have q2 : decide (a < x + n) = false := decide_eq_false hx2
        have TN := hT2.out
        rw [if_neg (by omega)] at TN
        have HTN := Lib.hid TN
        clear TN hT2 hx1 hx2
        go_wp2_with (go_at_call 39; refine ZX.out.mono ?_; rintro e w2 ⟨rfl, hb2⟩; have c1 := keep_cell hb2 c0; have HB2 := Lib.hid (below_end hB.out hb2); clear hb2)
        refine ⟨⟨j + 1, by omega, by simp, HTN, HB2⟩, ?_⟩
        show m - ((j : Int) + 1).toNat < m - ((j : Int)).toNat
        omega
    · have ek : j = m := by omega
      have hlt' : ¬ (j : Int) < (m : Int) := by omega
      have ht : l.drop j = [] := List.drop_of_length_le (by rw [HM.out]; omega)
      have T2 := T.out
      rw [ht] at T2
      have HT := Lib.hid T2
      clear ek ht T2 T
      go_wp2
      exact bodyPost_ret (v := .tuple #[.int .i64 0, .int .i64 4]) (by simp [results, Try.f19, go_sem]) rfl ⟨by rw [HT.out]; rfl, below_end HB.out hB.out⟩
end Yteeghjhkfaeflaa
end Go.Proofs
