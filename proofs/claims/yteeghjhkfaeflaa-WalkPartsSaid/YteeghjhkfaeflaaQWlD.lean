/- The law WalkParts answers true. -/
import Derived.Test.YteeghjhkfaeflaaQWlD0
namespace Go.Proofs
namespace Yteeghjhkfaeflaa
open Go.RowKit

theorem same_lst (xs : List Int) (v1 v2 : Value) (W : World) (hm : xs.length ≤ 1000000) (h1 : IAt W v1 xs) (h2 : IAt W v2 xs) : Calls Try.prog 17 #[v1, v2] W fun e w' => e = .returned (.bool true) ∧ Below W.heap.size W w' := I21 xs v1 v2 W hm h1 h2
theorem IAt.x {W : World} {v : Value} {zs : List Int} (h : IAt W v zs) : XAt W v zs.length (ic zs) := h
/-- two rows behind one another in memory of their own -/
theorem app_two {t e sz bytes m n : Nat} {z u1 u2 : Value} {c1 c2 : List Value} {W : World} (ht : Try.prog.underlying t = some (.slice e)) (hif : (Try.prog.info? e).map (fun i => (i.zero, i.size, i.bytes)) = some (some z, sz, bytes)) (hzs : z.cells.size = sz)
    (hu1 : XAt W u1 m c1) (hu2 : XAt W u2 n c2) (hl1 : c1.length = m * sz) (hl2 : c2.length = n * sz) (h1 : ∀ x ∈ c1, x.oneCell' = true) (h2 : ∀ x ∈ c2, x.oneCell' = true) (hm : m + n ≤ 1000000) (hsz : 0 < sz) (hby : bytes ≤ 100) :
    ∃ l1 W1 l2 W2, (appF #[t, t] t #[.slice (some ⟨W.heap.size, 0, none⟩) 0 0, u1]).run Try.prog (W.alloc (.cells #[] e)) = .ok l1 W1 ∧ (appF #[t, t] t #[l1, u2]).run Try.prog W1 = .ok l2 W2 ∧ W2.ownsRow W.heap.size e sz l2 (m + n) (c1 ++ c2) ∧ Below W.heap.size W W2 ∧ ∃ A c, l1 = .slice A m c := by
  have o0 := World.ownsRow_made (base := W.heap.size) (e := e) (size := sz) W #[] 0 (Nat.le_refl _) (by unfold maxLen; omega) (by simp)
  have hb0 := alloc_below W (.cells #[] e)
  obtain ⟨l1, W1, r1, o1, g1⟩ := app_any ht hif hzs o0 (hu1.below hb0) hl1 h1 (by omega) hsz hby (by simp)
  have b1 : Below W.heap.size W W1 := hb0.grown g1 (by simp) (fun k hk => (o0.lt k hk).1)
  rw [Nat.zero_add, List.nil_append] at o1
  obtain ⟨l2, W2, r2, o2, g2⟩ := app_any ht hif hzs o1 (hu2.below b1) hl2 h2 hm hsz hby b1.size
  exact ⟨l1, W1, l2, W2, r1, r2, o2, b1.grown g2 b1.size (fun k hk => (o1.lt k hk).1), own_form o1⟩
set_option maxRecDepth 100000 in
set_option maxHeartbeats 2000000 in
theorem parts7_far (A : Option Addr) (n cap : Nat) (x0 x1 b : Int) (w : World) (hf : 200 < n) :
    Calls Try.prog 7 #[.slice A n cap, .agg #[.int .i64 x0, .int .i64 x1], .int .u8 b] w fun e w' => e = .returned (.bool true) ∧ Below w.heap.size w w' := by
  have q : decide ((200 : Int) < (n : Int)) = true := decide_eq_true (by omega)
  clear hf
  go_enter Try.func7, Try.ntmps7
  go_wp2_with (go_at_call 12; refine (awake12 _).mono ?_; rintro e w1 ⟨rfl, hb1⟩)
  exact bodyPost_ret (v := .bool true) (by simp [results, Try.f7, go_sem]) rfl ⟨rfl, below_end (alloc_below w _) hb1⟩
set_option maxRecDepth 100000 in
set_option maxHeartbeats 2000000 in
theorem parts7_none (v : Value) (ws : List Int) (x0 x1 b : Int) (w : World) (h : Ar w v ws) (hf : ¬ 200 < ws.length) (hs : (wcF ws x0 x1).2 = 0 → visL ws x0 x1 = []) :
    Calls Try.prog 7 #[v, .agg #[.int .i64 x0, .int .i64 x1], .int .u8 b] w fun e w' => e = .returned (.bool true) ∧ Below w.heap.size w w' := by
  have E := Lib.hid (fun W (hb : Below w.heap.size w W) => (objects15 v ws x0 x1 W (h.below hb)).mono fun e w' h => h.own2)
  have e0 : objsF ws x0 x1 = ([], (wcF ws x0 x1).2) := by
    rw [objs_eq]
    split
    · rename_i hh; rw [hs hh, hh]
    · rfl
  rw [e0] at E
  obtain ⟨Av, cv, rfl, -, -⟩ := h.open
  have q : decide ((200 : Int) < (ws.length : Int)) = false := decide_eq_false (by omega)
  generalize (wcF ws x0 x1).2 = c at *
  have B0 := Lib.hid (alloc_below w (.cells #[.int .i64 x0, .int .i64 x1] 23))
  dsimp only at E
  by_cases hc : c = 0
  · have q2 : (c != 0) = false := by simpa using hc
    clear h hf hs e0 hc
    go_enter Try.func7, Try.ntmps7
    go_wp2_with (first
      | (go_at_call 15; refine (E.out _ B0.out).mono ?_; rintro e w1 ⟨u, rfl, ho, hb⟩; have HB := Lib.hid (below_end B0.out hb); obtain ⟨Au, cu, rfl, ho2⟩ := ho.out; clear ho ho2 hb)
      | (go_at_call 12; refine (awake12 _).mono ?_; rintro e w1 ⟨rfl, hb1⟩))
    exact bodyPost_ret (v := .bool true) (by simp [results, Try.f7, go_sem]) rfl ⟨rfl, below_end HB.out hb1⟩
  · have q2 : (c != 0) = true := by simpa using hc
    clear h hf hs e0 hc
    go_enter Try.func7, Try.ntmps7
    go_wp2_with (first
      | (go_at_call 15; refine (E.out _ B0.out).mono ?_; rintro e w1 ⟨u, rfl, ho, hb⟩; have HB := Lib.hid (below_end B0.out hb); obtain ⟨Au, cu, rfl, ho2⟩ := ho.out; clear ho ho2 hb)
      | (go_at_call 12; refine (awake12 _).mono ?_; rintro e w1 ⟨rfl, hb1⟩))
    exact bodyPost_ret (v := .bool true) (by simp [results, Try.f7, go_sem]) rfl ⟨rfl, below_end HB.out hb1⟩
section
attribute [local go_sem ↓] fold_append
set_option maxRecDepth 100000 in
set_option maxHeartbeats 4000000 in
theorem parts7_in (v : Value) (ws : List Int) (x0 x1 b : Int) (w : World) (h : Ar w v ws) (hb0 : 0 ≤ b ∧ b ≤ 255) (hf : ¬ 200 < ws.length) (hs : (wcF ws x0 x1).2 = 0) (hne : visL ws x0 x1 ≠ []) :
    Calls Try.prog 7 #[v, .agg #[.int .i64 x0, .int .i64 x1], .int .u8 b] w fun e w' => e = .returned (.bool true) ∧ Below w.heap.size w w' := by
  obtain ⟨hlt, hx0, hx1⟩ := vis_lt hs hne
  have hr1 := Int.tmod_nonneg (x1 - x0) hb0.1
  have hr2 := Int.tmod_lt_of_pos b (show 0 < x1 - x0 by omega)
  have e1 : IntKind.i64.wrap b = b := IntWalk.i64_in _ (by omega)
  have e2 : IntKind.i64.wrap (x1 - x0) = x1 - x0 := IntWalk.i64_in _ (by omega)
  have e3 : IntKind.i64.wrap (b.tmod (x1 - x0)) = b.tmod (x1 - x0) := IntWalk.i64_in _ (by omega)
  have e4 : IntKind.i64.wrap (x0 + b.tmod (x1 - x0)) = x0 + b.tmod (x1 - x0) := IntWalk.i64_in _ (by omega)
  have n0 : ¬ x1 - x0 = 0 := by omega
  have F15 := Lib.hid (fun (f t : Int) (hw : (wcF ws f t).2 = 0) W (hb : Below w.heap.size w W) => show Calls Try.prog 15 #[v, .int .i64 f, .int .i64 t] W (fun e w' => ∃ u, e = .returned (.tuple #[u, .int .i64 0]) ∧ Hid (IAt w' u (visL ws f t)) ∧ Below W.heap.size W w') by
    have := (objects15 v ws f t W (h.below hb)).mono fun e w' h => h.own2
    rw [objs_eq, if_pos hw] at this
    exact this)
  have F13 := Lib.hid (fun (f t : Int) W (hb : Below w.heap.size w W) => wcheck13 v ws f t W (h.below hb))
  have F18 := Lib.hid (fun (a : Int) W (hb : Below w.heap.size w W) => find18 v ws x0 x1 a W (h.below hb))
  have F24 := Lib.hid (fun (f t : Int) W (hb : Below w.heap.size w W) => (refs24 v ws f t W (h.below hb)).mono fun e w' h => h.own2)
  have CP := Lib.hid (cut_parts (cut := x0 + b.tmod (x1 - x0)) hs (by omega) (by omega))
  have HS := Lib.hid hs
  obtain ⟨m, hm⟩ : ∃ m, (visL ws x0 x1).length = m := ⟨_, rfl⟩
  have HM := Lib.hid hm
  have q0 : ((m : Int) == 0) = false := by
    have : m ≠ 0 := fun e => hne (List.eq_nil_of_length_eq_zero (hm.trans e))
    simp; omega
  have q01 : ¬ m = 0 := by intro e; subst e; simp at q0
  obtain ⟨Av, cv, rfl, -, -⟩ := h.open
  have q : decide ((200 : Int) < (ws.length : Int)) = false := decide_eq_false (by omega)
  have N0 := Lib.hid (heap_alloc_new w (.cells #[.int .i64 x0, .int .i64 x1] 23))
  have B0 := Lib.hid (alloc_below w (.cells #[.int .i64 x0, .int .i64 x1] 23))
  clear h hf hs hne hb0 hlt hx0 hx1 hr1 hr2 hm
  generalize ws.length = lx at *
  go_enter Try.func7, Try.ntmps7
  go_upto_region 1 with (fail)
  generalize w.alloc (.cells #[.int .i64 x0, .int .i64 x1] 23) = W0 at *
  obtain ⟨t0, t1, -, -⟩ := two_free N0.out
  go_upto_region 4 with (go_at_call 15; refine (F15.out _ _ HS.out _ B0.out).mono ?_; rintro e w1 ⟨v1, rfl, X1, hb1⟩)
  have N1 := Lib.hid (keep_heap hb1 N0.out)
  have B1 := Lib.hid (below_end B0.out hb1)
  clear t0 t1 N0 B0 hb1
  obtain ⟨t0, t1, -, -⟩ := two_free N1.out
  obtain ⟨A1, c1, rfl, X1b⟩ := X1.out
  clear X1b
  rw [HM.out] at X1 ⊢
  go_upto_region 6 with (fail)
  go_quiet (fail)
  generalize hk : x0 + b.tmod (x1 - x0) = k at *
  clear hk e1 e2 e3 e4 n0 q0 q01
  have B2 := Lib.hid (show Below w.heap.size w (w1.drewN nq) from below_drewN B1.out _)
  have N2 := Lib.hid (show (w1.drewN nq).heap[w.heap.size]? = some (.cells #[.int .i64 x0, .int .i64 x1] 23 (0, 0)) from N1.out)
  have Y1 := Lib.hid (show IAt (w1.drewN nq) (.slice A1 m c1) (visL ws x0 x1) from X1.out)
  generalize w1.drewN nq = w2 at *
  clear t0 t1 N1 B1 X1
  obtain ⟨t0, t1, -, -⟩ := two_free N2.out
  rcases CP.out with ⟨p1, p2, p3, p4⟩ | ⟨x, p1, p2, p3⟩
  rotate_left
  · have G18 := Lib.hid (F18.out k w2 B2.out)
    rw [p2] at G18
    have q2 : (x != k) = true := by simpa using p1
    clear CP p1 p2 F18
    go_upto_region 11 with (go_at_call 18; refine G18.out.mono ?_; rintro e w3 ⟨rfl, hb3⟩)
    have B3 := Lib.hid (below_end B2.out hb3)
    have N3 := Lib.hid (keep_heap hb3 N2.out)
    clear t0 t1 B2 N2 hb3
    obtain ⟨t0, t1, -, -⟩ := two_free N3.out
    have G13 := Lib.hid (F13.out x0 k w3 B3.out)
    rw [p3] at G13
    have q3 : (x == x) = true := by simp
    go_wp2_with (first
      | (go_at_call 13; refine G13.out.mono ?_; rintro e w4 ⟨rfl, hb4⟩; have B4 := Lib.hid (below_end B3.out hb4); clear hb4)
      | (go_at_call 12; refine (awake12 _).mono ?_; rintro e w5 ⟨rfl, hb5⟩))
    exact bodyPost_ret (v := .bool true) (by simp [results, Try.f7, go_sem]) rfl ⟨rfl, below_end B4.out hb5⟩
  have G18 := Lib.hid (F18.out k w2 B2.out)
  rw [p1] at G18
  have q2 : (k != k) = false := by simp
  clear CP p1 F18
  go_upto_region 13 with (go_at_call 18; refine G18.out.mono ?_; rintro e w3 ⟨rfl, hb3⟩)
  have B3 := Lib.hid (below_end B2.out hb3)
  have N3 := Lib.hid (keep_heap hb3 N2.out)
  have Y2 := Lib.hid (Y1.out.below hb3)
  clear t0 t1 B2 N2 Y1 hb3
  obtain ⟨t0, t1, -, -⟩ := two_free N3.out
  go_upto_region 14 with (go_at_call 15; refine (F15.out x0 k p2 _ B3.out).mono ?_; rintro e w4 ⟨v4, rfl, X4, hb4⟩)
  have B4 := Lib.hid (below_end B3.out hb4)
  have N4 := Lib.hid (keep_heap hb4 N3.out)
  have Y3 := Lib.hid (Y2.out.below hb4)
  clear t0 t1 B3 N3 Y2 hb4
  obtain ⟨t0, t1, -, -⟩ := two_free N4.out
  go_upto_region 15 with (go_at_call 15; refine (F15.out k x1 p3 _ B4.out).mono ?_; rintro e w5 ⟨v5, rfl, X5, hb5⟩)
  have B5 := Lib.hid (below_end B4.out hb5)
  have N5 := Lib.hid (keep_heap hb5 N4.out)
  have Y4 := Lib.hid (Y3.out.below hb5)
  have Z4 := Lib.hid (X4.out.below hb5)
  clear t0 t1 B4 N4 Y3 X4 hb5
  obtain ⟨t0, t1, -, -⟩ := two_free N5.out
  have hml : (visL ws x0 k).length + (visL ws k x1).length ≤ 1601 := by have := vis_len ws x0 x1; rw [p4, List.length_append] at this; exact this
  obtain ⟨l1, W1, l2, W2, r1, r2, ho, hbw, A1', c1', rfl⟩ := app_two (t := 29) (W := w5) Try.underlying29 info3 rfl Z4.out.x X5.out.x (ic_len1 _) (ic_len1 _) (ic_one _) (ic_one _) (by omega) (by decide) (by decide)
  obtain ⟨A2', c2', rfl⟩ := own_form ho
  rw [← ic_append, ← List.length_append, ← p4] at ho
  have S := Lib.hid (same_lst (visL ws x0 x1) _ _ W2 (by have := vis_len ws x0 x1; omega) (IAt.of_own ho) (Y4.out.below hbw))
  have B6 := Lib.hid (below_end B5.out hbw)
  have N6 := Lib.hid (keep_heap hbw N5.out)
  obtain ⟨A4, c4, rfl, -⟩ := Z4.out
  obtain ⟨A5, c5, rfl, -⟩ := X5.out
  have HP := Lib.hid (refs_parts HS.out p2 p3 p4)
  rw [← List.length_append, ← p4, HM.out] at r2
  rw [HM.out] at S
  clear Z4 X5 Y4 ho hbw p2 p3 p4 hml HM F15 F13
  go_upto_region 17 with (go_at_call 17; refine S.out.mono ?_; rintro e w6 ⟨rfl, hb6⟩)
  have B7 := Lib.hid (below_end B6.out hb6)
  have N7 := Lib.hid (keep_heap hb6 N6.out)
  clear t0 t1 B6 N6 hb6 r1 r2 S N5 B5
  obtain ⟨t0, t1, -, -⟩ := two_free N7.out
  generalize hR0 : refsF ws x0 x1 = R0 at HP
  generalize hR1 : refsF ws x0 k = R1 at HP
  generalize hR2 : refsF ws k x1 = R2 at HP
  have G0 := Lib.hid (F24.out x0 x1)
  have G1 := Lib.hid (F24.out x0 k)
  have G2 := Lib.hid (F24.out k x1)
  have hl0 : R0.1.length ≤ 102464 := by rw [← hR0]; exact refs_len ws x0 x1
  rw [hR0] at G0
  rw [hR1] at G1
  rw [hR2] at G2
  clear hR0 hR1 hR2 F24 HS
  obtain ⟨l0, f0⟩ := R0
  obtain ⟨l1, f1⟩ := R1
  obtain ⟨l2, f2⟩ := R2
  dsimp only at HP G0 G1 G2 hl0
  have HL := Lib.hid hl0
  clear hl0
  go_upto_region 18 with (go_at_call 24; refine (G0.out _ B7.out).mono ?_; rintro e w7 ⟨u0, rfl, X0, hb7⟩)
  have B8 := Lib.hid (below_end B7.out hb7)
  have N8 := Lib.hid (keep_heap hb7 N7.out)
  clear t0 t1 B7 N7 hb7
  obtain ⟨t0, t1, -, -⟩ := two_free N8.out
  go_upto_region 19 with (go_at_call 24; refine (G1.out _ B8.out).mono ?_; rintro e w8 ⟨u1, rfl, X1, hb8⟩)
  have B9 := Lib.hid (below_end B8.out hb8)
  have N9 := Lib.hid (keep_heap hb8 N8.out)
  have Y0 := Lib.hid (X0.out.below hb8)
  clear t0 t1 B8 N8 X0 hb8
  obtain ⟨t0, t1, -, -⟩ := two_free N9.out
  go_upto_region 20 with (go_at_call 24; refine (G2.out _ B9.out).mono ?_; rintro e w9 ⟨u2, rfl, X2, hb9⟩)
  have BA := Lib.hid (below_end B9.out hb9)
  have Z0 := Lib.hid (Y0.out.below hb9)
  have Z1 := Lib.hid (X1.out.below hb9)
  clear t0 t1 B9 N9 Y0 X1 hb9 G0 G1 G2
  rcases HP.out with ⟨rfl, rfl, rfl, e4⟩ | ⟨h0, h12⟩
  rotate_left
  · have q1 : (f0 != 0) = true := by simpa using h0
    by_cases h1 : f1 = 0
    · have h2 : f2 ≠ 0 := by
        rcases h12 with h | h
        · exact absurd h1 h
        · exact h
      have q2 : (f1 != 0) = false := by simpa using h1
      have q3 : (f2 != 0) = true := by simpa using h2
      clear h0 h12 h1 h2 HP
      go_wp2_with (go_at_call 12; refine (awake12 _).mono ?_; rintro e wA ⟨rfl, hbA⟩)
      exact bodyPost_ret (v := .bool true) (by simp [results, Try.f7, go_sem]) rfl ⟨rfl, below_end BA.out hbA⟩
    · have q2 : (f1 != 0) = true := by simpa using h1
      clear h0 h12 h1 HP
      go_wp2_with (go_at_call 12; refine (awake12 _).mono ?_; rintro e wA ⟨rfl, hbA⟩)
      exact bodyPost_ret (v := .bool true) (by simp [results, Try.f7, go_sem]) rfl ⟨rfl, below_end BA.out hbA⟩
  subst e4
  rw [List.length_append] at HL
  obtain ⟨l1', W1', l2', W2', r1, r2, ho, hbw, A1'', c1'', rfl⟩ := app_two (t := 39) (W := w9) Try.underlying39 info57 rfl Z1.out X2.out (pc_length _) (pc_length _) (pc_one _) (pc_one _) (by have := HL.out; omega) (by decide) (by decide)
  obtain ⟨A2'', c2'', rfl⟩ := own_form ho
  rw [← pc_append, ← List.length_append] at ho
  have S := Lib.hid (rsame26 (l1 ++ l2) _ _ W2' (by have := HL.out; rw [List.length_append]; omega) (XAt.of_own ho) (Z0.out.below hbw))
  have BB := Lib.hid (below_end BA.out hbw)
  rw [← List.length_append] at r2
  obtain ⟨A0, c0, rfl, -⟩ := Z0.out
  obtain ⟨A1, c1, rfl, -⟩ := Z1.out
  obtain ⟨A2, c2, rfl, -⟩ := X2.out
  clear Z0 Z1 X2 ho hbw HP HL BA
  generalize (l1 ++ l2).length = n at *
  generalize l1.length = n1 at *
  generalize l2.length = n2 at *
  go_wp2_with (first
    | (go_at_call 26; refine S.out.mono ?_; rintro e wC ⟨rfl, hbC⟩; have BC := Lib.hid (below_end BB.out hbC); clear hbC)
    | (go_at_call 12; refine (awake12 _).mono ?_; rintro e wA ⟨rfl, hbA⟩))
  exact bodyPost_ret (v := .bool true) (by simp [results, Try.f7, go_sem]) rfl ⟨rfl, below_end BC.out hbA⟩
end
theorem parts7 (v : Value) (ws : List Int) (x0 x1 b : Int) (w : World) (h : Ar w v ws) (hb : 0 ≤ b ∧ b ≤ 255) :
    Calls Try.prog 7 #[v, .agg #[.int .i64 x0, .int .i64 x1], .int .u8 b] w fun e w' => e = .returned (.bool true) ∧ Below w.heap.size w w' := by
  by_cases hf : 200 < ws.length
  · obtain ⟨A, cap, rfl, -, -⟩ := h.open
    exact parts7_far A ws.length cap x0 x1 b w hf
  · by_cases hs : (wcF ws x0 x1).2 = 0 ∧ visL ws x0 x1 ≠ []
    · exact parts7_in v ws x0 x1 b w h hb hf hs.1 hs.2
    · exact parts7_none v ws x0 x1 b w h hf (fun h => Classical.byContradiction fun hn => hs ⟨h, hn⟩)
end Yteeghjhkfaeflaa
end Go.Proofs
