/- The law ArenaOnly answers true. -/
import Derived.Test.YtkffabochgmagaaArOp
import Derived.Test.YtkffabochgmagaaArSc
import Derived.Laws.AppendOwnNone
import Derived.Deep.RegionHeld3
namespace Go.Proofs
namespace Ytkffabochgmagaa
open Go.RowKit

/-- append of any argument to an empty row of the call's own -/
theorem push_any {ops : Array Oper} {rest : List Oper} {o : Oper} {a : Act} {Q : Exit → Act → World → Prop} {W w : World} {v : Value} {A : Option Addr} {cap : Nat} {ys : List Int} (hown : W.ownsRow w.heap.size 25 1 v 0 (wc [])) (hB : Below w.heap.size w W) (hg : WAt w (.slice A ys.length cap) ys) (hnil : A = none → ys.length = 0 ∧ cap = 0) (hgd : o.guard = none) (s x : Operand)
    (ho : o.op = .call { callee := .builtin .append, args := #[s, x], argTypes := #[24, 24] }) (hs : a.eval s = v) (hx : a.eval x = .slice A ys.length cap) (hl : ys.length ≤ 1000000)
    (h : ∀ v' W', W'.ownsRow w.heap.size 25 1 v' ys.length (wc ys) → Below w.heap.size w W' → wpList Try.prog ops Q rest (a.put o.dst v') W') : wpList Try.prog ops Q (o :: rest) a W := by
  by_cases hne : 0 < ys.length
  · refine push_words (xs := []) hown hB hg hne hgd s x ho hs hx (by simp; omega) ?_
    intro g c W' h1 h2
    rw [List.length_nil, Nat.zero_add, List.nil_append] at h1
    rw [List.length_nil, Nat.zero_add]
    exact h _ W' h1 h2
  · obtain rfl : ys = [] := List.length_eq_zero_iff.1 (by omega)
    obtain ⟨i0, hi, hz0, hz1, hz2⟩ := info_parts info25
    cases A with
    | none =>
      obtain ⟨-, rfl⟩ := hnil rfl
      exact wpList_append_own_none hgd s x 24 ho w.heap.size 25 i0 1 Try.underlying24 hi v 0 (wc []) hs hown hx (h v W hown hB)
    | some ad =>
      refine wpList_append_own _ hgd s x 24 ho w.heap.size 25 i0 _ 1 8 Try.underlying24 hi hz0 hz1 hz2 rfl (by decide) v 0 (wc []) hs hown ad 0 cap [] hx rfl (by intro j u hj; simp at hj) (by simp) (by unfold maxLen; omega) (by omega) hB.size ?_
      intro v' W' h1 h2 _
      exact h v' W' (by simpa using h1) (hB.grown h2 hB.size (fun k hk => (hown.lt k hk).1))
theorem WAt.far {W W' : World} {v : Value} {xs : List Int} (h : WAt W v xs) (hb : Below W.heap.size W W') {g i : Nat} (hg : W.heap.size ≤ g) (u : Value) : WAt (W'.setCell ⟨g, i, none⟩ u) v xs := by
  obtain ⟨A, cap, rfl, h⟩ := h
  refine ⟨A, cap, rfl, fun h0 => ?_⟩
  obtain ⟨b, off, hA, hc⟩ := h h0
  refine ⟨b, off, hA, fun j u' hu => ?_⟩
  have h1 := hc j u' hu
  have h2 := cell_lt h1
  dsimp only at h2
  rw [World.cell?_setCell_other _ ⟨g, i, none⟩ ⟨b, off + j, none⟩ u (by simp only [ne_eq, Addr.mk.injEq, not_and]; omega)]
  exact (hb.cell h2).trans h1
theorem CAns.own {W : World} {zs : List Int} {E : Int} {e : Ending} {w' : World} (h : CAns W (zs, E) e w') : ∃ v, e = .returned (.tuple #[v, .int .i64 E]) ∧ w'.ownsRow W.heap.size 25 1 v zs.length (wc zs) ∧ Below W.heap.size W w' := h
set_option maxRecDepth 100000 in
theorem op_cells {W : World} {g : Nat} {kd a b n z : Int} (h : W.heap[g]? = some (.cells #[.int .i64 kd, .int .i64 a, .int .i64 b, .int .i64 n, .int .u64 z] 56 (0, 0))) :
    W.cell? ⟨g, 0, none⟩ = some (.int .i64 kd) ∧ W.cell? ⟨g, 1, none⟩ = some (.int .i64 a) ∧ W.cell? ⟨g, 2, none⟩ = some (.int .i64 b) ∧ W.cell? ⟨g, 3, none⟩ = some (.int .i64 n) ∧ W.cell? ⟨g, 4, none⟩ = some (.int .u64 z) := by
  refine ⟨?_, ?_, ?_, ?_, ?_⟩ <;> rw [cell_of_row _ _ _ _ _ _ h] <;> rfl
theorem diffs_len : ∀ (xs ys : List Int) (k : Nat), (diffs k xs ys).length ≤ xs.length := by
  intro xs
  induction xs with
  | nil => intro ys k; cases ys <;> simp [diffs]
  | cons a xs ih =>
    intro ys k
    cases ys with
    | nil => simp [diffs]
    | cons b ys =>
      have := ih ys (k + 1)
      by_cases e : a = b
      · rw [diffs_eq e]; simp only [List.length_cons]; omega
      · rw [diffs_ne e]; simp only [List.length_cons]; omega
theorem own_some {W : World} {base n : Nat} {v : Value} {xs : List Value} (h : W.ownsRow base 25 1 v n xs) (hn : 1 ≤ n) : ∃ g cap, v = .slice (some ⟨g, 0, none⟩) n cap := by
  rcases h.2 with ⟨rfl, h0⟩ | ⟨g, cap, cur, rfl, _⟩
  · omega
  · exact ⟨g, cap, rfl⟩
theorem one_at (W : World) (kd a b n z : Int) (g : Nat) (hg : g = W.heap.size) : OAt (W.alloc (.cells #[.int .i64 kd, .int .i64 a, .int .i64 b, .int .i64 n, .int .u64 z] 56)) (.slice (some ⟨g, 0, none⟩) 1 1) [⟨kd, a, b, n, z⟩] := by
  subst hg
  refine ⟨_, 1, rfl, fun _ => ⟨W.heap.size, 0, rfl, fun j u hu => ?_⟩⟩
  rw [cell_of_row _ _ _ _ _ _ (heap_alloc_new W _), Nat.zero_add]
  simpa [oc, opC] using hu
set_option maxRecDepth 100000 in
theorem only8_long (v1 : Value) (ws : List Int) (op : AOp) (w : World) (h1 : WAt w v1 ws) (hl : 200 < ws.length) :
    Calls Try.prog 8 #[v1, opV op] w fun e w' => e = .returned (.bool true) ∧ Below w.heap.size w w' := by
  obtain ⟨A1, p1, rfl, -⟩ := h1
  obtain ⟨kd, a, b, n, z⟩ := op
  have q : decide ((200 : Int) < (ws.length : Int)) = true := decide_eq_true (by omega)
  unfold opV opC
  dsimp only
  go_enter Try.func8, Try.ntmps8
  go_wp2_with (go_at_call 10; refine (awake10 _).mono ?_; rintro e u3 ⟨rfl, hu3⟩)
  exact bodyPost_ret (v := .bool true) (by simp [results, Try.f8, go_sem]) rfl ⟨rfl, below_end (alloc_below _ _) hu3⟩

set_option maxRecDepth 100000 in
set_option maxHeartbeats 4000000 in
theorem only8_2_ok (A1 : Option Addr) (p1 : Nat) (ws : List Int) (kd : Int) (k3 : (kd == 3) = false) (k4 : (kd == 4) = false) (k3' : (kd != 3) = true) (k4' : (kd != 4) = true) (zs : List Int) (lo : Nat) (b : Int) (n : Int) (z : Int) (w : World) (h1 : WAt w (.slice A1 ws.length p1) ws) (hnil : A1 = none → ws.length = 0 ∧ p1 = 0) (hw : ws.length ≤ 200)
    (F18 : setF ws (lo : Int) z = (zs, 0)) (FP : playF ws [⟨2, (lo : Int), b, n, z⟩] = ⟨zs, [], 0, 1, 0, 0⟩) (HO : OneOk ws zs lo 1) :
    Calls Try.prog 8 #[.slice A1 ws.length p1, .agg #[.int .i64 kd, .int .i64 (lo : Int), .int .i64 b, .int .i64 n, .int .u64 z]] w fun e w' => e = .returned (.bool true) ∧ Below w.heap.size w w' := by
  have G18 := Lib.hid (fun W hb => set18 (.slice A1 ws.length p1) ws (lo : Int) z W (WAt.below (W := w) h1 hb) (by omega))
  rw [after_set, F18] at G18
  have G29 := Lib.hid (fun W lv hb (hl : OAt W lv [⟨2, (lo : Int), b, n, z⟩]) => play29 (.slice A1 ws.length p1) lv ws [⟨2, (lo : Int), b, n, z⟩] W (WAt.below (W := w) h1 hb) hl (by omega) (by simp))
  rw [FP] at G29
  have H1 := Lib.hid h1
  have X0 := Lib.hid (show Below w.heap.size w (w.alloc (.cells #[.int .i64 kd, .int .i64 (lo : Int), .int .i64 b, .int .i64 n, .int .u64 z] 56)) from alloc_below _ _)
  have N0 := Lib.hid (heap_alloc_new w (.cells #[.int .i64 kd, .int .i64 (lo : Int), .int .i64 b, .int .i64 n, .int .u64 z] 56))
  have ZZ := Lib.hid (World.size_alloc w (.cells #[.int .i64 kd, .int .i64 (lo : Int), .int .i64 b, .int .i64 n, .int .u64 z] 56))
  have q : decide ((200 : Int) < (ws.length : Int)) = false := decide_eq_false (by omega)
  clear F18
  skip
  clear FP h1
  go_enter Try.func8, Try.ntmps8
  go_upto_region 3 with (fail)
  generalize w.alloc (.cells #[.int .i64 kd, .int .i64 (lo : Int), .int .i64 b, .int .i64 n, .int .u64 z] 56) = X at *
  have ER := Lib.hid (empty_words (Below.refl X.heap.size X))
  have EB := Lib.hid (alloc_below X (.cells #[] 25))
  have HX := Lib.hid (H1.out.below X0.out)
  go_upto_region 4 with (at_builtin; refine push_any ER.out EB.out HX.out hnil rfl _ _ rfl rfl rfl (by omega) ?_; intro was W1 ho hb; have O1 := Lib.hid ho; have B1 := Lib.hid hb; clear ho hb)
  have X1 := Lib.hid (below_end X0.out B1.out)
  obtain ⟨q0, q1, q2, q3, q4⟩ := op_cells (keep_heap B1.out N0.out)
  clear ER EB HX
  go_upto_region 5 with (go_at_call 18; refine (G18.out _ X1.out).mono ?_; intro e W2 h2; obtain ⟨v2, rfl, ho, hb⟩ := h2.own; have V2 := Lib.hid ho; have B2 := Lib.hid hb; clear h2 ho hb q0 q1 q2 q3 q4)
  have B12 := Lib.hid (below_end B1.out B2.out)
  have X2 := Lib.hid (below_end X0.out B12.out)
  have O2 := Lib.hid (own_below O1.out B2.out)
  have SP := Lib.hid (show X.heap.size = w.heap.size + 1 ∧ X.heap.size ≤ W1.heap.size ∧ W1.heap.size ≤ W2.heap.size from ⟨ZZ.out, B1.out.size, B2.out.size⟩)
  obtain ⟨q0, q1, q2, q3, q4⟩ := op_cells (keep_heap B12.out N0.out)
  have f0 := frozen_of_row _ _ 0 _ _ (keep_heap B12.out N0.out)
  go_upto_region 14 with (fail)
  have g2 := grown_set W2 w.heap.size 0 (.int .i64 2)
  have sp := SP.out
  have NT := Lib.hid (show (W2.setCell ⟨w.heap.size, 0, none⟩ (.int .i64 2)).heap[w.heap.size]? = some (.cells #[.int .i64 2, .int .i64 (lo : Int), .int .i64 b, .int .i64 n, .int .u64 z] 56 (0, 0)) by
    have h := set_row (keep_heap B12.out N0.out) 0 (.int .i64 2)
    simpa using h)
  have VT := Lib.hid (V2.out.kept g2 (by
    cases ho : v2.ownBlock with
    | none => exact .inl rfl
    | some k => right; have := (V2.out.lt k ho).1; intro e; injection e with e; omega))
  have PT := Lib.hid (O2.out.kept g2 (by
    cases ho : was.ownBlock with
    | none => exact .inl rfl
    | some k => right; have := (O2.out.lt k ho).1; intro e; injection e with e; omega))
  have XT := Lib.hid (X2.out.setCell (p := ⟨w.heap.size, 0, none⟩) (Nat.le_refl _) (.int .i64 2))
  have SEP := Lib.hid (show ∀ g, v2.ownBlock = some g → w.heap.size ≤ g ∧ was.ownBlock ≠ some g from fun g hg => ⟨by have := (V2.out.lt g hg).1; omega, fun e => by have := (V2.out.lt g hg).1; have := (O1.out.lt g e).2; omega⟩)
  clear q0 q1 q2 q3 q4 f0 g2 sp
  obtain ⟨v, hv⟩ : ∃ v, v2 = v := ⟨_, rfl⟩
  subst hv
  generalize W2.setCell ⟨w.heap.size, 0, none⟩ (.int .i64 2) = Wt at *
  obtain ⟨q0, q1, q2, q3, q4⟩ := op_cells NT.out
  go_upto_region 15 with (go_at_call 29; refine (G29.out _ _ (below_end XT.out (alloc_below _ _)) (one_at _ _ _ _ _ _ _ rfl)).mono ?_; rintro e W5 ⟨u, gv, rfl, hU, hG, hb⟩; have B5 := Lib.hid (below_end (alloc_below _ _) hb); have U5 := Lib.hid (WAt.of_own hU); clear hU hG hb)
  have A5 := Lib.hid (alloc_below W5 (.cells #[.int .i64 0, .int .i64 1] 50))
  have CN := Lib.hid (heap_alloc_new W5 (.cells #[.int .i64 0, .int .i64 1] 50))
  have B6 := Lib.hid (below_end B5.out A5.out)
  have U6 := Lib.hid (U5.out.below A5.out)
  have V6 := Lib.hid (own_below VT.out B6.out)
  have P6 := Lib.hid (own_below PT.out B6.out)
  have X6 := Lib.hid (below_end XT.out B6.out)
  clear q0 q1 q2 q3 q4 U5 VT PT A5
  generalize W5.alloc (.cells #[.int .i64 0, .int .i64 1] 50) = Y at *
  generalize W5.heap.size = CB at *
  have hzl := HO.len
  have SA := Lib.hid (S13 zs u v2 Y (by omega) U6.out (WAt.of_own V6.out))
  have SB := Lib.hid (fun W (hb : Below Y.heap.size Y W) => S13 ws was (.slice A1 ws.length p1) W (by omega) ((WAt.of_own P6.out).below hb) (H1.out.below (below_end X6.out hb)))
  go_upto_region 19 with (first
    | (go_at_call 13; first
        | ((with_reducible refine SA.out.mono ?_); rintro e W7 ⟨rfl, hb⟩; have B7 := Lib.hid hb; clear hb)
        | ((with_reducible refine (SB.out _ B7.out).mono ?_); rintro e W8 ⟨rfl, hb⟩; have B8 := Lib.hid (below_end B7.out hb); clear hb)))
  have DF := Lib.hid (differ26_ok (.slice A1 ws.length p1) v2 ws zs W8 (H1.out.below (below_end X6.out B8.out)) ((WAt.of_own V6.out).below B8.out) HO.c1 HO.c2 hzl.symm)
  have HOH := Lib.hid HO
  have HZL := Lib.hid hzl
  clear HO hzl SA B7
  go_upto_region 20 with (go_at_call 26; refine DF.out.mono ?_; rintro e W9 ⟨l, rfl, hl, hb⟩; have L9 := Lib.hid hl; have B9 := Lib.hid (below_end B8.out hb); clear hl hb)
  obtain ⟨y0, y1⟩ := cnt_cells (keep_heap B9.out CN.out)
  obtain ⟨Al, cl, rfl⟩ := own_form L9.out
  have hz1 : 1 ≤ zs.length := by
    have := HOH.out.c2
    apply Classical.byContradiction
    intro hn
    rw [chk_long (by omega)] at this
    cases this
  obtain ⟨vg, cv, hvf⟩ := own_some V6.out hz1
  subst hvf
  have qz : ((zs.length : Int) != (ws.length : Int)) = false := by have := HZL.out; simp only [bne_eq_false_iff_eq]; omega
  go_upto_region 22 with (fail)
  clear y0 y1 SB
  have LI := Lib.hid (IAt.of_own L9.out)
  have VI := Lib.hid ((WAt.of_own V6.out).below B9.out)
  have XI := Lib.hid (below_end X6.out B9.out)
  have wq1 : IntKind.i64.wrap ((lo : Int) + 1) = (lo : Int) + 1 := IntWalk.i64_in _ (by have := HOH.out.room; omega)
  go_wp2
  go_loopw [16] (fun i wr => ∃ k : Nat, k ≤ (diffs 0 ws zs).length ∧ i = .int .i64 k ∧ Hid (Below W9.heap.size W9 wr)) (fun i _ => (diffs 0 ws zs).length - (intOf i).toNat)
  case atStart => exact ⟨0, by omega, rfl, Lib.hid (Below.refl _ _)⟩
  case round =>
    obtain ⟨k, hk, rfl, hX⟩ := hrel
    by_cases hlt : k < (diffs 0 ws zs).length
    · have hlt' : (k : Int) < ((diffs 0 ws zs).length : Int) := by omega
      obtain ⟨d, hd, hdl, hne⟩ := diffs_at hlt
      obtain ⟨in1, in2⟩ := HOH.out.inn d hdl hne
      have hdz : d < zs.length := by have := HZL.out; omega
      have hk200 : k < 200 := by have := diffs_len ws zs 0; omega
      have hdl' : (d : Int) < (ws.length : Int) := by omega
      have hdz' : (d : Int) < (zs.length : Int) := by omega
      obtain ⟨Al', cl', e, hA⟩ := LI.out
      simp only [Value.slice.injEq] at e
      obtain ⟨rfl, -, -⟩ := e
      obtain ⟨lb, loff, rfl, hc⟩ := hA (by omega)
      have e1 := hc k _ (ic_get _ k hlt)
      rw [hd] at e1
      have c1 := (hX.out.cell (p := ⟨lb, _, none⟩) (cell_lt e1)).trans e1
      obtain ⟨A1', p1', e, hA1⟩ := H1.out
      simp only [Value.slice.injEq] at e
      obtain ⟨rfl, -, -⟩ := e
      obtain ⟨wb, woff, rfl, hw1⟩ := hA1 (by omega)
      have e2 := hw1 d _ (wc_get ws d hdl)
      have hXw := below_end XI.out hX.out
      have c2 := (hXw.cell (p := ⟨wb, _, none⟩) (cell_lt e2)).trans e2
      have c3 := (row_cell (own_below (own_below V6.out B9.out) hX.out) rfl hdz).1
      have qxy : (ws.getD d 0 == zs.getD d 0) = false := by simpa using hne
      have z1 : decide ((d : Int) < (lo : Int)) = false := decide_eq_false (by omega)
      have z1' : decide (d < lo) = false := decide_eq_false (by omega)
      have z2 : decide ((lo : Int) + 1 ≤ (d : Int)) = false := decide_eq_false (by omega)
      have z2' : decide (lo + 1 ≤ d) = false := decide_eq_false (by omega)
      rcases Nat.eq_zero_or_pos k with h0 | h0
      · subst h0
        rw [Nat.add_zero] at c1
        clear hd hne e1 e2 hc hw1 hA hA1 hXw
        generalize ws.getD d 0 = x at *
        generalize zs.getD d 0 = y at *
        go_upto_region 25 with (fail)
        go_quiet (fail)
        go_wp2
        go_roundw
        case rel => exact ⟨1, by omega, by go_num, Lib.hid (below_drewN hX.out _)⟩
        case measure => simp [intOf]; omega
      · obtain ⟨d2, hd2, -, -⟩ := diffs_at (xs := ws) (ys := zs) (i := k - 1) (by omega)
        have hlt2 := diffs_lt (xs := ws) (ys := zs) (i := k - 1) (by omega)
        rw [show k - 1 + 1 = k by omega, hd, hd2] at hlt2
        have e3 := hc (k - 1) _ (ic_get _ (k - 1) (by omega))
        rw [hd2] at e3
        have c4 := (hX.out.cell (p := ⟨lb, _, none⟩) (cell_lt e3)).trans e3
        have z3 : decide ((0 : Int) < (k : Int)) = true := decide_eq_true (by omega)
        have z3' : decide (0 < k) = true := decide_eq_true h0
        have z4 : decide ((d : Int) ≤ (d2 : Int)) = false := decide_eq_false (by omega)
        have z4' : decide (d ≤ d2) = false := decide_eq_false (by omega)
        have k1 : (0 : Int) ≤ (k : Int) - 1 := by omega
        have k1' : (1 : Int) ≤ (k : Int) := by omega
        have k2 : (k : Int) - 1 < ((diffs 0 ws zs).length : Int) := by omega
        have wq2 : IntKind.i64.wrap ((k : Int) - 1) = (k : Int) - 1 := IntWalk.i64_in _ (by omega)
        have wq3 : ((k : Int) - 1).toNat = k - 1 := by omega
        clear hd hd2 hne e1 e2 e3 hc hw1 hA hA1 hXw
        generalize ws.getD d 0 = x at *
        generalize zs.getD d 0 = y at *
        go_upto_region 25 with (fail)
        go_quiet (fail)
        go_wp2
        go_roundw
        case rel => exact ⟨k + 1, by omega, by go_num, Lib.hid (below_drewN hX.out _)⟩
        case measure => simp [intOf]; omega
    · obtain ⟨sp1, sp2⟩ := SEP.out vg rfl
      have hXw := below_end XI.out hX.out
      have hz1' : (0 : Int) < (zs.length : Int) := by omega
      obtain ⟨c1, c2⟩ := row_cell (own_below (own_below V6.out B9.out) hX.out) rfl (k := 0) hz1
      have gs := grown_set wr vg 0 (.int .u64 7)
      have SC := Lib.hid (S13 ws was (.slice A1 ws.length p1) (wr.setCell ⟨vg, 0, none⟩ (.int .u64 7)) (by omega) (WAt.of_own ((own_below (own_below P6.out B9.out) hX.out).kept gs (.inr sp2))) (H1.out.far hXw sp1 _))
      have XW := Lib.hid (hXw.setCell (p := ⟨vg, 0, none⟩) sp1 (.int .u64 7))
      clear gs hXw
      go_wp2_with (first
        | (go_at_call 13; (with_reducible refine SC.out.mono ?_); rintro e Wx ⟨rfl, hb⟩; have XX := Lib.hid (below_end XW.out hb); clear hb)
        | (go_at_call 10; refine (awake10 _).mono ?_; rintro e u3 ⟨rfl, hu3⟩))
      exact bodyPost_ret (v := .bool true) (by simp [results, Try.f8, go_sem]) rfl ⟨rfl, below_end XX.out hu3⟩
set_option maxRecDepth 100000 in
set_option maxHeartbeats 4000000 in
theorem only8_2_err (A1 : Option Addr) (p1 : Nat) (ws : List Int) (kd : Int) (k3 : (kd == 3) = false) (k4 : (kd == 4) = false) (k3' : (kd != 3) = true) (k4' : (kd != 4) = true) (a b n E : Int) (hE : E ≠ 0) (z : Int) (w : World) (h1 : WAt w (.slice A1 ws.length p1) ws) (hnil : A1 = none → ws.length = 0 ∧ p1 = 0) (hw : ws.length ≤ 200)
    (F18 : setF ws a z = ([], E)) (FP : playF ws [⟨2, a, b, n, z⟩] = AAns.err 0 E) :
    Calls Try.prog 8 #[.slice A1 ws.length p1, .agg #[.int .i64 kd, .int .i64 a, .int .i64 b, .int .i64 n, .int .u64 z]] w fun e w' => e = .returned (.bool true) ∧ Below w.heap.size w w' := by
  have G18 := Lib.hid (fun W hb => set18 (.slice A1 ws.length p1) ws a z W (WAt.below (W := w) h1 hb) (by omega))
  rw [after_set, F18] at G18
  have G29 := Lib.hid (fun W lv hb (hl : OAt W lv [⟨2, a, b, n, z⟩]) => play29 (.slice A1 ws.length p1) lv ws [⟨2, a, b, n, z⟩] W (WAt.below (W := w) h1 hb) hl (by omega) (by simp))
  rw [FP, show AAns.err 0 E = ⟨[], [], 0, 0, 0, E⟩ from rfl] at G29
  have H1 := Lib.hid h1
  have X0 := Lib.hid (show Below w.heap.size w (w.alloc (.cells #[.int .i64 kd, .int .i64 a, .int .i64 b, .int .i64 n, .int .u64 z] 56)) from alloc_below _ _)
  have N0 := Lib.hid (heap_alloc_new w (.cells #[.int .i64 kd, .int .i64 a, .int .i64 b, .int .i64 n, .int .u64 z] 56))
  have ZZ := Lib.hid (World.size_alloc w (.cells #[.int .i64 kd, .int .i64 a, .int .i64 b, .int .i64 n, .int .u64 z] 56))
  have q : decide ((200 : Int) < (ws.length : Int)) = false := decide_eq_false (by omega)
  clear F18
  skip
  clear FP h1
  go_enter Try.func8, Try.ntmps8
  go_upto_region 3 with (fail)
  generalize w.alloc (.cells #[.int .i64 kd, .int .i64 a, .int .i64 b, .int .i64 n, .int .u64 z] 56) = X at *
  have ER := Lib.hid (empty_words (Below.refl X.heap.size X))
  have EB := Lib.hid (alloc_below X (.cells #[] 25))
  have HX := Lib.hid (H1.out.below X0.out)
  go_upto_region 4 with (at_builtin; refine push_any ER.out EB.out HX.out hnil rfl _ _ rfl rfl rfl (by omega) ?_; intro was W1 ho hb; have O1 := Lib.hid ho; have B1 := Lib.hid hb; clear ho hb)
  have X1 := Lib.hid (below_end X0.out B1.out)
  obtain ⟨q0, q1, q2, q3, q4⟩ := op_cells (keep_heap B1.out N0.out)
  clear ER EB HX
  go_upto_region 5 with (go_at_call 18; refine (G18.out _ X1.out).mono ?_; intro e W2 h2; obtain ⟨v2, rfl, ho, hb⟩ := h2.own; have V2 := Lib.hid ho; have B2 := Lib.hid hb; clear h2 ho hb q0 q1 q2 q3 q4)
  have B12 := Lib.hid (below_end B1.out B2.out)
  have X2 := Lib.hid (below_end X0.out B12.out)
  have O2 := Lib.hid (own_below O1.out B2.out)
  have SP := Lib.hid (show X.heap.size = w.heap.size + 1 ∧ X.heap.size ≤ W1.heap.size ∧ W1.heap.size ≤ W2.heap.size from ⟨ZZ.out, B1.out.size, B2.out.size⟩)
  obtain ⟨q0, q1, q2, q3, q4⟩ := op_cells (keep_heap B12.out N0.out)
  have f0 := frozen_of_row _ _ 0 _ _ (keep_heap B12.out N0.out)
  go_upto_region 14 with (fail)
  have g2 := grown_set W2 w.heap.size 0 (.int .i64 2)
  have sp := SP.out
  have NT := Lib.hid (show (W2.setCell ⟨w.heap.size, 0, none⟩ (.int .i64 2)).heap[w.heap.size]? = some (.cells #[.int .i64 2, .int .i64 a, .int .i64 b, .int .i64 n, .int .u64 z] 56 (0, 0)) by
    have h := set_row (keep_heap B12.out N0.out) 0 (.int .i64 2)
    simpa using h)
  have VT := Lib.hid (V2.out.kept g2 (by
    cases ho : v2.ownBlock with
    | none => exact .inl rfl
    | some k => right; have := (V2.out.lt k ho).1; intro e; injection e with e; omega))
  have PT := Lib.hid (O2.out.kept g2 (by
    cases ho : was.ownBlock with
    | none => exact .inl rfl
    | some k => right; have := (O2.out.lt k ho).1; intro e; injection e with e; omega))
  have XT := Lib.hid (X2.out.setCell (p := ⟨w.heap.size, 0, none⟩) (Nat.le_refl _) (.int .i64 2))
  have SEP := Lib.hid (show ∀ g, v2.ownBlock = some g → w.heap.size ≤ g ∧ was.ownBlock ≠ some g from fun g hg => ⟨by have := (V2.out.lt g hg).1; omega, fun e => by have := (V2.out.lt g hg).1; have := (O1.out.lt g e).2; omega⟩)
  clear q0 q1 q2 q3 q4 f0 g2 sp
  obtain ⟨v, hv⟩ : ∃ v, v2 = v := ⟨_, rfl⟩
  subst hv
  generalize W2.setCell ⟨w.heap.size, 0, none⟩ (.int .i64 2) = Wt at *
  obtain ⟨q0, q1, q2, q3, q4⟩ := op_cells NT.out
  go_upto_region 15 with (go_at_call 29; refine (G29.out _ _ (below_end XT.out (alloc_below _ _)) (one_at _ _ _ _ _ _ _ rfl)).mono ?_; rintro e W5 ⟨u, gv, rfl, hU, hG, hb⟩; have B5 := Lib.hid (below_end (alloc_below _ _) hb); have U5 := Lib.hid (WAt.of_own hU); clear hU hG hb)
  have A5 := Lib.hid (alloc_below W5 (.cells #[.int .i64 0, .int .i64 0] 50))
  have CN := Lib.hid (heap_alloc_new W5 (.cells #[.int .i64 0, .int .i64 0] 50))
  have B6 := Lib.hid (below_end B5.out A5.out)
  have U6 := Lib.hid (U5.out.below A5.out)
  have V6 := Lib.hid (own_below VT.out B6.out)
  have P6 := Lib.hid (own_below PT.out B6.out)
  have X6 := Lib.hid (below_end XT.out B6.out)
  clear q0 q1 q2 q3 q4 U5 VT PT A5
  generalize W5.alloc (.cells #[.int .i64 0, .int .i64 0] 50) = Y at *
  generalize W5.heap.size = CB at *
  have SB := Lib.hid (fun W (hb : Below Y.heap.size Y W) => S13 ws was (.slice A1 ws.length p1) W (by omega) ((WAt.of_own P6.out).below hb) (H1.out.below (below_end X6.out hb)))
  obtain ⟨Av, cv, rfl⟩ := own_form V6.out
  have SA := Lib.hid (S13 [] u (.slice Av 0 cv) Y (by simp) U6.out (WAt.of_own V6.out))
  have q1 : (E != 0) = true := by simpa using hE
  clear hE
  go_wp2_with (first
    | (go_at_call 13; first
        | ((with_reducible refine SA.out.mono ?_); rintro e W7 ⟨rfl, hb⟩; have B7 := Lib.hid hb; clear hb)
        | ((with_reducible refine (SB.out _ B7.out).mono ?_); rintro e W8 ⟨rfl, hb⟩; have B8 := Lib.hid (below_end B7.out hb); clear hb))
    | (go_at_call 10; refine (awake10 _).mono ?_; rintro e u3 ⟨rfl, hu3⟩))
  exact bodyPost_ret (v := .bool true) (by simp [results, Try.f8, go_sem]) rfl ⟨rfl, below_end X6.out (below_end B8.out hu3)⟩
set_option maxRecDepth 100000 in
set_option maxHeartbeats 4000000 in
theorem only8_3_ok (A1 : Option Addr) (p1 : Nat) (ws : List Int) (zs : List Int) (lo nn : Nat) (a : Int) (z : Int) (w : World) (h1 : WAt w (.slice A1 ws.length p1) ws) (hnil : A1 = none → ws.length = 0 ∧ p1 = 0) (hw : ws.length ≤ 200)
    (F20 : cpyF ws a (lo : Int) (nn : Int) = (zs, 0)) (FP : playF ws [⟨3, a, (lo : Int), (nn : Int), z⟩] = ⟨zs, [], (nn : Int), (nn : Int), 0, 0⟩) (HO : OneOk ws zs lo nn) :
    Calls Try.prog 8 #[.slice A1 ws.length p1, .agg #[.int .i64 3, .int .i64 a, .int .i64 (lo : Int), .int .i64 (nn : Int), .int .u64 z]] w fun e w' => e = .returned (.bool true) ∧ Below w.heap.size w w' := by
  have G18 := Lib.hid (fun W hb => set18 (.slice A1 ws.length p1) ws a z W (WAt.below (W := w) h1 hb) (by omega))
  rw [after_set] at G18
  have G20 := Lib.hid (fun W hb => copy20 (.slice A1 ws.length p1) ws a (lo : Int) (nn : Int) W (WAt.below (W := w) h1 hb) (by omega))
  rw [after_cpy, F20] at G20
  have G29 := Lib.hid (fun W lv hb (hl : OAt W lv [⟨3, a, (lo : Int), (nn : Int), z⟩]) => play29 (.slice A1 ws.length p1) lv ws [⟨3, a, (lo : Int), (nn : Int), z⟩] W (WAt.below (W := w) h1 hb) hl (by omega) (by simp))
  rw [FP] at G29
  have H1 := Lib.hid h1
  have X0 := Lib.hid (show Below w.heap.size w (w.alloc (.cells #[.int .i64 3, .int .i64 a, .int .i64 (lo : Int), .int .i64 (nn : Int), .int .u64 z] 56)) from alloc_below _ _)
  have N0 := Lib.hid (heap_alloc_new w (.cells #[.int .i64 3, .int .i64 a, .int .i64 (lo : Int), .int .i64 (nn : Int), .int .u64 z] 56))
  have ZZ := Lib.hid (World.size_alloc w (.cells #[.int .i64 3, .int .i64 a, .int .i64 (lo : Int), .int .i64 (nn : Int), .int .u64 z] 56))
  have q : decide ((200 : Int) < (ws.length : Int)) = false := decide_eq_false (by omega)
  generalize setF ws a z = S at *
  obtain ⟨s1, s2⟩ := S
  clear FP F20 h1
  go_enter Try.func8, Try.ntmps8
  go_upto_region 3 with (fail)
  generalize w.alloc (.cells #[.int .i64 3, .int .i64 a, .int .i64 (lo : Int), .int .i64 (nn : Int), .int .u64 z] 56) = X at *
  have ER := Lib.hid (empty_words (Below.refl X.heap.size X))
  have EB := Lib.hid (alloc_below X (.cells #[] 25))
  have HX := Lib.hid (H1.out.below X0.out)
  go_upto_region 4 with (at_builtin; refine push_any ER.out EB.out HX.out hnil rfl _ _ rfl rfl rfl (by omega) ?_; intro was W1 ho hb; have O1 := Lib.hid ho; have B1 := Lib.hid hb; clear ho hb)
  have X1 := Lib.hid (below_end X0.out B1.out)
  obtain ⟨q0, q1, q2, q3, q4⟩ := op_cells (keep_heap B1.out N0.out)
  clear ER EB HX
  go_upto_region 5 with (go_at_call 18; refine (G18.out _ X1.out).mono ?_; intro e W2 h2; obtain ⟨v2, rfl, ho, hb⟩ := h2.own; have V2 := Lib.hid ho; have B2 := Lib.hid hb; clear h2 ho hb q0 q1 q2 q3 q4)
  have B12 := Lib.hid (below_end B1.out B2.out)
  have X2 := Lib.hid (below_end X0.out B12.out)
  have O2 := Lib.hid (own_below O1.out B2.out)
  have SP := Lib.hid (show X.heap.size = w.heap.size + 1 ∧ X.heap.size ≤ W1.heap.size ∧ W1.heap.size ≤ W2.heap.size from ⟨ZZ.out, B1.out.size, B2.out.size⟩)
  obtain ⟨q0, q1, q2, q3, q4⟩ := op_cells (keep_heap B12.out N0.out)
  go_upto_region 8 with (go_at_call 20; refine (G20.out _ X2.out).mono ?_; intro e W3 h3; obtain ⟨v3, rfl, ho, hb⟩ := h3.own; have V3 := Lib.hid ho; have B3 := Lib.hid hb; clear h3 ho hb q0 q1 q2 q3 q4)
  have B13 := Lib.hid (below_end B12.out B3.out)
  obtain ⟨q0, q1, q2, q3, q4⟩ := op_cells (keep_heap B13.out N0.out)
  go_quiet (fail)
  go_upto_region 14 with (fail)
  have BQ := Lib.hid (show Below W3.heap.size W3 (W3.drewN nq) from below_drewN (Below.refl _ _) nq)
  generalize W3.drewN nq = Wt at *
  have sp := SP.out
  have NT := Lib.hid (keep_heap BQ.out (keep_heap B13.out N0.out))
  have VT := Lib.hid (own_below V3.out BQ.out)
  have PT := Lib.hid (own_below (own_below O2.out B3.out) BQ.out)
  have XT := Lib.hid (below_end (below_end X2.out B3.out) BQ.out)
  have SEP := Lib.hid (show ∀ g, v3.ownBlock = some g → w.heap.size ≤ g ∧ was.ownBlock ≠ some g from fun g hg => ⟨by have := (V3.out.lt g hg).1; omega, fun e => by have := (V3.out.lt g hg).1; have := (O1.out.lt g e).2; omega⟩)
  clear q0 q1 q2 q3 q4 sp
  obtain ⟨v, hv⟩ : ∃ v, v3 = v := ⟨_, rfl⟩
  subst hv
  obtain ⟨q0, q1, q2, q3, q4⟩ := op_cells NT.out
  go_upto_region 15 with (go_at_call 29; refine (G29.out _ _ (below_end XT.out (alloc_below _ _)) (one_at _ _ _ _ _ _ _ rfl)).mono ?_; rintro e W5 ⟨u, gv, rfl, hU, hG, hb⟩; have B5 := Lib.hid (below_end (alloc_below _ _) hb); have U5 := Lib.hid (WAt.of_own hU); clear hU hG hb)
  have A5 := Lib.hid (alloc_below W5 (.cells #[.int .i64 (nn : Int), .int .i64 (nn : Int)] 50))
  have CN := Lib.hid (heap_alloc_new W5 (.cells #[.int .i64 (nn : Int), .int .i64 (nn : Int)] 50))
  have B6 := Lib.hid (below_end B5.out A5.out)
  have U6 := Lib.hid (U5.out.below A5.out)
  have V6 := Lib.hid (own_below VT.out B6.out)
  have P6 := Lib.hid (own_below PT.out B6.out)
  have X6 := Lib.hid (below_end XT.out B6.out)
  clear q0 q1 q2 q3 q4 U5 VT PT A5
  generalize W5.alloc (.cells #[.int .i64 (nn : Int), .int .i64 (nn : Int)] 50) = Y at *
  generalize W5.heap.size = CB at *
  have hzl := HO.len
  have SA := Lib.hid (S13 zs u v3 Y (by omega) U6.out (WAt.of_own V6.out))
  have SB := Lib.hid (fun W (hb : Below Y.heap.size Y W) => S13 ws was (.slice A1 ws.length p1) W (by omega) ((WAt.of_own P6.out).below hb) (H1.out.below (below_end X6.out hb)))
  go_upto_region 19 with (first
    | (go_at_call 13; first
        | ((with_reducible refine SA.out.mono ?_); rintro e W7 ⟨rfl, hb⟩; have B7 := Lib.hid hb; clear hb)
        | ((with_reducible refine (SB.out _ B7.out).mono ?_); rintro e W8 ⟨rfl, hb⟩; have B8 := Lib.hid (below_end B7.out hb); clear hb)))
  have DF := Lib.hid (differ26_ok (.slice A1 ws.length p1) v3 ws zs W8 (H1.out.below (below_end X6.out B8.out)) ((WAt.of_own V6.out).below B8.out) HO.c1 HO.c2 hzl.symm)
  have HOH := Lib.hid HO
  have HZL := Lib.hid hzl
  clear HO hzl SA B7
  go_upto_region 20 with (go_at_call 26; refine DF.out.mono ?_; rintro e W9 ⟨l, rfl, hl, hb⟩; have L9 := Lib.hid hl; have B9 := Lib.hid (below_end B8.out hb); clear hl hb)
  obtain ⟨y0, y1⟩ := cnt_cells (keep_heap B9.out CN.out)
  obtain ⟨Al, cl, rfl⟩ := own_form L9.out
  have hz1 : 1 ≤ zs.length := by
    have := HOH.out.c2
    apply Classical.byContradiction
    intro hn
    rw [chk_long (by omega)] at this
    cases this
  obtain ⟨vg, cv, hvf⟩ := own_some V6.out hz1
  subst hvf
  have qz : ((zs.length : Int) != (ws.length : Int)) = false := by have := HZL.out; simp only [bne_eq_false_iff_eq]; omega
  go_upto_region 22 with (fail)
  clear y0 y1 SB
  have LI := Lib.hid (IAt.of_own L9.out)
  have VI := Lib.hid ((WAt.of_own V6.out).below B9.out)
  have XI := Lib.hid (below_end X6.out B9.out)
  have wq1 : IntKind.i64.wrap ((lo : Int) + (nn : Int)) = (lo : Int) + (nn : Int) := IntWalk.i64_in _ (by have := HOH.out.room; omega)
  go_wp2
  go_loopw [16] (fun i wr => ∃ k : Nat, k ≤ (diffs 0 ws zs).length ∧ i = .int .i64 k ∧ Hid (Below W9.heap.size W9 wr)) (fun i _ => (diffs 0 ws zs).length - (intOf i).toNat)
  case atStart => exact ⟨0, by omega, rfl, Lib.hid (Below.refl _ _)⟩
  case round =>
    obtain ⟨k, hk, rfl, hX⟩ := hrel
    by_cases hlt : k < (diffs 0 ws zs).length
    · have hlt' : (k : Int) < ((diffs 0 ws zs).length : Int) := by omega
      obtain ⟨d, hd, hdl, hne⟩ := diffs_at hlt
      obtain ⟨in1, in2⟩ := HOH.out.inn d hdl hne
      have hdz : d < zs.length := by have := HZL.out; omega
      have hk200 : k < 200 := by have := diffs_len ws zs 0; omega
      have hdl' : (d : Int) < (ws.length : Int) := by omega
      have hdz' : (d : Int) < (zs.length : Int) := by omega
      obtain ⟨Al', cl', e, hA⟩ := LI.out
      simp only [Value.slice.injEq] at e
      obtain ⟨rfl, -, -⟩ := e
      obtain ⟨lb, loff, rfl, hc⟩ := hA (by omega)
      have e1 := hc k _ (ic_get _ k hlt)
      rw [hd] at e1
      have c1 := (hX.out.cell (p := ⟨lb, _, none⟩) (cell_lt e1)).trans e1
      obtain ⟨A1', p1', e, hA1⟩ := H1.out
      simp only [Value.slice.injEq] at e
      obtain ⟨rfl, -, -⟩ := e
      obtain ⟨wb, woff, rfl, hw1⟩ := hA1 (by omega)
      have e2 := hw1 d _ (wc_get ws d hdl)
      have hXw := below_end XI.out hX.out
      have c2 := (hXw.cell (p := ⟨wb, _, none⟩) (cell_lt e2)).trans e2
      have c3 := (row_cell (own_below (own_below V6.out B9.out) hX.out) rfl hdz).1
      have qxy : (ws.getD d 0 == zs.getD d 0) = false := by simpa using hne
      have z1 : decide ((d : Int) < (lo : Int)) = false := decide_eq_false (by omega)
      have z1' : decide (d < lo) = false := decide_eq_false (by omega)
      have z2 : decide ((lo : Int) + (nn : Int) ≤ (d : Int)) = false := decide_eq_false (by omega)
      have z2' : decide (lo + nn ≤ d) = false := decide_eq_false (by omega)
      rcases Nat.eq_zero_or_pos k with h0 | h0
      · subst h0
        rw [Nat.add_zero] at c1
        clear hd hne e1 e2 hc hw1 hA hA1 hXw
        generalize ws.getD d 0 = x at *
        generalize zs.getD d 0 = y at *
        go_upto_region 25 with (fail)
        go_quiet (fail)
        go_wp2
        go_roundw
        case rel => exact ⟨1, by omega, by go_num, Lib.hid (below_drewN hX.out _)⟩
        case measure => simp [intOf]; omega
      · obtain ⟨d2, hd2, -, -⟩ := diffs_at (xs := ws) (ys := zs) (i := k - 1) (by omega)
        have hlt2 := diffs_lt (xs := ws) (ys := zs) (i := k - 1) (by omega)
        rw [show k - 1 + 1 = k by omega, hd, hd2] at hlt2
        have e3 := hc (k - 1) _ (ic_get _ (k - 1) (by omega))
        rw [hd2] at e3
        have c4 := (hX.out.cell (p := ⟨lb, _, none⟩) (cell_lt e3)).trans e3
        have z3 : decide ((0 : Int) < (k : Int)) = true := decide_eq_true (by omega)
        have z3' : decide (0 < k) = true := decide_eq_true h0
        have z4 : decide ((d : Int) ≤ (d2 : Int)) = false := decide_eq_false (by omega)
        have z4' : decide (d ≤ d2) = false := decide_eq_false (by omega)
        have k1 : (0 : Int) ≤ (k : Int) - 1 := by omega
        have k1' : (1 : Int) ≤ (k : Int) := by omega
        have k2 : (k : Int) - 1 < ((diffs 0 ws zs).length : Int) := by omega
        have wq2 : IntKind.i64.wrap ((k : Int) - 1) = (k : Int) - 1 := IntWalk.i64_in _ (by omega)
        have wq3 : ((k : Int) - 1).toNat = k - 1 := by omega
        clear hd hd2 hne e1 e2 e3 hc hw1 hA hA1 hXw
        generalize ws.getD d 0 = x at *
        generalize zs.getD d 0 = y at *
        go_upto_region 25 with (fail)
        go_quiet (fail)
        go_wp2
        go_roundw
        case rel => exact ⟨k + 1, by omega, by go_num, Lib.hid (below_drewN hX.out _)⟩
        case measure => simp [intOf]; omega
    · obtain ⟨sp1, sp2⟩ := SEP.out vg rfl
      have hXw := below_end XI.out hX.out
      have hz1' : (0 : Int) < (zs.length : Int) := by omega
      obtain ⟨c1, c2⟩ := row_cell (own_below (own_below V6.out B9.out) hX.out) rfl (k := 0) hz1
      have gs := grown_set wr vg 0 (.int .u64 7)
      have SC := Lib.hid (S13 ws was (.slice A1 ws.length p1) (wr.setCell ⟨vg, 0, none⟩ (.int .u64 7)) (by omega) (WAt.of_own ((own_below (own_below P6.out B9.out) hX.out).kept gs (.inr sp2))) (H1.out.far hXw sp1 _))
      have XW := Lib.hid (hXw.setCell (p := ⟨vg, 0, none⟩) sp1 (.int .u64 7))
      clear gs hXw
      go_wp2_with (first
        | (go_at_call 13; (with_reducible refine SC.out.mono ?_); rintro e Wx ⟨rfl, hb⟩; have XX := Lib.hid (below_end XW.out hb); clear hb)
        | (go_at_call 10; refine (awake10 _).mono ?_; rintro e u3 ⟨rfl, hu3⟩))
      exact bodyPost_ret (v := .bool true) (by simp [results, Try.f8, go_sem]) rfl ⟨rfl, below_end XX.out hu3⟩
set_option maxRecDepth 100000 in
set_option maxHeartbeats 4000000 in
theorem only8_3_err (A1 : Option Addr) (p1 : Nat) (ws : List Int) (a b n E : Int) (hE : E ≠ 0) (z : Int) (w : World) (h1 : WAt w (.slice A1 ws.length p1) ws) (hnil : A1 = none → ws.length = 0 ∧ p1 = 0) (hw : ws.length ≤ 200)
    (F20 : cpyF ws a b n = ([], E)) (FP : playF ws [⟨3, a, b, n, z⟩] = AAns.err 0 E) :
    Calls Try.prog 8 #[.slice A1 ws.length p1, .agg #[.int .i64 3, .int .i64 a, .int .i64 b, .int .i64 n, .int .u64 z]] w fun e w' => e = .returned (.bool true) ∧ Below w.heap.size w w' := by
  have G18 := Lib.hid (fun W hb => set18 (.slice A1 ws.length p1) ws a z W (WAt.below (W := w) h1 hb) (by omega))
  rw [after_set] at G18
  have G20 := Lib.hid (fun W hb => copy20 (.slice A1 ws.length p1) ws a b n W (WAt.below (W := w) h1 hb) (by omega))
  rw [after_cpy, F20] at G20
  have G29 := Lib.hid (fun W lv hb (hl : OAt W lv [⟨3, a, b, n, z⟩]) => play29 (.slice A1 ws.length p1) lv ws [⟨3, a, b, n, z⟩] W (WAt.below (W := w) h1 hb) hl (by omega) (by simp))
  rw [FP, show AAns.err 0 E = ⟨[], [], 0, 0, 0, E⟩ from rfl] at G29
  have H1 := Lib.hid h1
  have X0 := Lib.hid (show Below w.heap.size w (w.alloc (.cells #[.int .i64 3, .int .i64 a, .int .i64 b, .int .i64 n, .int .u64 z] 56)) from alloc_below _ _)
  have N0 := Lib.hid (heap_alloc_new w (.cells #[.int .i64 3, .int .i64 a, .int .i64 b, .int .i64 n, .int .u64 z] 56))
  have ZZ := Lib.hid (World.size_alloc w (.cells #[.int .i64 3, .int .i64 a, .int .i64 b, .int .i64 n, .int .u64 z] 56))
  have q : decide ((200 : Int) < (ws.length : Int)) = false := decide_eq_false (by omega)
  generalize setF ws a z = S at *
  obtain ⟨s1, s2⟩ := S
  clear FP F20 h1
  go_enter Try.func8, Try.ntmps8
  go_upto_region 3 with (fail)
  generalize w.alloc (.cells #[.int .i64 3, .int .i64 a, .int .i64 b, .int .i64 n, .int .u64 z] 56) = X at *
  have ER := Lib.hid (empty_words (Below.refl X.heap.size X))
  have EB := Lib.hid (alloc_below X (.cells #[] 25))
  have HX := Lib.hid (H1.out.below X0.out)
  go_upto_region 4 with (at_builtin; refine push_any ER.out EB.out HX.out hnil rfl _ _ rfl rfl rfl (by omega) ?_; intro was W1 ho hb; have O1 := Lib.hid ho; have B1 := Lib.hid hb; clear ho hb)
  have X1 := Lib.hid (below_end X0.out B1.out)
  obtain ⟨q0, q1, q2, q3, q4⟩ := op_cells (keep_heap B1.out N0.out)
  clear ER EB HX
  go_upto_region 5 with (go_at_call 18; refine (G18.out _ X1.out).mono ?_; intro e W2 h2; obtain ⟨v2, rfl, ho, hb⟩ := h2.own; have V2 := Lib.hid ho; have B2 := Lib.hid hb; clear h2 ho hb q0 q1 q2 q3 q4)
  have B12 := Lib.hid (below_end B1.out B2.out)
  have X2 := Lib.hid (below_end X0.out B12.out)
  have O2 := Lib.hid (own_below O1.out B2.out)
  have SP := Lib.hid (show X.heap.size = w.heap.size + 1 ∧ X.heap.size ≤ W1.heap.size ∧ W1.heap.size ≤ W2.heap.size from ⟨ZZ.out, B1.out.size, B2.out.size⟩)
  obtain ⟨q0, q1, q2, q3, q4⟩ := op_cells (keep_heap B12.out N0.out)
  go_upto_region 8 with (go_at_call 20; refine (G20.out _ X2.out).mono ?_; intro e W3 h3; obtain ⟨v3, rfl, ho, hb⟩ := h3.own; have V3 := Lib.hid ho; have B3 := Lib.hid hb; clear h3 ho hb q0 q1 q2 q3 q4)
  have B13 := Lib.hid (below_end B12.out B3.out)
  obtain ⟨q0, q1, q2, q3, q4⟩ := op_cells (keep_heap B13.out N0.out)
  go_quiet (fail)
  go_upto_region 14 with (fail)
  have BQ := Lib.hid (show Below W3.heap.size W3 (W3.drewN nq) from below_drewN (Below.refl _ _) nq)
  generalize W3.drewN nq = Wt at *
  have sp := SP.out
  have NT := Lib.hid (keep_heap BQ.out (keep_heap B13.out N0.out))
  have VT := Lib.hid (own_below V3.out BQ.out)
  have PT := Lib.hid (own_below (own_below O2.out B3.out) BQ.out)
  have XT := Lib.hid (below_end (below_end X2.out B3.out) BQ.out)
  have SEP := Lib.hid (show ∀ g, v3.ownBlock = some g → w.heap.size ≤ g ∧ was.ownBlock ≠ some g from fun g hg => ⟨by have := (V3.out.lt g hg).1; omega, fun e => by have := (V3.out.lt g hg).1; have := (O1.out.lt g e).2; omega⟩)
  clear q0 q1 q2 q3 q4 sp
  obtain ⟨v, hv⟩ : ∃ v, v3 = v := ⟨_, rfl⟩
  subst hv
  obtain ⟨q0, q1, q2, q3, q4⟩ := op_cells NT.out
  go_upto_region 15 with (go_at_call 29; refine (G29.out _ _ (below_end XT.out (alloc_below _ _)) (one_at _ _ _ _ _ _ _ rfl)).mono ?_; rintro e W5 ⟨u, gv, rfl, hU, hG, hb⟩; have B5 := Lib.hid (below_end (alloc_below _ _) hb); have U5 := Lib.hid (WAt.of_own hU); clear hU hG hb)
  have A5 := Lib.hid (alloc_below W5 (.cells #[.int .i64 0, .int .i64 0] 50))
  have CN := Lib.hid (heap_alloc_new W5 (.cells #[.int .i64 0, .int .i64 0] 50))
  have B6 := Lib.hid (below_end B5.out A5.out)
  have U6 := Lib.hid (U5.out.below A5.out)
  have V6 := Lib.hid (own_below VT.out B6.out)
  have P6 := Lib.hid (own_below PT.out B6.out)
  have X6 := Lib.hid (below_end XT.out B6.out)
  clear q0 q1 q2 q3 q4 U5 VT PT A5
  generalize W5.alloc (.cells #[.int .i64 0, .int .i64 0] 50) = Y at *
  generalize W5.heap.size = CB at *
  have SB := Lib.hid (fun W (hb : Below Y.heap.size Y W) => S13 ws was (.slice A1 ws.length p1) W (by omega) ((WAt.of_own P6.out).below hb) (H1.out.below (below_end X6.out hb)))
  obtain ⟨Av, cv, rfl⟩ := own_form V6.out
  have SA := Lib.hid (S13 [] u (.slice Av 0 cv) Y (by simp) U6.out (WAt.of_own V6.out))
  have q1 : (E != 0) = true := by simpa using hE
  clear hE
  go_wp2_with (first
    | (go_at_call 13; first
        | ((with_reducible refine SA.out.mono ?_); rintro e W7 ⟨rfl, hb⟩; have B7 := Lib.hid hb; clear hb)
        | ((with_reducible refine (SB.out _ B7.out).mono ?_); rintro e W8 ⟨rfl, hb⟩; have B8 := Lib.hid (below_end B7.out hb); clear hb))
    | (go_at_call 10; refine (awake10 _).mono ?_; rintro e u3 ⟨rfl, hu3⟩))
  exact bodyPost_ret (v := .bool true) (by simp [results, Try.f8, go_sem]) rfl ⟨rfl, below_end X6.out (below_end B8.out hu3)⟩
set_option maxRecDepth 100000 in
set_option maxHeartbeats 4000000 in
theorem only8_4_ok (A1 : Option Addr) (p1 : Nat) (ws : List Int) (zs : List Int) (lo nn : Nat) (b : Int) (z : Int) (w : World) (h1 : WAt w (.slice A1 ws.length p1) ws) (hnil : A1 = none → ws.length = 0 ∧ p1 = 0) (hw : ws.length ≤ 200)
    (F22 : clrF ws (lo : Int) (nn : Int) = (zs, 0)) (FP : playF ws [⟨4, (lo : Int), b, (nn : Int), z⟩] = ⟨zs, [], 0, (nn : Int), 0, 0⟩) (HO : OneOk ws zs lo nn) :
    Calls Try.prog 8 #[.slice A1 ws.length p1, .agg #[.int .i64 4, .int .i64 (lo : Int), .int .i64 b, .int .i64 (nn : Int), .int .u64 z]] w fun e w' => e = .returned (.bool true) ∧ Below w.heap.size w w' := by
  have G18 := Lib.hid (fun W hb => set18 (.slice A1 ws.length p1) ws (lo : Int) z W (WAt.below (W := w) h1 hb) (by omega))
  rw [after_set] at G18
  have G22 := Lib.hid (fun W hb => clear22 (.slice A1 ws.length p1) ws (lo : Int) (nn : Int) W (WAt.below (W := w) h1 hb) (by omega))
  rw [after_clr, F22] at G22
  have G29 := Lib.hid (fun W lv hb (hl : OAt W lv [⟨4, (lo : Int), b, (nn : Int), z⟩]) => play29 (.slice A1 ws.length p1) lv ws [⟨4, (lo : Int), b, (nn : Int), z⟩] W (WAt.below (W := w) h1 hb) hl (by omega) (by simp))
  rw [FP] at G29
  have H1 := Lib.hid h1
  have X0 := Lib.hid (show Below w.heap.size w (w.alloc (.cells #[.int .i64 4, .int .i64 (lo : Int), .int .i64 b, .int .i64 (nn : Int), .int .u64 z] 56)) from alloc_below _ _)
  have N0 := Lib.hid (heap_alloc_new w (.cells #[.int .i64 4, .int .i64 (lo : Int), .int .i64 b, .int .i64 (nn : Int), .int .u64 z] 56))
  have ZZ := Lib.hid (World.size_alloc w (.cells #[.int .i64 4, .int .i64 (lo : Int), .int .i64 b, .int .i64 (nn : Int), .int .u64 z] 56))
  have q : decide ((200 : Int) < (ws.length : Int)) = false := decide_eq_false (by omega)
  generalize setF ws (lo : Int) z = S at *
  obtain ⟨s1, s2⟩ := S
  clear FP F22 h1
  go_enter Try.func8, Try.ntmps8
  go_upto_region 3 with (fail)
  generalize w.alloc (.cells #[.int .i64 4, .int .i64 (lo : Int), .int .i64 b, .int .i64 (nn : Int), .int .u64 z] 56) = X at *
  have ER := Lib.hid (empty_words (Below.refl X.heap.size X))
  have EB := Lib.hid (alloc_below X (.cells #[] 25))
  have HX := Lib.hid (H1.out.below X0.out)
  go_upto_region 4 with (at_builtin; refine push_any ER.out EB.out HX.out hnil rfl _ _ rfl rfl rfl (by omega) ?_; intro was W1 ho hb; have O1 := Lib.hid ho; have B1 := Lib.hid hb; clear ho hb)
  have X1 := Lib.hid (below_end X0.out B1.out)
  obtain ⟨q0, q1, q2, q3, q4⟩ := op_cells (keep_heap B1.out N0.out)
  clear ER EB HX
  go_upto_region 5 with (go_at_call 18; refine (G18.out _ X1.out).mono ?_; intro e W2 h2; obtain ⟨v2, rfl, ho, hb⟩ := h2.own; have V2 := Lib.hid ho; have B2 := Lib.hid hb; clear h2 ho hb q0 q1 q2 q3 q4)
  have B12 := Lib.hid (below_end B1.out B2.out)
  have X2 := Lib.hid (below_end X0.out B12.out)
  have O2 := Lib.hid (own_below O1.out B2.out)
  have SP := Lib.hid (show X.heap.size = w.heap.size + 1 ∧ X.heap.size ≤ W1.heap.size ∧ W1.heap.size ≤ W2.heap.size from ⟨ZZ.out, B1.out.size, B2.out.size⟩)
  obtain ⟨q0, q1, q2, q3, q4⟩ := op_cells (keep_heap B12.out N0.out)
  go_upto_region 11 with (go_at_call 22; refine (G22.out _ X2.out).mono ?_; intro e W3 h3; obtain ⟨v3, rfl, ho, hb⟩ := h3.own; have V3 := Lib.hid ho; have B3 := Lib.hid hb; clear h3 ho hb q0 q1 q2 q3 q4)
  have B13 := Lib.hid (below_end B12.out B3.out)
  obtain ⟨q0, q1, q2, q3, q4⟩ := op_cells (keep_heap B13.out N0.out)
  go_upto_region 14 with (fail)
  obtain ⟨Wt, rfl⟩ : ∃ W : World, W = W3 := ⟨_, rfl⟩
  have BQ := Lib.hid (show Below Wt.heap.size Wt Wt from Below.refl _ _)
  have sp := SP.out
  have NT := Lib.hid (keep_heap BQ.out (keep_heap B13.out N0.out))
  have VT := Lib.hid (own_below V3.out BQ.out)
  have PT := Lib.hid (own_below (own_below O2.out B3.out) BQ.out)
  have XT := Lib.hid (below_end (below_end X2.out B3.out) BQ.out)
  have SEP := Lib.hid (show ∀ g, v3.ownBlock = some g → w.heap.size ≤ g ∧ was.ownBlock ≠ some g from fun g hg => ⟨by have := (V3.out.lt g hg).1; omega, fun e => by have := (V3.out.lt g hg).1; have := (O1.out.lt g e).2; omega⟩)
  clear q0 q1 q2 q3 q4 sp
  obtain ⟨v, hv⟩ : ∃ v, v3 = v := ⟨_, rfl⟩
  subst hv
  obtain ⟨q0, q1, q2, q3, q4⟩ := op_cells NT.out
  go_upto_region 15 with (go_at_call 29; refine (G29.out _ _ (below_end XT.out (alloc_below _ _)) (one_at _ _ _ _ _ _ _ rfl)).mono ?_; rintro e W5 ⟨u, gv, rfl, hU, hG, hb⟩; have B5 := Lib.hid (below_end (alloc_below _ _) hb); have U5 := Lib.hid (WAt.of_own hU); clear hU hG hb)
  have A5 := Lib.hid (alloc_below W5 (.cells #[.int .i64 0, .int .i64 (nn : Int)] 50))
  have CN := Lib.hid (heap_alloc_new W5 (.cells #[.int .i64 0, .int .i64 (nn : Int)] 50))
  have B6 := Lib.hid (below_end B5.out A5.out)
  have U6 := Lib.hid (U5.out.below A5.out)
  have V6 := Lib.hid (own_below VT.out B6.out)
  have P6 := Lib.hid (own_below PT.out B6.out)
  have X6 := Lib.hid (below_end XT.out B6.out)
  clear q0 q1 q2 q3 q4 U5 VT PT A5
  generalize W5.alloc (.cells #[.int .i64 0, .int .i64 (nn : Int)] 50) = Y at *
  generalize W5.heap.size = CB at *
  have hzl := HO.len
  have SA := Lib.hid (S13 zs u v3 Y (by omega) U6.out (WAt.of_own V6.out))
  have SB := Lib.hid (fun W (hb : Below Y.heap.size Y W) => S13 ws was (.slice A1 ws.length p1) W (by omega) ((WAt.of_own P6.out).below hb) (H1.out.below (below_end X6.out hb)))
  go_upto_region 19 with (first
    | (go_at_call 13; first
        | ((with_reducible refine SA.out.mono ?_); rintro e W7 ⟨rfl, hb⟩; have B7 := Lib.hid hb; clear hb)
        | ((with_reducible refine (SB.out _ B7.out).mono ?_); rintro e W8 ⟨rfl, hb⟩; have B8 := Lib.hid (below_end B7.out hb); clear hb)))
  have DF := Lib.hid (differ26_ok (.slice A1 ws.length p1) v3 ws zs W8 (H1.out.below (below_end X6.out B8.out)) ((WAt.of_own V6.out).below B8.out) HO.c1 HO.c2 hzl.symm)
  have HOH := Lib.hid HO
  have HZL := Lib.hid hzl
  clear HO hzl SA B7
  go_upto_region 20 with (go_at_call 26; refine DF.out.mono ?_; rintro e W9 ⟨l, rfl, hl, hb⟩; have L9 := Lib.hid hl; have B9 := Lib.hid (below_end B8.out hb); clear hl hb)
  obtain ⟨y0, y1⟩ := cnt_cells (keep_heap B9.out CN.out)
  obtain ⟨Al, cl, rfl⟩ := own_form L9.out
  have hz1 : 1 ≤ zs.length := by
    have := HOH.out.c2
    apply Classical.byContradiction
    intro hn
    rw [chk_long (by omega)] at this
    cases this
  obtain ⟨vg, cv, hvf⟩ := own_some V6.out hz1
  subst hvf
  have qz : ((zs.length : Int) != (ws.length : Int)) = false := by have := HZL.out; simp only [bne_eq_false_iff_eq]; omega
  go_upto_region 22 with (fail)
  clear y0 y1 SB
  have LI := Lib.hid (IAt.of_own L9.out)
  have VI := Lib.hid ((WAt.of_own V6.out).below B9.out)
  have XI := Lib.hid (below_end X6.out B9.out)
  have wq1 : IntKind.i64.wrap ((lo : Int) + (nn : Int)) = (lo : Int) + (nn : Int) := IntWalk.i64_in _ (by have := HOH.out.room; omega)
  go_wp2
  go_loopw [16] (fun i wr => ∃ k : Nat, k ≤ (diffs 0 ws zs).length ∧ i = .int .i64 k ∧ Hid (Below W9.heap.size W9 wr)) (fun i _ => (diffs 0 ws zs).length - (intOf i).toNat)
  case atStart => exact ⟨0, by omega, rfl, Lib.hid (Below.refl _ _)⟩
  case round =>
    obtain ⟨k, hk, rfl, hX⟩ := hrel
    by_cases hlt : k < (diffs 0 ws zs).length
    · have hlt' : (k : Int) < ((diffs 0 ws zs).length : Int) := by omega
      obtain ⟨d, hd, hdl, hne⟩ := diffs_at hlt
      obtain ⟨in1, in2⟩ := HOH.out.inn d hdl hne
      have hdz : d < zs.length := by have := HZL.out; omega
      have hk200 : k < 200 := by have := diffs_len ws zs 0; omega
      have hdl' : (d : Int) < (ws.length : Int) := by omega
      have hdz' : (d : Int) < (zs.length : Int) := by omega
      obtain ⟨Al', cl', e, hA⟩ := LI.out
      simp only [Value.slice.injEq] at e
      obtain ⟨rfl, -, -⟩ := e
      obtain ⟨lb, loff, rfl, hc⟩ := hA (by omega)
      have e1 := hc k _ (ic_get _ k hlt)
      rw [hd] at e1
      have c1 := (hX.out.cell (p := ⟨lb, _, none⟩) (cell_lt e1)).trans e1
      obtain ⟨A1', p1', e, hA1⟩ := H1.out
      simp only [Value.slice.injEq] at e
      obtain ⟨rfl, -, -⟩ := e
      obtain ⟨wb, woff, rfl, hw1⟩ := hA1 (by omega)
      have e2 := hw1 d _ (wc_get ws d hdl)
      have hXw := below_end XI.out hX.out
      have c2 := (hXw.cell (p := ⟨wb, _, none⟩) (cell_lt e2)).trans e2
      have c3 := (row_cell (own_below (own_below V6.out B9.out) hX.out) rfl hdz).1
      have qxy : (ws.getD d 0 == zs.getD d 0) = false := by simpa using hne
      have z1 : decide ((d : Int) < (lo : Int)) = false := decide_eq_false (by omega)
      have z1' : decide (d < lo) = false := decide_eq_false (by omega)
      have z2 : decide ((lo : Int) + (nn : Int) ≤ (d : Int)) = false := decide_eq_false (by omega)
      have z2' : decide (lo + nn ≤ d) = false := decide_eq_false (by omega)
      rcases Nat.eq_zero_or_pos k with h0 | h0
      · subst h0
        rw [Nat.add_zero] at c1
        clear hd hne e1 e2 hc hw1 hA hA1 hXw
        generalize ws.getD d 0 = x at *
        generalize zs.getD d 0 = y at *
        go_upto_region 25 with (fail)
        go_quiet (fail)
        go_wp2
        go_roundw
        case rel => exact ⟨1, by omega, by go_num, Lib.hid (below_drewN hX.out _)⟩
        case measure => simp [intOf]; omega
      · obtain ⟨d2, hd2, -, -⟩ := diffs_at (xs := ws) (ys := zs) (i := k - 1) (by omega)
        have hlt2 := diffs_lt (xs := ws) (ys := zs) (i := k - 1) (by omega)
        rw [show k - 1 + 1 = k by omega, hd, hd2] at hlt2
        have e3 := hc (k - 1) _ (ic_get _ (k - 1) (by omega))
        rw [hd2] at e3
        have c4 := (hX.out.cell (p := ⟨lb, _, none⟩) (cell_lt e3)).trans e3
        have z3 : decide ((0 : Int) < (k : Int)) = true := decide_eq_true (by omega)
        have z3' : decide (0 < k) = true := decide_eq_true h0
        have z4 : decide ((d : Int) ≤ (d2 : Int)) = false := decide_eq_false (by omega)
        have z4' : decide (d ≤ d2) = false := decide_eq_false (by omega)
        have k1 : (0 : Int) ≤ (k : Int) - 1 := by omega
        have k1' : (1 : Int) ≤ (k : Int) := by omega
        have k2 : (k : Int) - 1 < ((diffs 0 ws zs).length : Int) := by omega
        have wq2 : IntKind.i64.wrap ((k : Int) - 1) = (k : Int) - 1 := IntWalk.i64_in _ (by omega)
        have wq3 : ((k : Int) - 1).toNat = k - 1 := by omega
        clear hd hd2 hne e1 e2 e3 hc hw1 hA hA1 hXw
        generalize ws.getD d 0 = x at *
        generalize zs.getD d 0 = y at *
        go_upto_region 25 with (fail)
        go_quiet (fail)
        go_wp2
        go_roundw
        case rel => exact ⟨k + 1, by omega, by go_num, Lib.hid (below_drewN hX.out _)⟩
        case measure => simp [intOf]; omega
    · obtain ⟨sp1, sp2⟩ := SEP.out vg rfl
      have hXw := below_end XI.out hX.out
      have hz1' : (0 : Int) < (zs.length : Int) := by omega
      obtain ⟨c1, c2⟩ := row_cell (own_below (own_below V6.out B9.out) hX.out) rfl (k := 0) hz1
      have gs := grown_set wr vg 0 (.int .u64 7)
      have SC := Lib.hid (S13 ws was (.slice A1 ws.length p1) (wr.setCell ⟨vg, 0, none⟩ (.int .u64 7)) (by omega) (WAt.of_own ((own_below (own_below P6.out B9.out) hX.out).kept gs (.inr sp2))) (H1.out.far hXw sp1 _))
      have XW := Lib.hid (hXw.setCell (p := ⟨vg, 0, none⟩) sp1 (.int .u64 7))
      clear gs hXw
      go_wp2_with (first
        | (go_at_call 13; (with_reducible refine SC.out.mono ?_); rintro e Wx ⟨rfl, hb⟩; have XX := Lib.hid (below_end XW.out hb); clear hb)
        | (go_at_call 10; refine (awake10 _).mono ?_; rintro e u3 ⟨rfl, hu3⟩))
      exact bodyPost_ret (v := .bool true) (by simp [results, Try.f8, go_sem]) rfl ⟨rfl, below_end XX.out hu3⟩
set_option maxRecDepth 100000 in
set_option maxHeartbeats 4000000 in
theorem only8_4_err (A1 : Option Addr) (p1 : Nat) (ws : List Int) (a b n E : Int) (hE : E ≠ 0) (z : Int) (w : World) (h1 : WAt w (.slice A1 ws.length p1) ws) (hnil : A1 = none → ws.length = 0 ∧ p1 = 0) (hw : ws.length ≤ 200)
    (F22 : clrF ws a n = ([], E)) (FP : playF ws [⟨4, a, b, n, z⟩] = AAns.err 0 E) :
    Calls Try.prog 8 #[.slice A1 ws.length p1, .agg #[.int .i64 4, .int .i64 a, .int .i64 b, .int .i64 n, .int .u64 z]] w fun e w' => e = .returned (.bool true) ∧ Below w.heap.size w w' := by
  have G18 := Lib.hid (fun W hb => set18 (.slice A1 ws.length p1) ws a z W (WAt.below (W := w) h1 hb) (by omega))
  rw [after_set] at G18
  have G22 := Lib.hid (fun W hb => clear22 (.slice A1 ws.length p1) ws a n W (WAt.below (W := w) h1 hb) (by omega))
  rw [after_clr, F22] at G22
  have G29 := Lib.hid (fun W lv hb (hl : OAt W lv [⟨4, a, b, n, z⟩]) => play29 (.slice A1 ws.length p1) lv ws [⟨4, a, b, n, z⟩] W (WAt.below (W := w) h1 hb) hl (by omega) (by simp))
  rw [FP, show AAns.err 0 E = ⟨[], [], 0, 0, 0, E⟩ from rfl] at G29
  have H1 := Lib.hid h1
  have X0 := Lib.hid (show Below w.heap.size w (w.alloc (.cells #[.int .i64 4, .int .i64 a, .int .i64 b, .int .i64 n, .int .u64 z] 56)) from alloc_below _ _)
  have N0 := Lib.hid (heap_alloc_new w (.cells #[.int .i64 4, .int .i64 a, .int .i64 b, .int .i64 n, .int .u64 z] 56))
  have ZZ := Lib.hid (World.size_alloc w (.cells #[.int .i64 4, .int .i64 a, .int .i64 b, .int .i64 n, .int .u64 z] 56))
  have q : decide ((200 : Int) < (ws.length : Int)) = false := decide_eq_false (by omega)
  generalize setF ws a z = S at *
  obtain ⟨s1, s2⟩ := S
  clear FP F22 h1
  go_enter Try.func8, Try.ntmps8
  go_upto_region 3 with (fail)
  generalize w.alloc (.cells #[.int .i64 4, .int .i64 a, .int .i64 b, .int .i64 n, .int .u64 z] 56) = X at *
  have ER := Lib.hid (empty_words (Below.refl X.heap.size X))
  have EB := Lib.hid (alloc_below X (.cells #[] 25))
  have HX := Lib.hid (H1.out.below X0.out)
  go_upto_region 4 with (at_builtin; refine push_any ER.out EB.out HX.out hnil rfl _ _ rfl rfl rfl (by omega) ?_; intro was W1 ho hb; have O1 := Lib.hid ho; have B1 := Lib.hid hb; clear ho hb)
  have X1 := Lib.hid (below_end X0.out B1.out)
  obtain ⟨q0, q1, q2, q3, q4⟩ := op_cells (keep_heap B1.out N0.out)
  clear ER EB HX
  go_upto_region 5 with (go_at_call 18; refine (G18.out _ X1.out).mono ?_; intro e W2 h2; obtain ⟨v2, rfl, ho, hb⟩ := h2.own; have V2 := Lib.hid ho; have B2 := Lib.hid hb; clear h2 ho hb q0 q1 q2 q3 q4)
  have B12 := Lib.hid (below_end B1.out B2.out)
  have X2 := Lib.hid (below_end X0.out B12.out)
  have O2 := Lib.hid (own_below O1.out B2.out)
  have SP := Lib.hid (show X.heap.size = w.heap.size + 1 ∧ X.heap.size ≤ W1.heap.size ∧ W1.heap.size ≤ W2.heap.size from ⟨ZZ.out, B1.out.size, B2.out.size⟩)
  obtain ⟨q0, q1, q2, q3, q4⟩ := op_cells (keep_heap B12.out N0.out)
  go_upto_region 11 with (go_at_call 22; refine (G22.out _ X2.out).mono ?_; intro e W3 h3; obtain ⟨v3, rfl, ho, hb⟩ := h3.own; have V3 := Lib.hid ho; have B3 := Lib.hid hb; clear h3 ho hb q0 q1 q2 q3 q4)
  have B13 := Lib.hid (below_end B12.out B3.out)
  obtain ⟨q0, q1, q2, q3, q4⟩ := op_cells (keep_heap B13.out N0.out)
  go_upto_region 14 with (fail)
  obtain ⟨Wt, rfl⟩ : ∃ W : World, W = W3 := ⟨_, rfl⟩
  have BQ := Lib.hid (show Below Wt.heap.size Wt Wt from Below.refl _ _)
  have sp := SP.out
  have NT := Lib.hid (keep_heap BQ.out (keep_heap B13.out N0.out))
  have VT := Lib.hid (own_below V3.out BQ.out)
  have PT := Lib.hid (own_below (own_below O2.out B3.out) BQ.out)
  have XT := Lib.hid (below_end (below_end X2.out B3.out) BQ.out)
  have SEP := Lib.hid (show ∀ g, v3.ownBlock = some g → w.heap.size ≤ g ∧ was.ownBlock ≠ some g from fun g hg => ⟨by have := (V3.out.lt g hg).1; omega, fun e => by have := (V3.out.lt g hg).1; have := (O1.out.lt g e).2; omega⟩)
  clear q0 q1 q2 q3 q4 sp
  obtain ⟨v, hv⟩ : ∃ v, v3 = v := ⟨_, rfl⟩
  subst hv
  obtain ⟨q0, q1, q2, q3, q4⟩ := op_cells NT.out
  go_upto_region 15 with (go_at_call 29; refine (G29.out _ _ (below_end XT.out (alloc_below _ _)) (one_at _ _ _ _ _ _ _ rfl)).mono ?_; rintro e W5 ⟨u, gv, rfl, hU, hG, hb⟩; have B5 := Lib.hid (below_end (alloc_below _ _) hb); have U5 := Lib.hid (WAt.of_own hU); clear hU hG hb)
  have A5 := Lib.hid (alloc_below W5 (.cells #[.int .i64 0, .int .i64 0] 50))
  have CN := Lib.hid (heap_alloc_new W5 (.cells #[.int .i64 0, .int .i64 0] 50))
  have B6 := Lib.hid (below_end B5.out A5.out)
  have U6 := Lib.hid (U5.out.below A5.out)
  have V6 := Lib.hid (own_below VT.out B6.out)
  have P6 := Lib.hid (own_below PT.out B6.out)
  have X6 := Lib.hid (below_end XT.out B6.out)
  clear q0 q1 q2 q3 q4 U5 VT PT A5
  generalize W5.alloc (.cells #[.int .i64 0, .int .i64 0] 50) = Y at *
  generalize W5.heap.size = CB at *
  have SB := Lib.hid (fun W (hb : Below Y.heap.size Y W) => S13 ws was (.slice A1 ws.length p1) W (by omega) ((WAt.of_own P6.out).below hb) (H1.out.below (below_end X6.out hb)))
  obtain ⟨Av, cv, rfl⟩ := own_form V6.out
  have SA := Lib.hid (S13 [] u (.slice Av 0 cv) Y (by simp) U6.out (WAt.of_own V6.out))
  have q1 : (E != 0) = true := by simpa using hE
  clear hE
  go_wp2_with (first
    | (go_at_call 13; first
        | ((with_reducible refine SA.out.mono ?_); rintro e W7 ⟨rfl, hb⟩; have B7 := Lib.hid hb; clear hb)
        | ((with_reducible refine (SB.out _ B7.out).mono ?_); rintro e W8 ⟨rfl, hb⟩; have B8 := Lib.hid (below_end B7.out hb); clear hb))
    | (go_at_call 10; refine (awake10 _).mono ?_; rintro e u3 ⟨rfl, hu3⟩))
  exact bodyPost_ret (v := .bool true) (by simp [results, Try.f8, go_sem]) rfl ⟨rfl, below_end X6.out (below_end B8.out hu3)⟩
theorem only8 (v1 : Value) (o : AOp) (ws : List Int) (w : World) (h1 : WAt w v1 ws) (hnil : ∀ n c, v1 = .slice none n c → n = 0 ∧ c = 0) :
    Calls Try.prog 8 #[v1, opV o] w fun e w' => e = .returned (.bool true) ∧ Below w.heap.size w w' := by
  by_cases hl : 200 < ws.length
  · exact only8_long v1 ws o w h1 hl
  · obtain ⟨A1, p1, rfl, -⟩ := id h1
    have hn : A1 = none → ws.length = 0 ∧ p1 = 0 := fun e => hnil _ _ (by rw [e])
    obtain ⟨kd, a, b, n, z⟩ := o
    unfold opV opC
    dsimp only
    by_cases k3 : kd = 3
    · subst k3
      rcases one_cpy ws a b n z with ⟨zs, lo, nn, h2, rfl, rfl, h3, HO⟩ | ⟨E, hE, h2, h3⟩
      · exact only8_3_ok A1 p1 ws zs lo nn a z w h1 hn (by omega) h2 h3 HO
      · exact only8_3_err A1 p1 ws a b n E hE z w h1 hn (by omega) h2 h3
    · by_cases k4 : kd = 4
      · subst k4
        rcases one_clr ws a b n z with ⟨zs, lo, nn, h2, rfl, rfl, h3, HO⟩ | ⟨E, hE, h2, h3⟩
        · exact only8_4_ok A1 p1 ws zs lo nn b z w h1 hn (by omega) h2 h3 HO
        · exact only8_4_err A1 p1 ws a b n E hE z w h1 hn (by omega) h2 h3
      · rcases one_set ws a b n z with ⟨zs, lo, h2, rfl, h3, HO⟩ | ⟨E, hE, h2, h3⟩
        · exact only8_2_ok A1 p1 ws kd (by simpa using k3) (by simpa using k4) (by simpa using k3) (by simpa using k4) zs lo b n z w h1 hn (by omega) h2 h3 HO
        · exact only8_2_err A1 p1 ws kd (by simpa using k3) (by simpa using k4) (by simpa using k3) (by simpa using k4) a b n E hE z w h1 hn (by omega) h2 h3
end Ytkffabochgmagaa
end Go.Proofs
