/- The reference's asked, Has, Add and Drop. -/
import Derived.Test.YtjkphacidpongaaGreatQSlBg
namespace Go.Proofs
namespace YtjkphacidpongaaGreat
open Go.RowKit

theorem ask_err {cs : List Int} {a : Int} (h : (chkF cs).2 ≠ 0) : askE cs a = (chkF cs).2 := by unfold askE; rw [if_pos h]
theorem ask_ok {cs : List Int} {a : Int} (h : ¬ (chkF cs).2 ≠ 0) : askE cs a = if isA a = true then 0 else 7 := by unfold askE; rw [if_neg h]
set_option maxRecDepth 100000 in
set_option maxHeartbeats 1000000 in
theorem rasked47 (v : Value) (cs : List Int) (a : Int) (w : World) (h : IAt w v cs) (hm : cs.length ≤ 100000) :
    Calls Tryz.prog 73 #[sv v, .int .i64 a] w fun e w' => e = .returned (.int .i64 (askE cs a)) ∧ Below w.heap.size w w' := by
  have h0 := heap_alloc_new w (.cells #[v] 27)
  have hb := alloc_below w (.cells #[v] 27)
  have C := Lib.hid (rcheck14 v cs _ (h.below hb) hm)
  have AD := Lib.hid (fun W => raddr53 a W)
  obtain ⟨A, cap, rfl, -⟩ := h
  have c0 := (one_cell h0).1
  have B := Lib.hid hb
  unfold sv at *
  by_cases hc : (chkF cs).2 ≠ 0
  · rw [ask_err hc]
    generalize chkF cs = r at *
    obtain ⟨r1, r2⟩ := r
    dsimp only at *
    have q : (r2 == 0) = false := by simpa using hc
    generalize cs.length = n at *
    clear h0 hb hc AD
    go_enter Tryz.func73, Tryz.ntmps73
    go_wp2_with (go_at_call 82; refine C.out.mono ?_; rintro e w1 ⟨rfl, hb1⟩; have B1 := Lib.hid (below_end B.out hb1); clear hb1)
    refine bodyPost_ret (v := .int .i64 r2) (by simp [results, Tryz.f73, go_sem]) rfl ⟨rfl, B1.out⟩
  · rw [ask_ok hc]
    have hz : (chkF cs).2 = 0 := Classical.byContradiction hc
    rw [hz] at C
    generalize (chkF cs).1 = r1 at *
    generalize cs.length = n at *
    clear h0 hb hc hz
    cases hi : isA a with
    | true =>
      rw [if_pos rfl]
      rw [hi] at AD
      clear hi
      go_enter Tryz.func73, Tryz.ntmps73
      go_wp2_with (first | (go_at_call 82; refine C.out.mono ?_; rintro e w1 ⟨rfl, hb1⟩; have B1 := Lib.hid (below_end B.out hb1); clear hb1) | (go_at_call 97; refine (AD.out _).mono ?_; rintro e w2 ⟨rfl, rfl⟩))
      refine bodyPost_ret (v := .int .i64 0) (by simp [results, Tryz.f73, go_sem]) rfl ⟨rfl, B1.out⟩
    | false =>
      rw [if_neg (by simp)]
      rw [hi] at AD
      clear hi
      go_enter Tryz.func73, Tryz.ntmps73
      go_wp2_with (first | (go_at_call 82; refine C.out.mono ?_; rintro e w1 ⟨rfl, hb1⟩; have B1 := Lib.hid (below_end B.out hb1); clear hb1) | (go_at_call 97; refine (AD.out _).mono ?_; rintro e w2 ⟨rfl, rfl⟩))
      refine bodyPost_ret (v := .int .i64 7) (by simp [results, Tryz.f73, go_sem]) rfl ⟨rfl, B1.out⟩
end YtjkphacidpongaaGreat
end Go.Proofs
/- The reference's Add and Drop. -/
namespace Go.Proofs
namespace YtjkphacidpongaaGreat
open Go.RowKit

theorem row_set {w W W1 : World} {v : Value} {zs : List Int} (h : Row W1 W v zs) (hs : w.heap.size ≤ W1.heap.size) (b i : Nat) (u : Value) (hb : b < W1.heap.size) : Row w (W.setCell ⟨b, i, none⟩ u) v zs := by
  refine own_mono (World.ownsRow.kept h (grown_set W b i u) ?_) hs
  cases ho : v.ownBlock with
  | none => exact .inl rfl
  | some k => right; have := (World.ownsRow.lt h k ho).1; intro e; injection e with e; omega
theorem box_lt {W : World} {b : Nat} {o : Obj} (h : W.heap[b]? = some o) : b < W.heap.size := (Array.getElem?_eq_some_iff.1 h).1
set_option maxRecDepth 100000 in
set_option maxHeartbeats 1000000 in
theorem radd28_err (v : Value) (cs : List Int) (a : Int) (w : World) (h : IAt w v cs) (hm : cs.length ≤ 100000) (hg : askE cs a ≠ 0) :
    Calls Tryz.prog 36 #[sv v, .int .i64 a] w fun e w' => SbAns w ([], false, askE cs a) e w' := by
  obtain ⟨h0, h1, hs, hb⟩ := two_boxes w (.cells #[v] 27) (.cells #[.slice none 0 0] 27)
  have C := Lib.hid (rasked47 v cs a _ (h.below hb) hm)
  obtain ⟨A, cap, rfl, -⟩ := h
  have c0 := (one_cell h0).1
  have B := Lib.hid hb
  have H1 := Lib.hid h1
  unfold SbAns sv at *
  generalize askE cs a = r at *
  have q : (r != 0) = true := by simpa using hg
  generalize cs.length = n at *
  clear h0 h1 hb hg hs
  go_enter Tryz.func36, Tryz.ntmps36
  go_upto_region 1 with fail
  generalize (w.alloc (.cells #[.slice A n cap] 27)).alloc (.cells #[.slice none 0 0] 27) = W0 at *
  go_wp2_with (go_at_call 73; refine C.out.mono ?_; rintro e w1 ⟨rfl, hb1⟩; have B1 := Lib.hid (below_end B.out hb1); have K1 := Lib.hid (keep_heap hb1 H1.out); obtain ⟨d1, f1⟩ := one_cell K1.out; clear hb1)
  have c4 := (one_cell (set_row K1.out 0 (.slice none 0 0))).1
  refine bodyPost_ret (v := .tuple #[.agg #[.slice none 0 0], .bool false, .int .i64 r]) (by simp [results, Tryz.f36, go_sem, c4]) rfl ⟨_, rfl, row_nil _ _, B1.out.setCell (p := ⟨w.heap.size + 1, 0, none⟩) (by simp) _⟩
set_option maxRecDepth 100000 in
set_option maxHeartbeats 1000000 in
theorem radd28_out (v : Value) (cs : List Int) (a : Int) (w : World) (h : IAt w v cs) (hm : cs.length ≤ 100000) (hg : askE cs a = 0) (hh : hasB cs a = false) :
    Calls Tryz.prog 36 #[sv v, .int .i64 a] w fun e w' => SbAns w (addF cs a, true, 0) e w' := by
  obtain ⟨hG, ha⟩ := ask_zero hg
  obtain ⟨h0, h1, hs, hb⟩ := two_boxes w (.cells #[v] 27) (.cells #[.slice none 0 0] 27)
  have C := Lib.hid (rasked47 v cs a _ (h.below hb) hm)
  rw [hg] at C
  have FI := Lib.hid (fun W (hb : Below w.heap.size w W) => rfind40 v cs a W (h.below hb) hG.zero hm ha)
  have q5 := atF_pos (cs := cs) (a := a)
  rw [hh] at q5
  have AD := Lib.hid (fun W (hb : Below w.heap.size w W) => radd49 v cs a W (h.below hb) hG ha ((hG.tab.hasF hG.zero (by omega)).1 hh))
  obtain ⟨A, cap, rfl, -⟩ := h
  have c0 := (one_cell h0).1
  have B := Lib.hid hb
  have H0 := Lib.hid h0
  have H1 := Lib.hid h1
  unfold SbAns sv at *
  generalize atF cs a = y at *
  generalize addF cs a = D at *
  generalize cs.length = n at *
  clear h0 h1 hb hg hs hG hh
  go_enter Tryz.func36, Tryz.ntmps36
  go_upto_region 1 with fail
  generalize (w.alloc (.cells #[.slice A n cap] 27)).alloc (.cells #[.slice none 0 0] 27) = W0 at *
  go_wp2_with (first
    | (go_at_call 73; refine C.out.mono ?_; rintro e w1 ⟨rfl, hb1⟩; have B1 := Lib.hid (below_end B.out hb1); have K1 := Lib.hid (keep_heap hb1 H1.out); have c1 := (one_cell (keep_heap hb1 H0.out)).1; clear hb1)
    | (go_at_call 74; refine (FI.out _ B1.out).mono ?_; rintro e w2 ⟨rfl, rfl⟩)
    | (go_at_call 75; refine (AD.out _ B1.out).mono ?_; rintro e w3 ⟨u, rfl, hr, hb3⟩; have R3 := Lib.hid hr; have B3 := Lib.hid (below_end B1.out hb3); have K3 := Lib.hid (keep_heap hb3 K1.out); obtain ⟨d3, f3⟩ := one_cell K3.out; obtain ⟨A3, c3, rfl⟩ := own_form hr; clear hr hb3))
  have c4 := (one_cell (set_row K3.out 0 (.slice A3 D.length c3))).1
  refine bodyPost_ret (v := .tuple #[.agg #[.slice A3 D.length c3], .bool true, .int .i64 0]) (by simp [results, Tryz.f36, go_sem, c4]) rfl ⟨_, rfl, row_set R3.out B1.out.size _ _ _ (box_lt K1.out), B3.out.setCell (p := ⟨w.heap.size + 1, 0, none⟩) (by simp) _⟩
set_option maxRecDepth 100000 in
set_option maxHeartbeats 1000000 in
theorem radd28_in (v : Value) (cs : List Int) (a : Int) (w : World) (h : IAt w v cs) (hm : cs.length ≤ 100000) (hg : askE cs a = 0) (hh : hasB cs a = true) :
    Calls Tryz.prog 36 #[sv v, .int .i64 a] w fun e w' => SbAns w (cs, false, 0) e w' := by
  obtain ⟨hG, ha⟩ := ask_zero hg
  have hl := hG.tab.lo
  obtain ⟨h0, h1, hs, hb⟩ := two_boxes w (.cells #[v] 27) (.cells #[.slice none 0 0] 27)
  have C := Lib.hid (rasked47 v cs a _ (h.below hb) hm)
  rw [hg] at C
  have FI := Lib.hid (fun W (hb : Below w.heap.size w W) => rfind40 v cs a W (h.below hb) hG.zero hm ha)
  have q5 := atF_pos (cs := cs) (a := a)
  rw [hh] at q5
  have IV := Lib.hid (fun W (hb : Below w.heap.size w W) => h.below hb)
  obtain ⟨A, cap, rfl, -⟩ := h
  have c0 := (one_cell h0).1
  have B := Lib.hid hb
  have H0 := Lib.hid h0
  have H1 := Lib.hid h1
  have HL := Lib.hid (show 0 < cs.length ∧ ([] : List Int).length + cs.length ≤ 1000000 from ⟨by omega, by simp; omega⟩)
  have HN := Lib.hid (show ([] : List Int).length + cs.length = cs.length by simp)
  unfold SbAns sv at *
  generalize atF cs a = y at *
  clear h0 h1 hb hg hs hG hh
  go_enter Tryz.func36, Tryz.ntmps36
  go_upto_region 1 with fail
  generalize (w.alloc (.cells #[.slice A cs.length cap] 27)).alloc (.cells #[.slice none 0 0] 27) = W0 at *
  go_wp2_with (first
    | (go_at_call 73; refine C.out.mono ?_; rintro e w1 ⟨rfl, hb1⟩; have B1 := Lib.hid (below_end B.out hb1); have K1 := Lib.hid (keep_heap hb1 H1.out); have c1 := (one_cell (keep_heap hb1 H0.out)).1; have ba := alloc_below w1 (.cells #[] 3); have BA := Lib.hid ba; have BB := Lib.hid (below_end B1.out ba); have c2 := (one_cell (keep_heap ba (keep_heap hb1 H0.out))).1; clear hb1 ba)
    | (go_at_call 74; refine (FI.out _ B1.out).mono ?_; rintro e w2 ⟨rfl, rfl⟩)
    | (at_builtin; refine push_all (w := w1) (xs := []) (empty_row (Below.refl _ _)) BA.out (IV.out _ BB.out) HL.out.1 rfl _ _ rfl rfl rfl HL.out.2 ?_; intro g cap2 W3 ho hb3; have R3 := Lib.hid ho; have B3 := Lib.hid (below_end B1.out hb3); have K3 := Lib.hid (keep_heap hb3 K1.out); obtain ⟨d3, f3⟩ := one_cell K3.out; clear ho hb3))
  have R4 := Lib.hid (show Row w1 W3 (.slice (some ⟨g, 0, none⟩) cs.length cap2) cs by have := R3.out; rwa [List.nil_append, HN.out] at this)
  have c4 := (one_cell (set_row K3.out 0 (.slice (some ⟨g, 0, none⟩) cs.length cap2))).1
  refine bodyPost_ret (v := .tuple #[.agg #[.slice (some ⟨g, 0, none⟩) cs.length cap2], .bool false, .int .i64 0]) (by simp [results, Tryz.f36, go_sem, c4]) rfl ⟨_, rfl, row_set R4.out B1.out.size _ _ _ (box_lt K1.out), B3.out.setCell (p := ⟨w.heap.size + 1, 0, none⟩) (by simp) _⟩
theorem radd28 (v : Value) (cs : List Int) (a : Int) (w : World) (h : IAt w v cs) (hm : cs.length ≤ 100000) :
    Calls Tryz.prog 36 #[sv v, .int .i64 a] w fun e w' => SbAns w (addA cs a) e w' := by
  unfold addA
  by_cases hg : askE cs a = 0
  · rw [if_neg (by simp [hg])]
    cases hh : hasB cs a with
    | true =>
      have e : addF cs a = cs := by unfold addF; rw [hh]; rfl
      rw [e]
      exact radd28_in v cs a w h hm hg hh
    | false => exact radd28_out v cs a w h hm hg hh
  · rw [if_pos hg]
    exact radd28_err v cs a w h hm hg
theorem atF_yes {cs : List Int} {a : Int} (h : hasB cs a = true) : atF cs a = (pos a cs.length (stopI cs a) : Int) := by unfold atF; rw [h]; rfl
theorem atF_no {cs : List Int} {a : Int} (h : hasB cs a = false) : atF cs a = -1 := by unfold atF; rw [h]; rfl
set_option maxRecDepth 100000 in
set_option maxHeartbeats 1000000 in
theorem rdrop30_ok (v : Value) (cs : List Int) (a : Int) (w : World) (h : IAt w v cs) (hm : cs.length ≤ 100000) (hg : askE cs a = 0) :
    Calls Tryz.prog 87 #[sv v, .int .i64 a] w fun e w' => SbAns w (dropF cs a, hasB cs a, 0) e w' := by
  obtain ⟨hG, ha⟩ := ask_zero hg
  have hl := hG.tab.lo
  obtain ⟨h0, h1, hs, hb⟩ := two_boxes w (.cells #[v] 27) (.cells #[.slice none 0 0] 27)
  have C := Lib.hid (rasked47 v cs a _ (h.below hb) hm)
  rw [hg] at C
  have FI := Lib.hid (fun W u (hu : IAt W u cs) => rfind40 u cs a W hu hG.zero hm ha)
  have IV := Lib.hid (fun W (hb : Below w.heap.size w W) => h.below hb)
  obtain ⟨A, cap, rfl, -⟩ := h
  have c0 := (one_cell h0).1
  have B := Lib.hid hb
  have H0 := Lib.hid h0
  have H1 := Lib.hid h1
  have HL := Lib.hid (show 0 < cs.length ∧ ([] : List Int).length + cs.length ≤ 1000000 from ⟨by omega, by simp; omega⟩)
  have HN := Lib.hid (show ([] : List Int).length + cs.length = cs.length by simp)
  unfold SbAns sv at *
  cases hh : hasB cs a with
  | false =>
    have e1 := atF_no hh
    rw [e1] at FI
    rw [drop_no hh]
    clear h0 h1 hb hg hs hG hh e1
    go_enter Tryz.func87, Tryz.ntmps87
    go_upto_region 1 with fail
    generalize (w.alloc (.cells #[.slice A cs.length cap] 27)).alloc (.cells #[.slice none 0 0] 27) = W0 at *
    go_wp2_with (first
      | (go_at_call 73; refine C.out.mono ?_; rintro e w1 ⟨rfl, hb1⟩; have B1 := Lib.hid (below_end B.out hb1); have K1 := Lib.hid (keep_heap hb1 H1.out); have ba := alloc_below w1 (.cells #[] 3); have BA := Lib.hid ba; have BB := Lib.hid (below_end B1.out ba); have c2 := (one_cell (keep_heap ba (keep_heap hb1 H0.out))).1; clear hb1 ba)
      | (at_builtin; refine push_all (w := w1) (xs := []) (empty_row (Below.refl _ _)) BA.out (IV.out _ BB.out) HL.out.1 rfl _ _ rfl rfl rfl HL.out.2 ?_; intro g cap2 W3 ho hb3; have R4 := Lib.hid (show Row w1 W3 (.slice (some ⟨g, 0, none⟩) cs.length cap2) cs by rwa [List.nil_append, HN.out] at ho); have FW := Lib.hid (FI.out _ _ R4.out.iat); have B3 := Lib.hid (below_end B1.out hb3); have K3 := Lib.hid (keep_heap hb3 K1.out); obtain ⟨d3, f3⟩ := one_cell K3.out; clear ho hb3)
      | (go_at_call 74; refine FW.out.mono ?_; rintro e w2 ⟨rfl, rfl⟩))
    have c4 := (one_cell (set_row K3.out 0 (.slice (some ⟨g, 0, none⟩) cs.length cap2))).1
    refine bodyPost_ret (v := .tuple #[.agg #[.slice (some ⟨g, 0, none⟩) cs.length cap2], .bool false, .int .i64 0]) (by simp [results, Tryz.f87, go_sem, c4]) rfl ⟨_, rfl, row_set R4.out B1.out.size _ _ _ (box_lt K1.out), B3.out.setCell (p := ⟨w.heap.size + 1, 0, none⟩) (by simp) _⟩
  | true =>
    have e1 := atF_yes hh
    rw [e1] at FI
    rw [drop_yes hh]
    have hp := pos_lt a (show 0 < cs.length by omega) (stopI cs a)
    have DL := Lib.hid (show (cs.set (pos a cs.length (stopI cs a)) (-1)).length = cs.length from List.length_set)
    generalize pos a cs.length (stopI cs a) = p at *
    obtain ⟨D, hD⟩ : ∃ D, cs.set p (-1) = D := ⟨_, rfl⟩
    have HD := Lib.hid hD
    rw [hD] at DL ⊢
    have hpn : (p : Int) < (cs.length : Int) := by omega
    have ad1 : ∀ g : Nat, (⟨g, 0, none⟩ : Addr).add p = ⟨g, p, none⟩ := fun g => by unfold Addr.add; split <;> simp_all
    clear h0 h1 hb hg hs hG hh e1 hD
    go_enter Tryz.func87, Tryz.ntmps87
    go_upto_region 1 with fail
    generalize (w.alloc (.cells #[.slice A cs.length cap] 27)).alloc (.cells #[.slice none 0 0] 27) = W0 at *
    go_upto_region 7 with (first
      | (go_at_call 73; refine C.out.mono ?_; rintro e w1 ⟨rfl, hb1⟩; have B1 := Lib.hid (below_end B.out hb1); have K1 := Lib.hid (keep_heap hb1 H1.out); have ba := alloc_below w1 (.cells #[] 3); have BA := Lib.hid ba; have BB := Lib.hid (below_end B1.out ba); have c2 := (one_cell (keep_heap ba (keep_heap hb1 H0.out))).1; clear hb1 ba)
      | (at_builtin; refine push_all (w := w1) (xs := []) (empty_row (Below.refl _ _)) BA.out (IV.out _ BB.out) HL.out.1 rfl _ _ rfl rfl rfl HL.out.2 ?_; intro g cap2 W3 ho hb3; have R4 := Lib.hid (show Row w1 W3 (.slice (some ⟨g, 0, none⟩) cs.length cap2) cs by rwa [List.nil_append, HN.out] at ho); have FW := Lib.hid (FI.out _ _ R4.out.iat); have B3 := Lib.hid hb3; clear ho hb3)
      | (go_at_call 74; refine FW.out.mono ?_; rintro e w2 ⟨rfl, rfl⟩))
    obtain ⟨g1, g2⟩ := irow_cell R4.out rfl hp
    obtain ⟨o4, b4⟩ := irow_put R4.out B3.out p (-1)
    rw [HD.out] at o4
    have R5 := Lib.hid (show Row w1 (W3.setCell ⟨g, p, none⟩ (.int .i64 (-1))) (.slice (some ⟨g, 0, none⟩) cs.length cap2) D by unfold Row; rw [DL.out]; exact o4)
    have B5 := Lib.hid (below_end B1.out b4)
    have K5 := Lib.hid (keep_heap b4 K1.out)
    obtain ⟨d3, f3⟩ := one_cell K5.out
    have a1 := ad1 g
    generalize cs.getD p 0 = old at *
    clear ad1 o4 b4
    go_wp2
    have c4 := (one_cell (set_row K5.out 0 (.slice (some ⟨g, 0, none⟩) cs.length cap2))).1
    refine bodyPost_ret (v := .tuple #[.agg #[.slice (some ⟨g, 0, none⟩) cs.length cap2], .bool true, .int .i64 0]) (by simp [results, Tryz.f87, go_sem, c4]) rfl ⟨_, rfl, row_set R5.out B1.out.size _ _ _ (box_lt K1.out), B5.out.setCell (p := ⟨w.heap.size + 1, 0, none⟩) (by simp) _⟩
set_option maxRecDepth 100000 in
set_option maxHeartbeats 1000000 in
theorem rdrop30_err (v : Value) (cs : List Int) (a : Int) (w : World) (h : IAt w v cs) (hm : cs.length ≤ 100000) (hg : askE cs a ≠ 0) :
    Calls Tryz.prog 87 #[sv v, .int .i64 a] w fun e w' => SbAns w ([], false, askE cs a) e w' := by
  obtain ⟨h0, h1, hs, hb⟩ := two_boxes w (.cells #[v] 27) (.cells #[.slice none 0 0] 27)
  have C := Lib.hid (rasked47 v cs a _ (h.below hb) hm)
  obtain ⟨A, cap, rfl, -⟩ := h
  have c0 := (one_cell h0).1
  have B := Lib.hid hb
  have H1 := Lib.hid h1
  unfold SbAns sv at *
  generalize askE cs a = r at *
  have q : (r != 0) = true := by simpa using hg
  generalize cs.length = n at *
  clear h0 h1 hb hg hs
  go_enter Tryz.func87, Tryz.ntmps87
  go_upto_region 1 with fail
  generalize (w.alloc (.cells #[.slice A n cap] 27)).alloc (.cells #[.slice none 0 0] 27) = W0 at *
  go_wp2_with (go_at_call 73; refine C.out.mono ?_; rintro e w1 ⟨rfl, hb1⟩; have B1 := Lib.hid (below_end B.out hb1); have K1 := Lib.hid (keep_heap hb1 H1.out); obtain ⟨d1, f1⟩ := one_cell K1.out; clear hb1)
  have c4 := (one_cell (set_row K1.out 0 (.slice none 0 0))).1
  refine bodyPost_ret (v := .tuple #[.agg #[.slice none 0 0], .bool false, .int .i64 r]) (by simp [results, Tryz.f87, go_sem, c4]) rfl ⟨_, rfl, row_nil _ _, B1.out.setCell (p := ⟨w.heap.size + 1, 0, none⟩) (by simp) _⟩
theorem rdrop30 (v : Value) (cs : List Int) (a : Int) (w : World) (h : IAt w v cs) (hm : cs.length ≤ 100000) :
    Calls Tryz.prog 87 #[sv v, .int .i64 a] w fun e w' => SbAns w (dropA cs a) e w' := by
  unfold dropA
  by_cases hg : askE cs a = 0
  · rw [if_neg (by simp [hg])]
    exact rdrop30_ok v cs a w h hm hg
  · rw [if_pos hg]
    exact rdrop30_err v cs a w h hm hg
end YtjkphacidpongaaGreat
end Go.Proofs
