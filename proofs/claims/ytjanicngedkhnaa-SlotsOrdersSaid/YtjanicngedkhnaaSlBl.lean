/- The reference's Join. -/
import Derived.Test.YtjanicngedkhnaaSlBk
namespace Go.Proofs
namespace Ytjanicngedkhnaa
open Go.RowKit

set_option maxRecDepth 100000 in
set_option maxHeartbeats 400000 in
theorem rjoin34_err (v : Value) (cs : List Int) (u : Value) (ts : List Int) (w : World) (h : IAt w v cs) (hu : IAt w u ts) (hm : cs.length ≤ 100000) (hm2 : ts.length ≤ 100000) (hj : (joinA cs ts).2 ≠ 0) :
    Calls Try.prog 34 #[sv v, sv u] w fun e w' => SeAns w ([], (joinA cs ts).2) e w' := by
  obtain ⟨h0, h1, h2, hs, hb⟩ := three_boxes w (.cells #[v] 24) (.cells #[u] 24) (.cells #[.slice none 0 0] 24)
  have C := Lib.hid (rcheck14 v cs _ (h.below hb) hm)
  have D := Lib.hid (fun W (hb : Below w.heap.size w W) => rcheck14 u ts W (hu.below hb) hm2)
  have B := Lib.hid hb
  have H2 := Lib.hid h2
  have H1 := Lib.hid h1
  by_cases hg : (chkF cs).2 ≠ 0
  · rw [join_1 hg]
    obtain ⟨A, cap, rfl, -⟩ := h
    obtain ⟨A2, cap2, rfl, -⟩ := hu
    have c0 := (one_cell h0).1
    unfold SeAns sv at *
    generalize cs.length = n at *
    generalize ts.length = n2 at *
    generalize chkF cs = r at *
    obtain ⟨r1, r⟩ := r
    dsimp only at *
    have q : (r != 0) = true := by simpa using hg
    have q' : (r == 0) = false := by simpa using hg
    clear h0 h1 h2 hb hs hg hj
    go_enter Try.func34, Try.ntmps34
    go_upto_region 1 with fail
    generalize ((w.alloc (.cells #[.slice A n cap] 24)).alloc (.cells #[.slice A2 n2 cap2] 24)).alloc (.cells #[.slice none 0 0] 24) = W0 at *
    go_wp2_with (go_at_call 14; refine C.out.mono ?_; rintro e w1 ⟨rfl, hb1⟩; have B1 := Lib.hid (below_end B.out hb1); have K1 := Lib.hid (keep_heap hb1 H2.out); obtain ⟨d1, f1⟩ := one_cell K1.out; clear hb1)
    have c4 := (one_cell (set_row K1.out 0 (.slice none 0 0))).1
    refine bodyPost_ret (v := .tuple #[.agg #[.slice none 0 0], .int .i64 r]) (by simp [results, Try.f34, go_sem, c4]) rfl ⟨_, rfl, row_nil _ _, B1.out.setCell (p := ⟨w.heap.size + 2, 0, none⟩) (by simp) _⟩
  · have hg2 : (chkF ts).2 ≠ 0 := Classical.byContradiction fun h2 => hj (by rw [join_3 hg h2])
    rw [join_2 hg hg2]
    have hz : (chkF cs).2 = 0 := Classical.byContradiction hg
    rw [hz] at C
    obtain ⟨A, cap, rfl, -⟩ := h
    obtain ⟨A2, cap2, rfl, -⟩ := hu
    have c0 := (one_cell h0).1
    unfold SeAns sv at *
    generalize cs.length = n at *
    generalize ts.length = n2 at *
    generalize (chkF cs).1 = z at *
    generalize chkF ts = r at *
    obtain ⟨r1, r⟩ := r
    dsimp only at *
    have q : (r != 0) = true := by simpa using hg2
    clear h0 h1 h2 hb hs hg hg2 hj hz
    go_enter Try.func34, Try.ntmps34
    go_upto_region 1 with fail
    generalize ((w.alloc (.cells #[.slice A n cap] 24)).alloc (.cells #[.slice A2 n2 cap2] 24)).alloc (.cells #[.slice none 0 0] 24) = W0 at *
    go_upto_region 3 with (go_at_call 14; refine C.out.mono ?_; rintro e w1 ⟨rfl, hb1⟩; have B1 := Lib.hid (below_end B.out hb1); have K1 := Lib.hid (keep_heap hb1 H2.out); have c1 := (one_cell (keep_heap hb1 H1.out)).1; clear hb1)
    go_wp2_with (go_at_call 14; refine (D.out _ B1.out).mono ?_; rintro e w2 ⟨rfl, hb2⟩; have B2 := Lib.hid (below_end B1.out hb2); have K2 := Lib.hid (keep_heap hb2 K1.out); obtain ⟨d1, f1⟩ := one_cell K2.out; clear hb2)
    have c4 := (one_cell (set_row K2.out 0 (.slice none 0 0))).1
    refine bodyPost_ret (v := .tuple #[.agg #[.slice none 0 0], .int .i64 r]) (by simp [results, Try.f34, go_sem, c4]) rfl ⟨_, rfl, row_nil _ _, B2.out.setCell (p := ⟨w.heap.size + 2, 0, none⟩) (by simp) _⟩
set_option maxRecDepth 100000 in
set_option maxHeartbeats 1000000 in
theorem rjoin34_ok (v : Value) (cs : List Int) (u : Value) (ts : List Int) (w : World) (h : IAt w v cs) (hu : IAt w u ts) (hm : cs.length ≤ 100000) (hm2 : ts.length ≤ 100000) (hG : Good cs) (hT : Good ts) :
    Calls Try.prog 34 #[sv v, sv u] w fun e w' => SeAns w ((srt ts).foldl addF cs, 0) e w' := by
  obtain ⟨h0, h1, h2, hs, hb⟩ := three_boxes w (.cells #[v] 24) (.cells #[u] 24) (.cells #[.slice none 0 0] 24)
  have C := Lib.hid (rcheck14 v cs _ (h.below hb) hm)
  have D := Lib.hid (fun W (hb : Below w.heap.size w W) => rcheck14 u ts W (hu.below hb) hm2)
  rw [chk_of_good hG] at C
  rw [chk_of_good hT] at D
  have SO := Lib.hid (fun W (hb : Below w.heap.size w W) => rsorted44 u ts W (hu.below hb) (fun c hc => (hT.tab.rng c hc).2) hm2)
  have IV := Lib.hid (fun W (hb : Below w.heap.size w W) => h.below hb)
  have hsr : ∀ x ∈ srt ts, 1 ≤ x ∧ x ≤ 1600 := fun x hx => (mem_srt.1 hx).1
  have hsl := srt_len ts
  have B := Lib.hid hb
  have H0 := Lib.hid h0
  have H1 := Lib.hid h1
  have H2 := Lib.hid h2
  have HS := Lib.hid hs
  have hlo := hG.tab.lo
  have HL := Lib.hid (show 0 < cs.length ∧ ([] : List Int).length + cs.length ≤ 1000000 from ⟨by omega, by simp; omega⟩)
  have HN := Lib.hid (show ([] : List Int).length + cs.length = cs.length by simp)
  obtain ⟨A, cap, rfl, -⟩ := h
  obtain ⟨A2, cap2, rfl, -⟩ := hu
  have c0 := (one_cell h0).1
  dsimp only at C D
  obtain ⟨L, hL⟩ : ∃ L, srt ts = L := ⟨_, rfl⟩
  rw [hL] at SO hsr hsl ⊢
  obtain ⟨G, hGG⟩ : ∃ G : Nat → List Int, ∀ j, (L.take j).foldl addF cs = G j := ⟨_, fun _ => rfl⟩
  obtain ⟨k, hk⟩ : ∃ k, L.length = k := ⟨_, rfl⟩
  have HM := Lib.hid hk
  have SG := Lib.hid (fun j (hj : j < k) => (show G (j + 1) = addF (G j) (L.getD j 0) by rw [← hGG, ← hGG]; exact foldl_take_snoc addF L cs (by rw [hk]; exact hj)))
  have G0 := Lib.hid (show cs = G 0 by rw [← hGG]; simp)
  have GM := Lib.hid (show L.foldl addF cs = G k by rw [← hGG, ← hk, List.take_length])
  have GG := Lib.hid (fun j => (show Good (G j) by rw [← hGG]; exact adds_upto hG hsr j))
  have IA := Lib.hid (fun j (hj : j < k) => hsr _ (getD_mem (show j < L.length by omega)))
  unfold SeAns sv at *
  generalize ts.length = n2 at *
  rw [hk] at hsl
  clear h0 h1 h2 hb hs hG hT hsr hL hGG hk
  go_enter Try.func34, Try.ntmps34
  go_upto_region 1 with fail
  generalize ((w.alloc (.cells #[.slice A cs.length cap] 24)).alloc (.cells #[.slice A2 n2 cap2] 24)).alloc (.cells #[.slice none 0 0] 24) = W0 at *
  go_upto_region 3 with (go_at_call 14; refine C.out.mono ?_; rintro e w1 ⟨rfl, hb1⟩; have B1 := Lib.hid (below_end B.out hb1); have K1 := Lib.hid (keep_heap hb1 H2.out); have M1 := Lib.hid (keep_heap hb1 H1.out); have N1 := Lib.hid (keep_heap hb1 H0.out); have c1 := (one_cell M1.out).1; clear hb1)
  go_upto_region 6 with (go_at_call 14; refine (D.out _ B1.out).mono ?_; rintro e w2 ⟨rfl, hb2⟩; have B2 := Lib.hid (below_end B1.out hb2); have K2 := Lib.hid (keep_heap hb2 K1.out); have M2 := Lib.hid (keep_heap hb2 M1.out); have N2 := Lib.hid (keep_heap hb2 N1.out); clear hb2)
  have ba := alloc_below w2 (.cells #[] 3)
  have BA := Lib.hid ba
  have BB := Lib.hid (below_end B2.out ba)
  have c2 := (one_cell (keep_heap ba N2.out)).1
  clear ba
  go_upto_region 7 with (at_builtin; refine push_all (w := w2) (xs := []) (empty_row (Below.refl _ _)) BA.out (IV.out _ BB.out) HL.out.1 rfl _ _ rfl rfl rfl HL.out.2 ?_; intro g cap3 W3 ho hb3; have R3 := Lib.hid (show Row w2 W3 (.slice (some ⟨g, 0, none⟩) cs.length cap3) cs by rwa [List.nil_append, HN.out] at ho); have B3 := Lib.hid hb3; have c3 := (one_cell (keep_heap hb3 M2.out)).1; clear ho hb3)
  go_upto_region 8 with (go_at_call 44; refine (SO.out _ (below_end B2.out B3.out)).mono ?_; rintro e w4 ⟨x, rfl, hr, hb4⟩; have I4 := Lib.hid hr.iat; have R4 := Lib.hid (R3.out.below hb4); have B4 := Lib.hid (below_end B3.out hb4); obtain ⟨A4, c4, rfl⟩ := own_form hr; clear hr hb4)
  rw [HM.out]
  have HA : Hid (∀ X, Below w4.heap.size w4 X → ∀ j, j < k → ∃ b off, A4 = some ⟨b, off, none⟩ ∧ X.cell? ⟨b, off + j, none⟩ = some (.int .i64 (L.getD j 0))) := Lib.hid (by
    intro X hx j hj
    obtain ⟨A1, cap', e, hc⟩ := I4.out.below hx
    cases e
    obtain ⟨b, off, h1, h2⟩ := hc (by rw [HM.out]; omega)
    exact ⟨b, off, h1, h2 j (by rw [HM.out]; omega)⟩)
  have R5 := Lib.hid (show Row w2 w4 (.slice (some ⟨g, 0, none⟩) cs.length cap3) (G 0) by rw [← G0.out]; exact R4.out)
  clear I4 R4 R3 c0 c1 c2 c3
  generalize cs.length = n at *
  go_wp2
  go_loopw [8, 10] (fun o i wr => ∃ j : Nat, j ≤ k ∧ i = .int .i64 j ∧ Hid (Row w2 wr o (G j)) ∧ Hid (Below w4.heap.size w4 wr)) (fun _ i _ => k - (intOf i).toNat)
  case atStart => exact ⟨0, by omega, rfl, R5, Lib.hid (Below.refl _ _)⟩
  case round =>
    obtain ⟨j, hj, rfl, HR, HB⟩ := hrel
    by_cases hlt : j < k
    · have hlt' : (j : Int) < (k : Int) := by omega
      obtain ⟨b1, o1, rfl, ca'⟩ := HA.out _ HB.out j hlt
      have ad1 : (⟨b1, o1, none⟩ : Addr).add j = ⟨b1, o1 + j, none⟩ := by unfold Addr.add; split <;> simp_all
      have hx := IA.out j hlt
      have hG := GG.out j
      have SK := Lib.hid (SG.out j hlt)
      generalize L.getD j 0 = x at *
      generalize G j = d at *
      have F1 := Lib.hid (rfind40 _ d x wr HR.out.iat hG.zero (by have := hG.tab.hi; omega) hx)
      have AA := Lib.hid (fun (hh : hasB d x = false) => radd49 _ d x wr HR.out.iat hG hx ((hG.tab.hasF hG.zero (by omega)).1 hh))
      obtain ⟨A2, c2, e5⟩ := own_form HR.out
      subst e5
      have q5 := atF_neg (cs := d) (a := x)
      generalize atF d x = y at *
      cases hh : hasB d x with
      | true =>
        rw [hh] at q5
        have q5 : decide (y < 0) = false := q5
        have R2 := Lib.hid (show Row w2 wr (.slice A2 d.length c2) (G (j + 1)) by rw [SK.out, add_found hh]; exact HR.out)
        generalize d.length = dn at *
        clear hh hG AA
        go_wp2_with (go_at_call 40; refine F1.out.mono ?_; rintro e w3 ⟨rfl, rfl⟩)
        refine ⟨⟨j + 1, by omega, by simp, R2, HB⟩, ?_⟩
        show k - ((j : Int) + 1).toNat < k - ((j : Int)).toNat
        omega
      | false =>
        rw [hh] at q5
        have q5 : decide (y < 0) = true := q5
        have AA := Lib.hid ((AA.out hh).mono fun e w' ⟨u, h1, h2, h3⟩ => (show ∃ u, e = Ending.returned u ∧ Row wr w' u (G (j + 1)) ∧ Below wr.heap.size wr w' from ⟨u, h1, by rw [SK.out]; exact h2, h3⟩))
        obtain ⟨d2, hd2⟩ : ∃ d2, G (j + 1) = d2 := ⟨_, rfl⟩
        have HD2 := Lib.hid hd2
        rw [hd2] at AA
        clear hd2
        generalize d.length = dn at *
        clear hh hG
        go_wp2_with (first
          | (go_at_call 40; refine F1.out.mono ?_; rintro e w3 ⟨rfl, rfl⟩)
          | (go_at_call 49; refine AA.out.mono ?_; rintro e w4 ⟨x4, rfl, hr, hb4⟩; have R4 := Lib.hid (row_mono hr (Nat.le_trans B4.out.size HB.out.size)); have B4 := Lib.hid (below_end HB.out hb4); obtain ⟨A4, c4, rfl⟩ := own_form hr; clear hr hb4))
        refine ⟨⟨j + 1, by omega, by simp, Lib.hid (by rw [HD2.out]; exact R4.out), B4⟩, ?_⟩
        show k - ((j : Int) + 1).toNat < k - ((j : Int)).toNat
        omega
    · have hlt' : ¬ (j : Int) < (k : Int) := by omega
      obtain rfl : j = k := by omega
      have BW := Lib.hid (below_end B4.out HB.out)
      have K5 := Lib.hid (keep_heap BW.out K2.out)
      have B5 := Lib.hid (below_end B2.out BW.out)
      obtain ⟨c0, f0⟩ := one_cell K5.out
      obtain ⟨A5, c5, rfl⟩ := own_form HR.out
      generalize hz : (G j).length = z at *
      clear SG GG IA hz
      go_wp2
      have c4 := (one_cell (set_row K5.out 0 (.slice A5 z c5))).1
      refine bodyPost_ret (v := .tuple #[.agg #[.slice A5 z c5], .int .i64 0]) (by simp [results, Try.f34, go_sem, c4]) rfl ⟨_, rfl, show Row w _ _ (L.foldl addF cs) by rw [GM.out]; exact row_set HR.out B2.out.size _ _ _ (box_lt K2.out), B5.out.setCell (p := ⟨w.heap.size + 2, 0, none⟩) (by simp) _⟩
theorem rjoin34 (v : Value) (cs : List Int) (u : Value) (ts : List Int) (w : World) (h : IAt w v cs) (hu : IAt w u ts) (hm : cs.length ≤ 100000) (hm2 : ts.length ≤ 100000) :
    Calls Try.prog 34 #[sv v, sv u] w fun e w' => SeAns w (joinA cs ts) e w' := by
  by_cases hg : (chkF cs).2 ≠ 0
  · have e : joinA cs ts = ([], (joinA cs ts).2) := by rw [join_1 hg]
    rw [e]
    exact rjoin34_err v cs u ts w h hu hm hm2 (by rw [join_1 hg]; exact hg)
  · by_cases hg2 : (chkF ts).2 ≠ 0
    · have e : joinA cs ts = ([], (joinA cs ts).2) := by rw [join_2 hg hg2]
      rw [e]
      exact rjoin34_err v cs u ts w h hu hm hm2 (by rw [join_2 hg hg2]; exact hg2)
    · rw [join_3 hg hg2]
      exact rjoin34_ok v cs u ts w h hu hm hm2 (good_of_chk (Classical.byContradiction hg)) (good_of_chk (Classical.byContradiction hg2))
end Ytjanicngedkhnaa
end Go.Proofs
