/- change, the program's. -/
import Derived.Test.YtjkphacidpongaaGreatQRmI
namespace Go.Proofs
namespace YtjkphacidpongaaGreat
open Go.RowKit

/-- the place of a set: of the nursery's, or of a car's -/
def PO (q g n : Nat) (k : Int) (i pb po : Nat) : Prop := (k = -1 ∧ i = n ∧ pb = q ∧ po = 1) ∨ (k = (i : Int) ∧ i < n ∧ pb = g ∧ po = i)
theorem po_of {n : Nat} {k : Int} (hk : k = -1 ∨ (0 ≤ k ∧ k < n)) (q g : Nat) : ∃ i pb po, PO q g n k i pb po ∧ atI n k = some i ∧ i ≤ n := by
  rcases hk with rfl | ⟨h0, h1⟩
  · exact ⟨n, q, 1, .inl ⟨rfl, rfl, rfl, rfl⟩, by unfold atI; rw [if_pos rfl], Nat.le_refl _⟩
  · refine ⟨k.toNat, g, k.toNat, .inr ⟨by omega, by omega, rfl, rfl⟩, ?_, by omega⟩
    unfold atI; rw [if_neg (by omega), if_pos ⟨h0, h1⟩]
theorem at_none (n : Nat) : atI n (-2) = none := by unfold atI; rw [if_neg (by omega), if_neg (by omega)]
theorem OB.rebox {B : Nat} {W : World} {o g : Nat} {vs : List Value} {nv : Value} {n : Nat} {T : Nat → List Int} (h : OB B W o g vs nv n T) (hB : B ≤ W.heap.size) : OB B (W.alloc (.cells #[.slice (some ⟨g, 0, none⟩) n n, nv] 29)) W.heap.size g vs nv n T := by
  have hb := alloc_below W (.cells #[.slice (some ⟨g, 0, none⟩) n n, nv] 29)
  have h1 := h.below hb
  exact ⟨h1.row, heap_alloc_new W _, h1.len, h1.sl, h1.nsl, h1.cars, h1.nur, h1.lo, hB, fun e => by have := (Array.getElem?_eq_some_iff.1 h.row).1; omega⟩
theorem OB.at_ {B : Nat} {W : World} {q g : Nat} {vs : List Value} {nv : Value} {n : Nat} {T : Nat → List Int} (h : OB B W q g vs nv n T) {k : Int} {i pb po : Nat} (hp : PO q g n k i pb po) :
    W.frozen? ⟨pb, po, none⟩ = false ∧ B ≤ pb ∧ ∃ A c, W.cell? ⟨pb, po, none⟩ = some (.slice A (T i).length c) ∧ IAt W (.slice A (T i).length c) (T i) := by
  rcases hp with ⟨-, rfl, rfl, rfl⟩ | ⟨-, h1, rfl, rfl⟩
  · obtain ⟨-, c1, -, f1⟩ := two_cells h.box
    obtain ⟨A, c, e, hc⟩ := h.nur
    rw [e] at c1
    exact ⟨f1, h.loo, A, c, c1, A, c, rfl, hc⟩
  · obtain ⟨c1, f1⟩ := row_get h.row (j := po) (by rw [h.len]; exact h1)
    obtain ⟨A, c, e, hc⟩ := h.cars po h1
    rw [e] at c1
    exact ⟨f1, h.lo, A, c, c1, A, c, rfl, hc⟩
theorem OB.put_at {B : Nat} {W : World} {q g : Nat} {vs : List Value} {nv : Value} {n : Nat} {T : Nat → List Int} (h : OB B W q g vs nv n T) {k : Int} {i pb po : Nat} (hp : PO q g n k i pb po) {u : Value} {cs : List Int} (hu : IAt W u cs) :
    ∃ vs' nv', OB B (W.setCell ⟨pb, po, none⟩ u) q g vs' nv' n (updT T i cs) := by
  rcases hp with ⟨-, rfl, rfl, rfl⟩ | ⟨-, h1, rfl, rfl⟩
  · exact ⟨_, _, h.put_nur hu⟩
  · exact ⟨_, _, h.put_car hu h1⟩
theorem find59_at {q g n : Nat} {k : Int} {i pb po : Nat} (hp : PO q g n k i pb po) (w : World) (h : w.cell? ⟨q, 0, none⟩ = some (.slice (some ⟨g, 0, none⟩) n n)) : Calls Tryz.prog 66 #[.pointer (some ⟨q, 0, none⟩), .int .i64 k] w fun e w' => e = .returned (.pointer (some ⟨pb, po, none⟩)) ∧ w' = w := by
  rcases hp with ⟨rfl, rfl, rfl, rfl⟩ | ⟨rfl, h1, rfl, rfl⟩
  · exact find59_nur _ w
  · exact find59_car _ _ _ _ w h h1
theorem on_some {n : Nat} {T : Nat → List Int} {k : Int} {f : List Int → List Int} {i : Nat} (h : atI n k = some i) : onT n T k f = updT T i (f (T i)) := by unfold onT; rw [h]
theorem on_none {n : Nat} {T : Nat → List Int} {f : List Int → List Int} : onT n T (-2) f = T := by unfold onT; rw [at_none]
theorem good_upd {n : Nat} {T : Nat → List Int} (h : ∀ j, j ≤ n → Good (T j)) {i : Nat} {cs : List Int} (hc : Good cs) : ∀ j, j ≤ n → Good (updT T i cs j) := fun j hj => by
  unfold updT; split
  · exact hc
  · exact h j hj
theorem good_small {n : Nat} {T : Nat → List Int} (h : ∀ j, j ≤ n → Good (T j)) : ∀ j, j ≤ n → (T j).length ≤ 100000 := fun j hj => by have := (h j hj).tab.hi; omega
theorem sl_pair {A nv : Value} (h1 : isSl A) (h2 : isSl nv) : ∀ u, u ∈ (#[A, nv] : Array Value).toList → isSl u := fun u hu => by
  simp only [List.mem_cons, List.not_mem_nil, or_false] at hu
  rcases hu with rfl | rfl
  · exact h1
  · exact h2
/-- what is returned is stored into a box of slices -/
theorem ret_two {w W : World} {b : Nat} {A nv : Value} {n : Nat} {U : Nat → Value} {T : Nat → List Int} (hR : RS W A nv n U T) (hB : Below w.heap.size w W) (hb : W.heap[b]? = some (.cells #[nilV, nilV] 29 (0, 0))) (hwb : w.heap.size ≤ b) (hne : ∀ c off m cp, A = .slice (some ⟨c, off, none⟩) m cp → c ≠ b) :
    ((W.setCell ⟨b, 0, none⟩ A).setCell ⟨b, 1, none⟩ nv).cell? ⟨b, 0, none⟩ = some A ∧ ((W.setCell ⟨b, 0, none⟩ A).setCell ⟨b, 1, none⟩ nv).cell? ⟨b, 1, none⟩ = some nv ∧ RS ((W.setCell ⟨b, 0, none⟩ A).setCell ⟨b, 1, none⟩ nv) A nv n U T ∧ Below w.heap.size w ((W.setCell ⟨b, 0, none⟩ A).setCell ⟨b, 1, none⟩ nv) := by
  have x1 : ((W.setCell ⟨b, 0, none⟩ A).setCell ⟨b, 1, none⟩ nv).heap[b]? = some (.cells #[A, nv] 29 (0, 0)) := set_row (set_row hb 0 _) 1 _
  obtain ⟨y0, y1, -, -⟩ := two_cells x1
  have hA : isSl A := by obtain ⟨a, cap, e, -⟩ := hR.form; exact ⟨_, _, _, e⟩
  exact ⟨y0, y1, (hR.set hb two_nil (i := 0) hne A).set (set_row hb 0 _) (sl_pair hA nil_sl) (i := 1) hne nv, (hB.setCell (p := ⟨b, 0, none⟩) hwb A).setCell (p := ⟨b, 1, none⟩) hwb nv⟩
set_option maxRecDepth 100000 in
set_option maxHeartbeats 2000000 in
theorem change51_nn (A nv : Value) (n : Nat) (U : Nat → Value) (T : Nat → List Int) (slot : Int) (w : World) (hR : RS w A nv n U T) (hG : ∀ j, j ≤ n → Good (T j)) (hs : 1 ≤ slot ∧ slot ≤ 1600) (hn : n ≤ 1000000) :
    Calls Tryz.prog 51 #[.agg #[A, nv], .int .i64 slot, .int .i64 (-2), .int .i64 (-2)] w fun e w' => RsAns w n (changeF n T slot (-2) (-2)) 0 e w' := by
  obtain ⟨a, cap, hA, -⟩ := hR.form
  subst hA
  obtain ⟨k0, k1, k2, k3⟩ := two_boxes w (.cells #[.slice a n cap, nv] 29) (.cells #[nilV, nilV] 29)
  obtain ⟨c0, c1, -, -⟩ := two_cells k0
  have CL := Lib.hid (clone55 _ nv n U T _ (hR.below k3) (good_small hG) hn)
  have B := Lib.hid k3
  have K1 := Lib.hid k1
  have K2 := Lib.hid k2
  have HG := Lib.hid hG
  have HS := Lib.hid hs
  unfold nilV at *
  clear k0 k1 k2 k3 hR hG hs
  go_enter Tryz.func51, Tryz.ntmps51
  go_upto_region 2 with (go_at_call 55; refine CL.out.mono ?_; rintro e w1 ⟨o, g, vs, nv1, rfl, ho, hb1⟩; have B1 := Lib.hid (below_end B.out hb1); have P1 := Lib.hid (keep_heap hb1 K1.out); have HO := Lib.hid ho; have Z1 := Lib.hid hb1.size; obtain ⟨A1, n1, cp1, rfl⟩ := ho.nsl; clear ho hb1)
  have ba := alloc_below w1 (.cells #[.slice (some ⟨g, 0, none⟩) n n, .slice A1 n1 cp1] 29)
  have O0 := Lib.hid (HO.out.rebox Z1.out)
  obtain ⟨q, hq⟩ : ∃ q, w1.heap.size = q := ⟨_, rfl⟩
  rw [hq] at O0 ⊢
  have B2 := Lib.hid (below_end B1.out ba)
  have P2 := Lib.hid (keep_heap ba P1.out)
  generalize w1.alloc (.cells #[.slice (some ⟨g, 0, none⟩) n n, .slice A1 n1 cp1] 29) = X0 at *
  have LO := Lib.hid (show w.heap.size + 2 ≤ (((w.alloc (.cells #[.slice a n cap, nv] 29)).alloc (.cells #[.slice none 0 0, .slice none 0 0] 29)).heap.size) by rw [K2.out]; omega)
  generalize ((w.alloc (.cells #[.slice a n cap, nv] 29)).alloc (.cells #[.slice none 0 0, .slice none 0 0] 29)).heap.size = LB at *
  generalize Value.slice A1 n1 cp1 = nvc at *
  clear ba hq HO Z1 B1 P1 CL B K1 K2 c0 c1
  have FN1 := Lib.hid (find59_none q X0)
  go_upto_region 8 with (go_at_call 66; refine FN1.out.mono ?_; rintro e X0 ⟨rfl, rfl⟩)
  have FN2 := Lib.hid (find59_none q X0)
  go_upto_region 13 with (go_at_call 66; refine FN2.out.mono ?_; rintro e X0 ⟨rfl, rfl⟩)
  have E1 := Lib.hid (on_none (n := n) (T := T) (f := fun cs => dropF cs slot))
  have E2 := Lib.hid (on_none (n := n) (T := T) (f := fun cs => addF cs slot))
  have EC := Lib.hid (show changeF n T slot (-2) (-2) = T by unfold changeF; rw [E1.out, E2.out])
  obtain ⟨e0, e1, -, -⟩ := two_cells O0.out.box
  obtain ⟨Az, nz, cz, hnz⟩ := O0.out.nsl
  have RR := Lib.hid O0.out.rs
  rw [hnz] at RR e1
  obtain ⟨r0, r1, g0, g1⟩ := two_cells P2.out
  obtain ⟨y0, y1, yr, yb⟩ := ret_two RR.out B2.out P2.out (by omega) (fun c off m cp e h => by cases e; have := O0.out.lo; have := LO.out; omega)
  have YR := Lib.hid yr
  have YB := Lib.hid yb
  have NA := Lib.hid (show NewA w (.slice (some ⟨g, 0, none⟩) n n) from fun b off m c e => by cases e; have := O0.out.lo; have := LO.out; omega)
  clear yr yb hnz
  go_wp2
  refine bodyPost_ret (v := .tuple #[.agg #[.slice (some ⟨g, 0, none⟩) n n, .slice Az nz cz], .int .i64 0]) (by simp [results, Tryz.f51, go_sem, y0, y1]) rfl ⟨_, _, _, rfl, by rw [EC.out]; exact YR.out, YB.out, NA.out⟩
set_option maxRecDepth 100000 in
set_option maxHeartbeats 2000000 in
theorem change51_sn (A nv : Value) (n : Nat) (U : Nat → Value) (T : Nat → List Int) (slot : Int) (k : Int) (hk : k = -1 ∨ (0 ≤ k ∧ k < n)) (w : World) (hR : RS w A nv n U T) (hG : ∀ j, j ≤ n → Good (T j)) (hs : 1 ≤ slot ∧ slot ≤ 1600) (hn : n ≤ 1000000) :
    Calls Tryz.prog 51 #[.agg #[A, nv], .int .i64 slot, .int .i64 k, .int .i64 (-2)] w fun e w' => RsAns w n (changeF n T slot k (-2)) 0 e w' := by
  obtain ⟨a, cap, hA, -⟩ := hR.form
  subst hA
  obtain ⟨k0, k1, k2, k3⟩ := two_boxes w (.cells #[.slice a n cap, nv] 29) (.cells #[nilV, nilV] 29)
  obtain ⟨c0, c1, -, -⟩ := two_cells k0
  have CL := Lib.hid (clone55 _ nv n U T _ (hR.below k3) (good_small hG) hn)
  have B := Lib.hid k3
  have K1 := Lib.hid k1
  have K2 := Lib.hid k2
  have HG := Lib.hid hG
  have HS := Lib.hid hs
  unfold nilV at *
  clear k0 k1 k2 k3 hR hG hs
  go_enter Tryz.func51, Tryz.ntmps51
  go_upto_region 2 with (go_at_call 55; refine CL.out.mono ?_; rintro e w1 ⟨o, g, vs, nv1, rfl, ho, hb1⟩; have B1 := Lib.hid (below_end B.out hb1); have P1 := Lib.hid (keep_heap hb1 K1.out); have HO := Lib.hid ho; have Z1 := Lib.hid hb1.size; obtain ⟨A1, n1, cp1, rfl⟩ := ho.nsl; clear ho hb1)
  have ba := alloc_below w1 (.cells #[.slice (some ⟨g, 0, none⟩) n n, .slice A1 n1 cp1] 29)
  have O0 := Lib.hid (HO.out.rebox Z1.out)
  obtain ⟨q, hq⟩ : ∃ q, w1.heap.size = q := ⟨_, rfl⟩
  rw [hq] at O0 ⊢
  have B2 := Lib.hid (below_end B1.out ba)
  have P2 := Lib.hid (keep_heap ba P1.out)
  generalize w1.alloc (.cells #[.slice (some ⟨g, 0, none⟩) n n, .slice A1 n1 cp1] 29) = X0 at *
  have LO := Lib.hid (show w.heap.size + 2 ≤ (((w.alloc (.cells #[.slice a n cap, nv] 29)).alloc (.cells #[.slice none 0 0, .slice none 0 0] 29)).heap.size) by rw [K2.out]; omega)
  generalize ((w.alloc (.cells #[.slice a n cap, nv] 29)).alloc (.cells #[.slice none 0 0, .slice none 0 0] 29)).heap.size = LB at *
  generalize Value.slice A1 n1 cp1 = nvc at *
  clear ba hq HO Z1 B1 P1 CL B K1 K2 c0 c1
  obtain ⟨i1, pb1, po1, hp1, ha1, hi1⟩ := po_of hk q g
  have HA1 := Lib.hid ha1
  have HP1 := Lib.hid hp1
  have FD1 := Lib.hid (find59_at hp1 X0 (two_cells O0.out.box).1)
  obtain ⟨fz1, lb1, Ai1, ci1, cc1, hia1⟩ := O0.out.at_ hp1
  have GI1 := Lib.hid (HG.out i1 hi1)
  have CA1 := Lib.hid (drop29 _ _ slot X0 hia1 (by have := GI1.out.tab.hi; omega))
  rw [drop_ans GI1.out HS.out] at CA1
  unfold SbAns sv at CA1
  dsimp only at CA1
  have LB1 := Lib.hid lb1
  obtain ⟨D1, hD1⟩ : ∃ D, dropF (T i1) slot = D := ⟨_, rfl⟩
  have HD1 := Lib.hid hD1
  rw [hD1] at CA1
  generalize hasB (T i1) slot = hb1 at *
  generalize (T i1).length = len1 at *
  have OB1 := Lib.hid (fun W' (hb : Below (X0).heap.size (X0) W') => (O0.out.below hb).at_ hp1)
  clear hp1 ha1 fz1 lb1 hia1 hD1
  go_upto_region 4 with (go_at_call 66; refine FD1.out.mono ?_; rintro e X0 ⟨rfl, rfl⟩)
  go_upto_region 6 with (go_at_call 84; refine CA1.out.mono ?_; rintro e w1d ⟨v1, rfl, hr, hb⟩; have R1 := Lib.hid hr; have B1d := Lib.hid (below_end B2.out hb); have P1d := Lib.hid (keep_heap hb P2.out); have O1d := Lib.hid (O0.out.below hb); obtain ⟨fz1, -, _, _, cd1, -⟩ := OB1.out _ hb; obtain ⟨A1d, c1d, rfl⟩ := own_form hr; clear hr hb)
  obtain ⟨vs1n, nv1n, hO1⟩ := O1d.out.put_at HP1.out (IAt.of_own R1.out)
  have O1n := Lib.hid hO1
  have P1n := Lib.hid (set_far (c := w.heap.size + 1) (b := pb1) (i := po1) (.slice A1d D1.length c1d) (by have := LB1.out; have := LO.out; omega) P1d.out)
  have B1n := Lib.hid (B1d.out.setCell (p := ⟨pb1, po1, none⟩) (by have := LB1.out; have := LO.out; dsimp only; omega) (.slice A1d D1.length c1d))
  clear hO1 cd1 fz1 cc1
  generalize (w1d.setCell ⟨pb1, po1, none⟩ (.slice A1d D1.length c1d)) = X1 at *
  have G1n := Lib.hid (good_upd (i := i1) HG.out (show Good D1 by rw [← HD1.out]; exact drop_good1 GI1.out HS.out))
  obtain ⟨T1, hT1⟩ : ∃ T', updT T i1 D1 = T' := ⟨_, rfl⟩
  have HT1 := Lib.hid hT1
  rw [hT1] at O1n G1n
  clear hT1
  go_upto_region 8 with fail
  have FN2 := Lib.hid (find59_none q X1)
  go_upto_region 13 with (go_at_call 66; refine FN2.out.mono ?_; rintro e X1 ⟨rfl, rfl⟩)
  have E1 := Lib.hid (show onT n T k (fun cs => dropF cs slot) = T1 by rw [on_some HA1.out, HD1.out, HT1.out])
  have E2 := Lib.hid (on_none (n := n) (T := T1) (f := fun cs => addF cs slot))
  have EC := Lib.hid (show changeF n T slot k (-2) = T1 by unfold changeF; rw [E1.out, E2.out])
  obtain ⟨e0, e1, -, -⟩ := two_cells O1n.out.box
  obtain ⟨Az, nz, cz, hnz⟩ := O1n.out.nsl
  have RR := Lib.hid O1n.out.rs
  rw [hnz] at RR e1
  obtain ⟨r0, r1, g0, g1⟩ := two_cells P1n.out
  obtain ⟨y0, y1, yr, yb⟩ := ret_two RR.out B1n.out P1n.out (by omega) (fun c off m cp e h => by cases e; have := O1n.out.lo; have := LO.out; omega)
  have YR := Lib.hid yr
  have YB := Lib.hid yb
  have NA := Lib.hid (show NewA w (.slice (some ⟨g, 0, none⟩) n n) from fun b off m c e => by cases e; have := O1n.out.lo; have := LO.out; omega)
  clear yr yb hnz
  go_wp2
  refine bodyPost_ret (v := .tuple #[.agg #[.slice (some ⟨g, 0, none⟩) n n, .slice Az nz cz], .int .i64 0]) (by simp [results, Tryz.f51, go_sem, y0, y1]) rfl ⟨_, _, _, rfl, by rw [EC.out]; exact YR.out, YB.out, NA.out⟩
set_option maxRecDepth 100000 in
set_option maxHeartbeats 2000000 in
theorem change51_ns (A nv : Value) (n : Nat) (U : Nat → Value) (T : Nat → List Int) (slot : Int) (l : Int) (hl : l = -1 ∨ (0 ≤ l ∧ l < n)) (w : World) (hR : RS w A nv n U T) (hG : ∀ j, j ≤ n → Good (T j)) (hs : 1 ≤ slot ∧ slot ≤ 1600) (hn : n ≤ 1000000) :
    Calls Tryz.prog 51 #[.agg #[A, nv], .int .i64 slot, .int .i64 (-2), .int .i64 l] w fun e w' => RsAns w n (changeF n T slot (-2) l) 0 e w' := by
  obtain ⟨a, cap, hA, -⟩ := hR.form
  subst hA
  obtain ⟨k0, k1, k2, k3⟩ := two_boxes w (.cells #[.slice a n cap, nv] 29) (.cells #[nilV, nilV] 29)
  obtain ⟨c0, c1, -, -⟩ := two_cells k0
  have CL := Lib.hid (clone55 _ nv n U T _ (hR.below k3) (good_small hG) hn)
  have B := Lib.hid k3
  have K1 := Lib.hid k1
  have K2 := Lib.hid k2
  have HG := Lib.hid hG
  have HS := Lib.hid hs
  unfold nilV at *
  clear k0 k1 k2 k3 hR hG hs
  go_enter Tryz.func51, Tryz.ntmps51
  go_upto_region 2 with (go_at_call 55; refine CL.out.mono ?_; rintro e w1 ⟨o, g, vs, nv1, rfl, ho, hb1⟩; have B1 := Lib.hid (below_end B.out hb1); have P1 := Lib.hid (keep_heap hb1 K1.out); have HO := Lib.hid ho; have Z1 := Lib.hid hb1.size; obtain ⟨A1, n1, cp1, rfl⟩ := ho.nsl; clear ho hb1)
  have ba := alloc_below w1 (.cells #[.slice (some ⟨g, 0, none⟩) n n, .slice A1 n1 cp1] 29)
  have O0 := Lib.hid (HO.out.rebox Z1.out)
  obtain ⟨q, hq⟩ : ∃ q, w1.heap.size = q := ⟨_, rfl⟩
  rw [hq] at O0 ⊢
  have B2 := Lib.hid (below_end B1.out ba)
  have P2 := Lib.hid (keep_heap ba P1.out)
  generalize w1.alloc (.cells #[.slice (some ⟨g, 0, none⟩) n n, .slice A1 n1 cp1] 29) = X0 at *
  have LO := Lib.hid (show w.heap.size + 2 ≤ (((w.alloc (.cells #[.slice a n cap, nv] 29)).alloc (.cells #[.slice none 0 0, .slice none 0 0] 29)).heap.size) by rw [K2.out]; omega)
  generalize ((w.alloc (.cells #[.slice a n cap, nv] 29)).alloc (.cells #[.slice none 0 0, .slice none 0 0] 29)).heap.size = LB at *
  generalize Value.slice A1 n1 cp1 = nvc at *
  clear ba hq HO Z1 B1 P1 CL B K1 K2 c0 c1
  have FN1 := Lib.hid (find59_none q X0)
  go_upto_region 8 with (go_at_call 66; refine FN1.out.mono ?_; rintro e X0 ⟨rfl, rfl⟩)
  obtain ⟨i2, pb2, po2, hp2, ha2, hi2⟩ := po_of hl q g
  have HA2 := Lib.hid ha2
  have HP2 := Lib.hid hp2
  have FD2 := Lib.hid (find59_at hp2 X0 (two_cells O0.out.box).1)
  obtain ⟨fz2, lb2, Ai2, ci2, cc2, hia2⟩ := O0.out.at_ hp2
  have GI2 := Lib.hid (HG.out i2 hi2)
  have CA2 := Lib.hid (add27 _ _ slot X0 hia2 (by have := GI2.out.tab.hi; omega))
  rw [add_ans GI2.out HS.out] at CA2
  unfold SbAns sv at CA2
  dsimp only at CA2
  have LB2 := Lib.hid lb2
  obtain ⟨D2, hD2⟩ : ∃ D, addF (T i2) slot = D := ⟨_, rfl⟩
  have HD2 := Lib.hid hD2
  rw [hD2] at CA2
  generalize hasB (T i2) slot = hb2 at *
  generalize (T i2).length = len2 at *
  have OB2 := Lib.hid (fun W' (hb : Below (X0).heap.size (X0) W') => (O0.out.below hb).at_ hp2)
  clear hp2 ha2 fz2 lb2 hia2 hD2
  go_upto_region 9 with (go_at_call 66; refine FD2.out.mono ?_; rintro e X0 ⟨rfl, rfl⟩)
  go_upto_region 11 with (go_at_call 85; refine CA2.out.mono ?_; rintro e w2d ⟨v2, rfl, hr, hb⟩; have R2 := Lib.hid hr; have B2d := Lib.hid (below_end B2.out hb); have P2d := Lib.hid (keep_heap hb P2.out); have O2d := Lib.hid (O0.out.below hb); obtain ⟨fz2, -, _, _, cd2, -⟩ := OB2.out _ hb; obtain ⟨A2d, c2d, rfl⟩ := own_form hr; clear hr hb)
  obtain ⟨vs2n, nv2n, hO2⟩ := O2d.out.put_at HP2.out (IAt.of_own R2.out)
  have O2n := Lib.hid hO2
  have P2n := Lib.hid (set_far (c := w.heap.size + 1) (b := pb2) (i := po2) (.slice A2d D2.length c2d) (by have := LB2.out; have := LO.out; omega) P2d.out)
  have B2n := Lib.hid (B2d.out.setCell (p := ⟨pb2, po2, none⟩) (by have := LB2.out; have := LO.out; dsimp only; omega) (.slice A2d D2.length c2d))
  clear hO2 cd2 fz2 cc2
  generalize (w2d.setCell ⟨pb2, po2, none⟩ (.slice A2d D2.length c2d)) = X2 at *
  have G2n := Lib.hid (good_upd (i := i2) HG.out (show Good D2 by rw [← HD2.out]; exact add_good1 GI2.out HS.out))
  obtain ⟨T2, hT2⟩ : ∃ T', updT T i2 D2 = T' := ⟨_, rfl⟩
  have HT2 := Lib.hid hT2
  rw [hT2] at O2n G2n
  clear hT2
  go_upto_region 13 with fail
  have E1 := Lib.hid (on_none (n := n) (T := T) (f := fun cs => dropF cs slot))
  have E2 := Lib.hid (show onT n T l (fun cs => addF cs slot) = T2 by rw [on_some HA2.out, HD2.out, HT2.out])
  have EC := Lib.hid (show changeF n T slot (-2) l = T2 by unfold changeF; rw [E1.out, E2.out])
  obtain ⟨e0, e1, -, -⟩ := two_cells O2n.out.box
  obtain ⟨Az, nz, cz, hnz⟩ := O2n.out.nsl
  have RR := Lib.hid O2n.out.rs
  rw [hnz] at RR e1
  obtain ⟨r0, r1, g0, g1⟩ := two_cells P2n.out
  obtain ⟨y0, y1, yr, yb⟩ := ret_two RR.out B2n.out P2n.out (by omega) (fun c off m cp e h => by cases e; have := O2n.out.lo; have := LO.out; omega)
  have YR := Lib.hid yr
  have YB := Lib.hid yb
  have NA := Lib.hid (show NewA w (.slice (some ⟨g, 0, none⟩) n n) from fun b off m c e => by cases e; have := O2n.out.lo; have := LO.out; omega)
  clear yr yb hnz
  go_wp2
  refine bodyPost_ret (v := .tuple #[.agg #[.slice (some ⟨g, 0, none⟩) n n, .slice Az nz cz], .int .i64 0]) (by simp [results, Tryz.f51, go_sem, y0, y1]) rfl ⟨_, _, _, rfl, by rw [EC.out]; exact YR.out, YB.out, NA.out⟩
set_option maxRecDepth 100000 in
set_option maxHeartbeats 2000000 in
theorem change51_ss (A nv : Value) (n : Nat) (U : Nat → Value) (T : Nat → List Int) (slot : Int) (k : Int) (hk : k = -1 ∨ (0 ≤ k ∧ k < n)) (l : Int) (hl : l = -1 ∨ (0 ≤ l ∧ l < n)) (w : World) (hR : RS w A nv n U T) (hG : ∀ j, j ≤ n → Good (T j)) (hs : 1 ≤ slot ∧ slot ≤ 1600) (hn : n ≤ 1000000) :
    Calls Tryz.prog 51 #[.agg #[A, nv], .int .i64 slot, .int .i64 k, .int .i64 l] w fun e w' => RsAns w n (changeF n T slot k l) 0 e w' := by
  obtain ⟨a, cap, hA, -⟩ := hR.form
  subst hA
  obtain ⟨k0, k1, k2, k3⟩ := two_boxes w (.cells #[.slice a n cap, nv] 29) (.cells #[nilV, nilV] 29)
  obtain ⟨c0, c1, -, -⟩ := two_cells k0
  have CL := Lib.hid (clone55 _ nv n U T _ (hR.below k3) (good_small hG) hn)
  have B := Lib.hid k3
  have K1 := Lib.hid k1
  have K2 := Lib.hid k2
  have HG := Lib.hid hG
  have HS := Lib.hid hs
  unfold nilV at *
  clear k0 k1 k2 k3 hR hG hs
  go_enter Tryz.func51, Tryz.ntmps51
  go_upto_region 2 with (go_at_call 55; refine CL.out.mono ?_; rintro e w1 ⟨o, g, vs, nv1, rfl, ho, hb1⟩; have B1 := Lib.hid (below_end B.out hb1); have P1 := Lib.hid (keep_heap hb1 K1.out); have HO := Lib.hid ho; have Z1 := Lib.hid hb1.size; obtain ⟨A1, n1, cp1, rfl⟩ := ho.nsl; clear ho hb1)
  have ba := alloc_below w1 (.cells #[.slice (some ⟨g, 0, none⟩) n n, .slice A1 n1 cp1] 29)
  have O0 := Lib.hid (HO.out.rebox Z1.out)
  obtain ⟨q, hq⟩ : ∃ q, w1.heap.size = q := ⟨_, rfl⟩
  rw [hq] at O0 ⊢
  have B2 := Lib.hid (below_end B1.out ba)
  have P2 := Lib.hid (keep_heap ba P1.out)
  generalize w1.alloc (.cells #[.slice (some ⟨g, 0, none⟩) n n, .slice A1 n1 cp1] 29) = X0 at *
  have LO := Lib.hid (show w.heap.size + 2 ≤ (((w.alloc (.cells #[.slice a n cap, nv] 29)).alloc (.cells #[.slice none 0 0, .slice none 0 0] 29)).heap.size) by rw [K2.out]; omega)
  generalize ((w.alloc (.cells #[.slice a n cap, nv] 29)).alloc (.cells #[.slice none 0 0, .slice none 0 0] 29)).heap.size = LB at *
  generalize Value.slice A1 n1 cp1 = nvc at *
  clear ba hq HO Z1 B1 P1 CL B K1 K2 c0 c1
  obtain ⟨i1, pb1, po1, hp1, ha1, hi1⟩ := po_of hk q g
  have HA1 := Lib.hid ha1
  have HP1 := Lib.hid hp1
  have FD1 := Lib.hid (find59_at hp1 X0 (two_cells O0.out.box).1)
  obtain ⟨fz1, lb1, Ai1, ci1, cc1, hia1⟩ := O0.out.at_ hp1
  have GI1 := Lib.hid (HG.out i1 hi1)
  have CA1 := Lib.hid (drop29 _ _ slot X0 hia1 (by have := GI1.out.tab.hi; omega))
  rw [drop_ans GI1.out HS.out] at CA1
  unfold SbAns sv at CA1
  dsimp only at CA1
  have LB1 := Lib.hid lb1
  obtain ⟨D1, hD1⟩ : ∃ D, dropF (T i1) slot = D := ⟨_, rfl⟩
  have HD1 := Lib.hid hD1
  rw [hD1] at CA1
  generalize hasB (T i1) slot = hb1 at *
  generalize (T i1).length = len1 at *
  have OB1 := Lib.hid (fun W' (hb : Below (X0).heap.size (X0) W') => (O0.out.below hb).at_ hp1)
  clear hp1 ha1 fz1 lb1 hia1 hD1
  go_upto_region 4 with (go_at_call 66; refine FD1.out.mono ?_; rintro e X0 ⟨rfl, rfl⟩)
  go_upto_region 6 with (go_at_call 84; refine CA1.out.mono ?_; rintro e w1d ⟨v1, rfl, hr, hb⟩; have R1 := Lib.hid hr; have B1d := Lib.hid (below_end B2.out hb); have P1d := Lib.hid (keep_heap hb P2.out); have O1d := Lib.hid (O0.out.below hb); obtain ⟨fz1, -, _, _, cd1, -⟩ := OB1.out _ hb; obtain ⟨A1d, c1d, rfl⟩ := own_form hr; clear hr hb)
  obtain ⟨vs1n, nv1n, hO1⟩ := O1d.out.put_at HP1.out (IAt.of_own R1.out)
  have O1n := Lib.hid hO1
  have P1n := Lib.hid (set_far (c := w.heap.size + 1) (b := pb1) (i := po1) (.slice A1d D1.length c1d) (by have := LB1.out; have := LO.out; omega) P1d.out)
  have B1n := Lib.hid (B1d.out.setCell (p := ⟨pb1, po1, none⟩) (by have := LB1.out; have := LO.out; dsimp only; omega) (.slice A1d D1.length c1d))
  clear hO1 cd1 fz1 cc1
  generalize (w1d.setCell ⟨pb1, po1, none⟩ (.slice A1d D1.length c1d)) = X1 at *
  have G1n := Lib.hid (good_upd (i := i1) HG.out (show Good D1 by rw [← HD1.out]; exact drop_good1 GI1.out HS.out))
  obtain ⟨T1, hT1⟩ : ∃ T', updT T i1 D1 = T' := ⟨_, rfl⟩
  have HT1 := Lib.hid hT1
  rw [hT1] at O1n G1n
  clear hT1
  go_upto_region 8 with fail
  obtain ⟨i2, pb2, po2, hp2, ha2, hi2⟩ := po_of hl q g
  have HA2 := Lib.hid ha2
  have HP2 := Lib.hid hp2
  have FD2 := Lib.hid (find59_at hp2 X1 (two_cells O1n.out.box).1)
  obtain ⟨fz2, lb2, Ai2, ci2, cc2, hia2⟩ := O1n.out.at_ hp2
  have GI2 := Lib.hid (G1n.out i2 hi2)
  have CA2 := Lib.hid (add27 _ _ slot X1 hia2 (by have := GI2.out.tab.hi; omega))
  rw [add_ans GI2.out HS.out] at CA2
  unfold SbAns sv at CA2
  dsimp only at CA2
  have LB2 := Lib.hid lb2
  obtain ⟨D2, hD2⟩ : ∃ D, addF (T1 i2) slot = D := ⟨_, rfl⟩
  have HD2 := Lib.hid hD2
  rw [hD2] at CA2
  generalize hasB (T1 i2) slot = hb2 at *
  generalize (T1 i2).length = len2 at *
  have OB2 := Lib.hid (fun W' (hb : Below (X1).heap.size (X1) W') => (O1n.out.below hb).at_ hp2)
  clear hp2 ha2 fz2 lb2 hia2 hD2
  go_upto_region 9 with (go_at_call 66; refine FD2.out.mono ?_; rintro e X1 ⟨rfl, rfl⟩)
  go_upto_region 11 with (go_at_call 85; refine CA2.out.mono ?_; rintro e w2d ⟨v2, rfl, hr, hb⟩; have R2 := Lib.hid hr; have B2d := Lib.hid (below_end B1n.out hb); have P2d := Lib.hid (keep_heap hb P1n.out); have O2d := Lib.hid (O1n.out.below hb); obtain ⟨fz2, -, _, _, cd2, -⟩ := OB2.out _ hb; obtain ⟨A2d, c2d, rfl⟩ := own_form hr; clear hr hb)
  obtain ⟨vs2n, nv2n, hO2⟩ := O2d.out.put_at HP2.out (IAt.of_own R2.out)
  have O2n := Lib.hid hO2
  have P2n := Lib.hid (set_far (c := w.heap.size + 1) (b := pb2) (i := po2) (.slice A2d D2.length c2d) (by have := LB2.out; have := LO.out; omega) P2d.out)
  have B2n := Lib.hid (B2d.out.setCell (p := ⟨pb2, po2, none⟩) (by have := LB2.out; have := LO.out; dsimp only; omega) (.slice A2d D2.length c2d))
  clear hO2 cd2 fz2 cc2
  generalize (w2d.setCell ⟨pb2, po2, none⟩ (.slice A2d D2.length c2d)) = X2 at *
  have G2n := Lib.hid (good_upd (i := i2) G1n.out (show Good D2 by rw [← HD2.out]; exact add_good1 GI2.out HS.out))
  obtain ⟨T2, hT2⟩ : ∃ T', updT T1 i2 D2 = T' := ⟨_, rfl⟩
  have HT2 := Lib.hid hT2
  rw [hT2] at O2n G2n
  clear hT2
  go_upto_region 13 with fail
  have E1 := Lib.hid (show onT n T k (fun cs => dropF cs slot) = T1 by rw [on_some HA1.out, HD1.out, HT1.out])
  have E2 := Lib.hid (show onT n T1 l (fun cs => addF cs slot) = T2 by rw [on_some HA2.out, HD2.out, HT2.out])
  have EC := Lib.hid (show changeF n T slot k l = T2 by unfold changeF; rw [E1.out, E2.out])
  obtain ⟨e0, e1, -, -⟩ := two_cells O2n.out.box
  obtain ⟨Az, nz, cz, hnz⟩ := O2n.out.nsl
  have RR := Lib.hid O2n.out.rs
  rw [hnz] at RR e1
  obtain ⟨r0, r1, g0, g1⟩ := two_cells P2n.out
  obtain ⟨y0, y1, yr, yb⟩ := ret_two RR.out B2n.out P2n.out (by omega) (fun c off m cp e h => by cases e; have := O2n.out.lo; have := LO.out; omega)
  have YR := Lib.hid yr
  have YB := Lib.hid yb
  have NA := Lib.hid (show NewA w (.slice (some ⟨g, 0, none⟩) n n) from fun b off m c e => by cases e; have := O2n.out.lo; have := LO.out; omega)
  clear yr yb hnz
  go_wp2
  refine bodyPost_ret (v := .tuple #[.agg #[.slice (some ⟨g, 0, none⟩) n n, .slice Az nz cz], .int .i64 0]) (by simp [results, Tryz.f51, go_sem, y0, y1]) rfl ⟨_, _, _, rfl, by rw [EC.out]; exact YR.out, YB.out, NA.out⟩
end YtjkphacidpongaaGreat
end Go.Proofs
