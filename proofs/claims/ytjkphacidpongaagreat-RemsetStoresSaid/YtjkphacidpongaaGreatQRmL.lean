/- Store, the program's. -/
import Derived.Test.YtjkphacidpongaaGreatQRmK
namespace Go.Proofs
namespace YtjkphacidpongaaGreat
open Go.RowKit
open Cf (good plC plE chkE)

section
variable (C N S K Q : Int)
set_option maxRecDepth 100000 in
set_option maxHeartbeats 2000000 in
theorem store22 (A nv : Value) (n : Nat) (U : Nat → Value) (T : Nat → List Int) (slot old now : Int) (w : World) (hR : RS w A nv n U T) (hm : ∀ j, j ≤ n → (T j).length ≤ 100000) :
    Calls Tryz.prog 21 #[.agg #[.int .i64 C, .int .i64 N, .int .i64 S, .int .i64 K, .int .i64 Q], .agg #[A, nv], .int .i64 slot, .int .i64 old, .int .i64 now] w fun e w' => RsAns w (stoF C N S K Q n T slot old now).1 (stoF C N S K Q n T slot old now).2.1 (stoF C N S K Q n T slot old now).2.2 e w' := by
  obtain ⟨a, cap, hA, -⟩ := hR.form
  subst hA
  obtain ⟨k0, k1, k2, k3⟩ := three_of w (.cells #[.int .i64 C, .int .i64 N, .int .i64 S, .int .i64 K, .int .i64 Q] 23) (.cells #[.slice a n cap, nv] 29) (.cells #[nilV, nilV] 29)
  have CK := Lib.hid (check17 C N S K Q _ nv n U T _ (hR.below k3) hm)
  have SF1 := Lib.hid (setFor50 C N S K Q slot old)
  have SF2 := Lib.hid (setFor50 C N S K Q slot now)
  obtain ⟨c0, c1, c2, c3, c4⟩ := five_cells k0
  obtain ⟨s0, s1, -, -⟩ := two_cells k1
  have B := Lib.hid k3
  have K0 := Lib.hid k0
  have K1 := Lib.hid k1
  have K2 := Lib.hid k2
  unfold nilV at *
  by_cases h1 : (chkS C N S K Q n T).2 ≠ 0
  · have e0 : stoE C N S K Q n T slot old now = (chkS C N S K Q n T).2 := first_1 h1
    unfold stoF
    rw [e0, or_err h1]
    dsimp only
    obtain ⟨cc, hcc⟩ : ∃ cc, chkS C N S K Q n T = cc := ⟨_, rfl⟩
    rw [hcc] at CK h1 ⊢
    obtain ⟨cc1, cc2⟩ := cc
    dsimp only at *
    have q1 : (cc2 != 0) = true := by simpa using h1
    clear k0 k1 k2 k3 hR hm h1 e0 hcc
    go_enter Tryz.func21, Tryz.ntmps21
    go_upto_region 3 with (go_at_call 12; refine CK.out.mono ?_; rintro e w1 ⟨rfl, hb1⟩; have B1 := Lib.hid (below_end B.out hb1); have K0 := Lib.hid (keep_heap hb1 K0.out); have K1 := Lib.hid (keep_heap hb1 K1.out); have K2 := Lib.hid (keep_heap hb1 K2.out); obtain ⟨d0, d1, d2, d3, d4⟩ := five_cells K0.out; obtain ⟨p0, p1, -, -⟩ := two_cells K1.out; obtain ⟨r0, r1, g0, g1⟩ := two_cells K2.out; clear hb1 c0 c1 c2 c3 c4 s0 s1)
    obtain ⟨y0, y1, yb⟩ := ret_zero B1.out K2.out (show w.heap.size ≤ w.heap.size + 1 + 1 by omega)
    have YB := Lib.hid yb
    clear yb
    unfold nilV at *
    go_wp2
    refine bodyPost_ret (v := .tuple #[.agg #[.slice none 0 0, .slice none 0 0], .int .i64 cc2]) (by simp [results, Tryz.f21, go_sem, y0, y1]) rfl ⟨_, _, _, rfl, RS.zero _, YB.out, nil_new _⟩
  have hok := ok_of_chk (Classical.byContradiction h1)
  rw [hok.chk] at CK h1
  have hn := hok.len
  have hn24 : n ≤ 24 := by obtain ⟨-, -, -, n1, -⟩ := hok.cfg; omega
  have hGd : ∀ j, j ≤ n → Good (T j) := fun j hj => wrong_good (hok.sets j hj)
  have e0 : stoE C N S K Q n T slot old now = firstE (setF C N S K Q slot old).2 (setF C N S K Q slot now).2 := by unfold stoE; rw [hok.chk]; exact first_2
  have SR1 := Lib.hid (set_range (C := C) (N := N) (S := S) (K := K) (Q := Q) (slot := slot) (target := old))
  have SR2 := Lib.hid (set_range (C := C) (N := N) (S := S) (K := K) (Q := Q) (slot := slot) (target := now))
  unfold stoF
  rw [e0]
  unfold firstE
  obtain ⟨x, hx⟩ : ∃ x, setF C N S K Q slot old = x := ⟨_, rfl⟩
  obtain ⟨y, hy⟩ : ∃ y, setF C N S K Q slot now = y := ⟨_, rfl⟩
  rw [hx] at SF1 SR1 ⊢
  rw [hy] at SF2 SR2 ⊢
  obtain ⟨xa, xb⟩ := x
  obtain ⟨ya, yb⟩ := y
  dsimp only at *
  by_cases h2 : (if xb = 0 then yb else xb) ≠ 0
  · rw [or_err h2]
    dsimp only
    obtain ⟨z, hzz⟩ : ∃ z, (if xb = 0 then yb else xb) = z := ⟨_, rfl⟩
    rw [hzz] at h2 ⊢
    have OZ := Lib.hid (fun (g : Nat) (W : World) (h : W.heap[g]? = some (.cells #[.int .i64 xb, .int .i64 yb] 34 (0, 0))) => (show Calls Tryz.prog 54 #[.slice (some ⟨g, 0, none⟩) 2 2] W fun e w' => e = .returned (.int .i64 z) ∧ W = w' by rw [← hzz]; exact or39_any g xb yb W h))
    have q1 : (z != 0) = true := by simpa using h2
    clear hzz
    clear k0 k1 k2 k3 hR hm h1 e0 hx hy hok hn hn24 hGd SR1 SR2 h2
    go_enter Tryz.func21, Tryz.ntmps21
    go_upto_region 4 with (go_at_call 12; refine CK.out.mono ?_; rintro e w1 ⟨rfl, hb1⟩; have B1 := Lib.hid (below_end B.out hb1); have K0 := Lib.hid (keep_heap hb1 K0.out); have K1 := Lib.hid (keep_heap hb1 K1.out); have K2 := Lib.hid (keep_heap hb1 K2.out); obtain ⟨d0, d1, d2, d3, d4⟩ := five_cells K0.out; obtain ⟨p0, p1, -, -⟩ := two_cells K1.out; obtain ⟨r0, r1, g0, g1⟩ := two_cells K2.out; clear hb1 c0 c1 c2 c3 c4 s0 s1)
    go_upto_region 5 with (go_at_call 50; refine (SF1.out _).mono ?_; rintro e w2 ⟨rfl, hb1⟩; clear d0 d1 d2 d3 d4 p0 p1 r0 r1 g0 g1; have B1 := Lib.hid (below_end B1.out hb1); have K0 := Lib.hid (keep_heap hb1 K0.out); have K1 := Lib.hid (keep_heap hb1 K1.out); have K2 := Lib.hid (keep_heap hb1 K2.out); obtain ⟨d0, d1, d2, d3, d4⟩ := five_cells K0.out; obtain ⟨p0, p1, -, -⟩ := two_cells K1.out; obtain ⟨r0, r1, g0, g1⟩ := two_cells K2.out; clear hb1)
    go_upto_region 6 with (go_at_call 50; refine (SF2.out _).mono ?_; rintro e w3 ⟨rfl, hb1⟩; clear d0 d1 d2 d3 d4 p0 p1 r0 r1 g0 g1; have B1 := Lib.hid (below_end B1.out hb1); have K0 := Lib.hid (keep_heap hb1 K0.out); have K1 := Lib.hid (keep_heap hb1 K1.out); have K2 := Lib.hid (keep_heap hb1 K2.out); obtain ⟨d0, d1, d2, d3, d4⟩ := five_cells K0.out; obtain ⟨p0, p1, -, -⟩ := two_cells K1.out; obtain ⟨r0, r1, g0, g1⟩ := two_cells K2.out; clear hb1)
    have ba := alloc_below w3 (.cells #[.int .i64 xb, .int .i64 yb] 34)
    have OR := Lib.hid (OZ.out w3.heap.size _ (heap_alloc_new w3 (.cells #[.int .i64 xb, .int .i64 yb] 34)))
    clear d0 d1 d2 d3 d4 p0 p1 r0 r1 g0 g1
    have KK := Lib.hid ba
    go_upto_region 8 with (go_at_call 54; refine OR.out.mono ?_; rintro e w4 ⟨rfl, hw4⟩; subst hw4; have B1 := Lib.hid (below_end B1.out KK.out); have K0 := Lib.hid (keep_heap KK.out K0.out); have K1 := Lib.hid (keep_heap KK.out K1.out); have K2 := Lib.hid (keep_heap KK.out K2.out); obtain ⟨d0, d1, d2, d3, d4⟩ := five_cells K0.out; obtain ⟨p0, p1, -, -⟩ := two_cells K1.out; obtain ⟨r0, r1, g0, g1⟩ := two_cells K2.out)
    obtain ⟨y0, y1, yb⟩ := ret_zero B1.out K2.out (show w.heap.size ≤ w.heap.size + 1 + 1 by omega)
    have YB := Lib.hid yb
    clear yb
    unfold nilV at *
    go_wp2
    refine bodyPost_ret (v := .tuple #[.agg #[.slice none 0 0, .slice none 0 0], .int .i64 z]) (by simp [results, Tryz.f21, go_sem, y0, y1]) rfl ⟨_, _, _, rfl, RS.zero _, YB.out, nil_new _⟩
  have hx1 : xb = 0 := by
    apply Classical.byContradiction; intro h; rw [if_neg h] at h2; exact h2 h
  subst hx1
  have hy1 : yb = 0 := by simpa using h2
  subst hy1
  clear h2
  rw [if_pos rfl, or_ok]
  dsimp only
  obtain ⟨hs, hx0⟩ := SR1.out rfl
  obtain ⟨-, hy0⟩ := SR2.out rfl
  have q1 : ((0 : Int) != 0) = false := rfl
  by_cases h3 : old = now
  · rw [if_pos h3]
    have q2 : (old == now) = true := by simpa using h3
    have CL := Lib.hid (fun W (hb : Below w.heap.size w W) => clone55 (.slice a n cap) nv n U T W (hR.below hb) hm (by omega))
    clear k0 k1 k2 k3 hR hm h1 e0 hx hy hok hn hGd SR1 SR2 hs hx0 hy0 h3
    go_enter Tryz.func21, Tryz.ntmps21
    go_upto_region 4 with (go_at_call 12; refine CK.out.mono ?_; rintro e w1 ⟨rfl, hb1⟩; have B1 := Lib.hid (below_end B.out hb1); have K0 := Lib.hid (keep_heap hb1 K0.out); have K1 := Lib.hid (keep_heap hb1 K1.out); have K2 := Lib.hid (keep_heap hb1 K2.out); obtain ⟨d0, d1, d2, d3, d4⟩ := five_cells K0.out; obtain ⟨p0, p1, -, -⟩ := two_cells K1.out; obtain ⟨r0, r1, g0, g1⟩ := two_cells K2.out; clear hb1 c0 c1 c2 c3 c4 s0 s1)
    go_upto_region 5 with (go_at_call 50; refine (SF1.out _).mono ?_; rintro e w2 ⟨rfl, hb1⟩; clear d0 d1 d2 d3 d4 p0 p1 r0 r1 g0 g1; have B1 := Lib.hid (below_end B1.out hb1); have K0 := Lib.hid (keep_heap hb1 K0.out); have K1 := Lib.hid (keep_heap hb1 K1.out); have K2 := Lib.hid (keep_heap hb1 K2.out); obtain ⟨d0, d1, d2, d3, d4⟩ := five_cells K0.out; obtain ⟨p0, p1, -, -⟩ := two_cells K1.out; obtain ⟨r0, r1, g0, g1⟩ := two_cells K2.out; clear hb1)
    go_upto_region 6 with (go_at_call 50; refine (SF2.out _).mono ?_; rintro e w3 ⟨rfl, hb1⟩; clear d0 d1 d2 d3 d4 p0 p1 r0 r1 g0 g1; have B1 := Lib.hid (below_end B1.out hb1); have K0 := Lib.hid (keep_heap hb1 K0.out); have K1 := Lib.hid (keep_heap hb1 K1.out); have K2 := Lib.hid (keep_heap hb1 K2.out); obtain ⟨d0, d1, d2, d3, d4⟩ := five_cells K0.out; obtain ⟨p0, p1, -, -⟩ := two_cells K1.out; obtain ⟨r0, r1, g0, g1⟩ := two_cells K2.out; clear hb1)
    have ba := alloc_below w3 (.cells #[.int .i64 0, .int .i64 0] 34)
    have OR := Lib.hid (or39_any w3.heap.size 0 0 _ (heap_alloc_new w3 (.cells #[.int .i64 0, .int .i64 0] 34)))
    clear d0 d1 d2 d3 d4 p0 p1 r0 r1 g0 g1
    have KK := Lib.hid ba
    go_upto_region 9 with (go_at_call 54; refine OR.out.mono ?_; rintro e w4 ⟨rfl, hw4⟩; subst hw4; have B1 := Lib.hid (below_end B1.out KK.out); have K0 := Lib.hid (keep_heap KK.out K0.out); have K1 := Lib.hid (keep_heap KK.out K1.out); have K2 := Lib.hid (keep_heap KK.out K2.out); obtain ⟨d0, d1, d2, d3, d4⟩ := five_cells K0.out; obtain ⟨p0, p1, -, -⟩ := two_cells K1.out; obtain ⟨r0, r1, g0, g1⟩ := two_cells K2.out)
    go_wp2_with (go_at_call 55; refine (CL.out _ B1.out).mono ?_; rintro e w5 ⟨o5, g5, vs5, nv5, rfl, ho5, hb1⟩; have hl2 := (Array.getElem?_eq_some_iff.1 K2.out).1; clear d0 d1 d2 d3 d4 p0 p1 r0 r1 g0 g1; have B1 := Lib.hid (below_end B1.out hb1); have K0 := Lib.hid (keep_heap hb1 K0.out); have K1 := Lib.hid (keep_heap hb1 K1.out); have K2 := Lib.hid (keep_heap hb1 K2.out); obtain ⟨d0, d1, d2, d3, d4⟩ := five_cells K0.out; obtain ⟨p0, p1, -, -⟩ := two_cells K1.out; obtain ⟨r0, r1, g0, g1⟩ := two_cells K2.out; have hr5 := ho5.rs; obtain ⟨m3, n3, l3, e3⟩ := ho5.nsl; subst e3; obtain ⟨y0, y1, yr, yb⟩ := ret_two hr5 B1.out K2.out (show w.heap.size ≤ w.heap.size + 1 + 1 by omega) (fun c off m cp e => by cases e; have := ho5.lo; omega); have YR := Lib.hid yr; have YB := Lib.hid yb; have NA := Lib.hid (show NewA w (.slice (some ⟨g5, 0, none⟩) n n) from fun b off m c e => by cases e; have := ho5.lo; omega); clear hb1 yr yb hr5 ho5 hl2)
    refine bodyPost_ret (v := .tuple #[.agg #[.slice (some ⟨g5, 0, none⟩) n n, .slice m3 n3 l3], .int .i64 0]) (by simp [results, Tryz.f21, go_sem, y0, y1]) rfl ⟨_, _, _, rfl, YR.out, YB.out, NA.out⟩
  · rw [if_neg h3]
    have q2 : (old == now) = false := by simpa using h3
    have CH := Lib.hid (fun W (hb : Below w.heap.size w W) => change51 (.slice a n cap) nv n U T slot xa ya (by rw [hn]; exact hx0) (by rw [hn]; exact hy0) W (hR.below hb) hGd hs (by omega))
    obtain ⟨T', hT'⟩ : ∃ T', changeF n T slot xa ya = T' := ⟨_, rfl⟩
    rw [hT'] at CH ⊢
    unfold RsAns at CH
    clear k0 k1 k2 k3 hR hm h1 e0 hx hy hok hn hGd SR1 SR2 hs hx0 hy0 h3 hT'
    go_enter Tryz.func21, Tryz.ntmps21
    go_upto_region 4 with (go_at_call 12; refine CK.out.mono ?_; rintro e w1 ⟨rfl, hb1⟩; have B1 := Lib.hid (below_end B.out hb1); have K0 := Lib.hid (keep_heap hb1 K0.out); have K1 := Lib.hid (keep_heap hb1 K1.out); have K2 := Lib.hid (keep_heap hb1 K2.out); obtain ⟨d0, d1, d2, d3, d4⟩ := five_cells K0.out; obtain ⟨p0, p1, -, -⟩ := two_cells K1.out; obtain ⟨r0, r1, g0, g1⟩ := two_cells K2.out; clear hb1 c0 c1 c2 c3 c4 s0 s1)
    go_upto_region 5 with (go_at_call 50; refine (SF1.out _).mono ?_; rintro e w2 ⟨rfl, hb1⟩; clear d0 d1 d2 d3 d4 p0 p1 r0 r1 g0 g1; have B1 := Lib.hid (below_end B1.out hb1); have K0 := Lib.hid (keep_heap hb1 K0.out); have K1 := Lib.hid (keep_heap hb1 K1.out); have K2 := Lib.hid (keep_heap hb1 K2.out); obtain ⟨d0, d1, d2, d3, d4⟩ := five_cells K0.out; obtain ⟨p0, p1, -, -⟩ := two_cells K1.out; obtain ⟨r0, r1, g0, g1⟩ := two_cells K2.out; clear hb1)
    go_upto_region 6 with (go_at_call 50; refine (SF2.out _).mono ?_; rintro e w3 ⟨rfl, hb1⟩; clear d0 d1 d2 d3 d4 p0 p1 r0 r1 g0 g1; have B1 := Lib.hid (below_end B1.out hb1); have K0 := Lib.hid (keep_heap hb1 K0.out); have K1 := Lib.hid (keep_heap hb1 K1.out); have K2 := Lib.hid (keep_heap hb1 K2.out); obtain ⟨d0, d1, d2, d3, d4⟩ := five_cells K0.out; obtain ⟨p0, p1, -, -⟩ := two_cells K1.out; obtain ⟨r0, r1, g0, g1⟩ := two_cells K2.out; clear hb1)
    have ba := alloc_below w3 (.cells #[.int .i64 0, .int .i64 0] 34)
    have OR := Lib.hid (or39_any w3.heap.size 0 0 _ (heap_alloc_new w3 (.cells #[.int .i64 0, .int .i64 0] 34)))
    clear d0 d1 d2 d3 d4 p0 p1 r0 r1 g0 g1
    have KK := Lib.hid ba
    go_upto_region 9 with (go_at_call 54; refine OR.out.mono ?_; rintro e w4 ⟨rfl, hw4⟩; subst hw4; have B1 := Lib.hid (below_end B1.out KK.out); have K0 := Lib.hid (keep_heap KK.out K0.out); have K1 := Lib.hid (keep_heap KK.out K1.out); have K2 := Lib.hid (keep_heap KK.out K2.out); obtain ⟨d0, d1, d2, d3, d4⟩ := five_cells K0.out; obtain ⟨p0, p1, -, -⟩ := two_cells K1.out; obtain ⟨r0, r1, g0, g1⟩ := two_cells K2.out)
    go_wp2_with (go_at_call 51; refine (CH.out _ B1.out).mono ?_; rintro e w5 ⟨A3, nv3, U3, rfl, hr3, hb1, hna⟩; have hl2 := (Array.getElem?_eq_some_iff.1 K2.out).1; clear d0 d1 d2 d3 d4 p0 p1 r0 r1 g0 g1; have B1 := Lib.hid (below_end B1.out hb1); have K0 := Lib.hid (keep_heap hb1 K0.out); have K1 := Lib.hid (keep_heap hb1 K1.out); have K2 := Lib.hid (keep_heap hb1 K2.out); obtain ⟨d0, d1, d2, d3, d4⟩ := five_cells K0.out; obtain ⟨p0, p1, -, -⟩ := two_cells K1.out; obtain ⟨r0, r1, g0, g1⟩ := two_cells K2.out; obtain ⟨a3, c3', rfl, -⟩ := hr3.form; obtain ⟨m3, n3, l3, e3⟩ := (hr3.nur ▸ hr3.at_ n (Nat.le_refl _)).sl; subst e3; obtain ⟨y0, y1, yr, yb⟩ := ret_two hr3 B1.out K2.out (show w.heap.size ≤ w.heap.size + 1 + 1 by omega) (fun c off m cp e => by have := hna c off m cp e; omega); have YR := Lib.hid yr; have YB := Lib.hid yb; have NA := Lib.hid (show NewA w (.slice a3 n c3') from fun b off m c e => by have := hna b off m c e; omega); clear hb1 yr yb hr3 hna hl2)
    refine bodyPost_ret (v := .tuple #[.agg #[.slice a3 n c3', .slice m3 n3 l3], .int .i64 0]) (by simp [results, Tryz.f21, go_sem, y0, y1]) rfl ⟨_, _, _, rfl, YR.out, YB.out, NA.out⟩
end
end YtjkphacidpongaaGreat
end Go.Proofs
