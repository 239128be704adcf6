/- The reference's Make and Alike; the laws' set. -/
import Derived.Test.YtmgoonahpndfoaaObU
namespace Go.Proofs
namespace Ytmgoonahpndfoaa
open Go.RowKit

set_option maxRecDepth 100000 in
set_option maxHeartbeats 400000 in
theorem rmake13_bad (v : Value) (ws : List Int) (a P R : Int) (w : World) (h : Ar w v ws) (hP : Hd.SI P) (hR : Hd.SI R) (hE : (if chkF ws = 0 then Hd.chkV P R else chkF ws) ≠ 0) :
    Calls Try.prog 13 #[v, .int .i64 a, .agg #[.int .i64 P, .int .i64 R]] w fun e w' => e = .returned (.tuple #[.slice none 0 0, .int .i64 (if chkF ws = 0 then Hd.chkV P R else chkF ws)]) ∧ Below w.heap.size w w' := by
  have C := Lib.hid (fun W (hb : Below w.heap.size w W) => rcheck43 v ws W (h.at_.below hb) h.len)
  have K := Lib.hid (fun W => Hd.check44 P R hP hR W)
  obtain ⟨A, cap, rfl, -, -⟩ := h.open
  clear h hP hR
  by_cases hc : chkF ws = 0
  · rw [hc] at C
    rw [if_pos hc] at hE ⊢
    have q : (Hd.chkV P R != 0) = true := by simpa using hE
    clear hE hc
    generalize Hd.chkV P R = c at *
    go_enter Try.func13, Try.ntmps13
    go_wp2_with (first
      | (go_at_call 43; refine (C.out _ (alloc_below w _)).mono ?_; rintro e w' ⟨rfl, rfl⟩)
      | (go_at_call 44; refine (K.out _).mono ?_; rintro e w1 ⟨rfl, hb1⟩))
    exact bodyPost_ret (v := .tuple #[.slice none 0 0, .int .i64 c]) (by simp [results, Try.f13, go_sem]) rfl ⟨rfl, below_end (alloc_below w _) hb1⟩
  · rw [if_neg hc] at hE ⊢
    have q : (chkF ws != 0) = true := by simpa using hE
    have q1 : (chkF ws == 0) = false := by simpa using hE
    clear hE hc
    generalize chkF ws = c at *
    go_enter Try.func13, Try.ntmps13
    go_wp2_with (go_at_call 43; refine (C.out _ (alloc_below w _)).mono ?_; rintro e w' ⟨rfl, rfl⟩)
    exact bodyPost_ret (v := .tuple #[.slice none 0 0, .int .i64 c]) (by simp [results, Try.f13, go_sem]) rfl ⟨rfl, alloc_below w _⟩
set_option maxRecDepth 100000 in
set_option maxHeartbeats 400000 in
theorem rmake13_ok (v : Value) (ws : List Int) (a P R : Int) (w : World) (h : Ar w v ws) (hc : chkF ws = 0) (hs : Hd.chkV P R = 0) :
    Calls Try.prog 13 #[v, .int .i64 a, .agg #[.int .i64 P, .int .i64 R]] w fun e w' => CAns w (makF ws a P R) e w' := by
  obtain ⟨z0, z1, z2⟩ := Hd.chk_zero.1 hs
  have S := Lib.hid (fun W => Hd.size36 P R ⟨by omega, by omega⟩ ⟨by omega, by omega⟩ W)
  have K := Lib.hid (fun W => Hd.pack46 P R ⟨by omega, by omega⟩ ⟨by omega, by omega⟩ W)
  have T := Lib.hid (fun W => Hd.check44 P R ⟨by omega, by omega⟩ ⟨by omega, by omega⟩ W)
  have e1 : Hd.sizeV P R = 1 + P + R := if_pos hs
  have e2 : Hd.packE P R = Hd.packV P R := if_pos hs
  rw [hs, e1] at S
  rw [hs, e2] at K
  rw [hs] at T
  have C := Lib.hid (fun W (hb : Below w.heap.size w W) => rcheck43 v ws W (h.at_.below hb) h.len)
  rw [hc] at C
  have L := Lib.hid (fun W (hb : Below w.heap.size w W) => rclear45 v ws a (1 + P + R) W (h.at_.below hb) h.len)
  have M := clr_make (a := a) hc hs
  obtain ⟨A, cap, rfl, -, -⟩ := h.open
  clear h hc hs e1 e2
  have N := Lib.hid (heap_alloc_new w (.cells #[.int .i64 P, .int .i64 R] 24))
  have SET := Lib.hid (fun v2 W (hv : WAt W v2 (clrF ws a (1 + P + R)).1) (hm : (clrF ws a (1 + P + R)).1.length ≤ 9223372036854775807) => rset47 v2 (clrF ws a (1 + P + R)).1 a (Hd.packV P R) W hv hm)
  generalize clrF ws a (1 + P + R) = r at *
  obtain ⟨r1, r2⟩ := r
  dsimp only at M SET
  rcases M with ⟨hr, hm⟩ | ⟨hr, hl, hm⟩
  · rw [hm]
    have q : (r2 != 0) = true := by simpa using hr
    clear hm hr SET
    generalize Hd.packV P R = p at *
    go_enter Try.func13, Try.ntmps13
    go_upto_region 4 with (first
      | (go_at_call 43; refine (C.out _ (alloc_below w _)).mono ?_; rintro e w' ⟨rfl, rfl⟩)
      | (go_at_call 44; refine (T.out _).mono ?_; rintro e w1 ⟨rfl, hb1⟩))
    have N1 := Lib.hid (keep_heap hb1 N.out)
    have B1 := Lib.hid (below_end (alloc_below w _) hb1)
    obtain ⟨t0, t1, -, -⟩ := two_free N1.out
    clear hb1
    go_upto_region 7 with (go_at_call 36; refine (S.out _).mono ?_; rintro e w2 ⟨rfl, hb2⟩)
    have B2 := Lib.hid (below_end B1.out hb2)
    clear hb2 t0 t1
    go_wp2_with (go_at_call 45; refine (L.out _ B2.out).mono ?_; rintro e w3 ⟨u, rfl, ho3, hb3⟩)
    exact bodyPost_ret (v := .tuple #[.slice none 0 0, .int .i64 r2]) (by simp [results, Try.f13, go_sem]) rfl ⟨_, rfl, World.ownsRow_nil _ _ _ _, below_end B2.out hb3⟩
  · subst hr
    rw [← hm] at SET
    clear hm
    generalize Hd.packV P R = p at *
    generalize makF ws a P R = q at *
    obtain ⟨q1, q2⟩ := q
    go_enter Try.func13, Try.ntmps13
    go_upto_region 4 with (first
      | (go_at_call 43; refine (C.out _ (alloc_below w _)).mono ?_; rintro e w' ⟨rfl, rfl⟩)
      | (go_at_call 44; refine (T.out _).mono ?_; rintro e w1 ⟨rfl, hb1⟩))
    have N1 := Lib.hid (keep_heap hb1 N.out)
    have B1 := Lib.hid (below_end (alloc_below w _) hb1)
    obtain ⟨t0, t1, -, -⟩ := two_free N1.out
    clear hb1
    go_upto_region 7 with (go_at_call 36; refine (S.out _).mono ?_; rintro e w2 ⟨rfl, hb2⟩)
    have B2 := Lib.hid (below_end B1.out hb2)
    have N2 := Lib.hid (keep_heap hb2 N1.out)
    clear hb2 t0 t1
    go_upto_region 10 with (go_at_call 45; refine (L.out _ B2.out).mono ?_; rintro e w3 ⟨u, rfl, ho3, hb3⟩)
    have B3 := Lib.hid (below_end B2.out hb3)
    obtain ⟨t0, t1, -, -⟩ := two_free (keep_heap hb3 N2.out)
    have WU := Lib.hid (WAt.of_own ho3)
    clear hb3 ho3
    go_upto_region 11 with (go_at_call 46; refine (K.out _).mono ?_; rintro e w4 ⟨rfl, hb4⟩)
    have B4 := Lib.hid (below_end B3.out hb4)
    have WU4 := Lib.hid (WU.out.below hb4)
    clear hb4 t0 t1
    go_wp2_with (go_at_call 47; refine (SET.out u _ WU4.out (by omega)).mono ?_; rintro e w5 ⟨x, rfl, ho5, hb5⟩)
    exact bodyPost_ret (v := .tuple #[x, .int .i64 q2]) (by simp [results, Try.f13, go_sem]) rfl ⟨x, rfl, own_mono ho5 B4.out.size, below_end B4.out hb5⟩
theorem rmake13 (v : Value) (ws : List Int) (a P R : Int) (w : World) (h : Ar w v ws) (hP : Hd.SI P) (hR : Hd.SI R) :
    Calls Try.prog 13 #[v, .int .i64 a, .agg #[.int .i64 P, .int .i64 R]] w fun e w' => CAns w (makF ws a P R) e w' := by
  by_cases hE : (if chkF ws = 0 then Hd.chkV P R else chkF ws) = 0
  · have hc : chkF ws = 0 := by
      apply Classical.byContradiction
      intro hn
      rw [if_neg hn] at hE
      exact hn hE
    rw [if_pos hc] at hE
    exact rmake13_ok v ws a P R w h hc hE
  · have T : makF ws a P R = ([], if chkF ws = 0 then Hd.chkV P R else chkF ws) := by
      unfold makF
      by_cases hc : chkF ws = 0
      · rw [if_pos hc] at hE ⊢
        rw [if_neg (by simp [hc]), if_pos hE]
      · rw [if_neg hc, if_pos hc]
    rw [T]
    exact (rmake13_bad v ws a P R w h hP hR hE).mono (fun _ _ => nil_ans)
set_option maxRecDepth 100000 in
set_option maxHeartbeats 400000 in
theorem ralike29_e1 (A : Option Addr) (n cap : Nat) (a b E : Int) (w : World) (hE : E ≠ 0) (F : Hid (Shp w (.slice A n cap) a 0 0 E)) :
    Calls Try.prog 29 #[.slice A n cap, .int .i64 a, .int .i64 b] w fun e w' => e = .returned (.tuple #[.bool false, .int .i64 E]) ∧ Below w.heap.size w w' := by
  unfold Shp at F
  have q : (E != 0) = true := by simpa using hE
  clear hE
  go_enter Try.func29, Try.ntmps29
  go_wp2_with (go_at_call 16; refine F.out.mono ?_; rintro e w1 ⟨rfl, hb1⟩)
  exact bodyPost_ret (v := .tuple #[.bool false, .int .i64 E]) (by simp [results, Try.f29, go_sem]) rfl ⟨rfl, hb1.alloc hb1.size _⟩
set_option maxRecDepth 100000 in
set_option maxHeartbeats 400000 in
theorem ralike29_e2 (A : Option Addr) (n cap : Nat) (a b P R E : Int) (w : World) (hE : E ≠ 0) (F : Hid (Shp w (.slice A n cap) a P R 0)) (G : Hid (∀ W, Below w.heap.size w W → Shp W (.slice A n cap) b 0 0 E)) :
    Calls Try.prog 29 #[.slice A n cap, .int .i64 a, .int .i64 b] w fun e w' => e = .returned (.tuple #[.bool false, .int .i64 E]) ∧ Below w.heap.size w w' := by
  unfold Shp at F G
  have q : (E != 0) = true := by simpa using hE
  clear hE
  go_enter Try.func29, Try.ntmps29
  go_upto_region 2 with (go_at_call 16; refine F.out.mono ?_; rintro e w1 ⟨rfl, hb1⟩)
  have B := Lib.hid (hb1.alloc hb1.size (.cells #[.int .i64 P, .int .i64 R] 24))
  clear hb1 F
  generalize w1.heap.size = g at *
  generalize w1.alloc (.cells #[.int .i64 P, .int .i64 R] 24) = W2 at *
  go_wp2_with (go_at_call 16; refine (G.out _ B.out).mono ?_; rintro e w3 ⟨rfl, hb3⟩)
  exact bodyPost_ret (v := .tuple #[.bool false, .int .i64 E]) (by simp [results, Try.f29, go_sem]) rfl ⟨rfl, below_end B.out (hb3.alloc hb3.size _)⟩
set_option maxRecDepth 100000 in
set_option maxHeartbeats 400000 in
theorem ralike29_ne (A : Option Addr) (n cap : Nat) (a b P R P2 R2 : Int) (w : World) (hs : Hd.same2 P R P2 R2 = false) (F : Hid (Shp w (.slice A n cap) a P R 0)) (G : Hid (∀ W, Below w.heap.size w W → Shp W (.slice A n cap) b P2 R2 0)) :
    Calls Try.prog 29 #[.slice A n cap, .int .i64 a, .int .i64 b] w fun e w' => e = .returned (.tuple #[.bool false, .int .i64 0]) ∧ Below w.heap.size w w' := by
  unfold Shp at F G
  have EQ := fun W => Hd.neq23 P R P2 R2 W
  rw [hs] at EQ
  clear hs
  go_enter Try.func29, Try.ntmps29
  go_upto_region 2 with (go_at_call 16; refine F.out.mono ?_; rintro e w1 ⟨rfl, hb1⟩)
  have B := Lib.hid (hb1.alloc hb1.size (.cells #[.int .i64 P, .int .i64 R] 24))
  have N := Lib.hid (heap_alloc_new w1 (.cells #[.int .i64 P, .int .i64 R] 24))
  clear hb1 F
  generalize w1.heap.size = g at *
  generalize w1.alloc (.cells #[.int .i64 P, .int .i64 R] 24) = W2 at *
  go_upto_region 5 with (go_at_call 16; refine (G.out _ B.out).mono ?_; rintro e w3 ⟨rfl, hb3⟩)
  have hb := alloc_below w3 (.cells #[.int .i64 P2, .int .i64 R2] 24)
  have B2 := Lib.hid (below_end B.out (below_end hb3 hb))
  obtain ⟨t0, t1, -, -⟩ := two_free (keep_heap hb (keep_heap hb3 N.out))
  obtain ⟨s0, s1, -, -⟩ := two_free (heap_alloc_new w3 (.cells #[.int .i64 P2, .int .i64 R2] 24))
  clear hb hb3 N
  generalize w3.heap.size = g2 at *
  generalize w3.alloc (.cells #[.int .i64 P2, .int .i64 R2] 24) = W4 at *
  go_wp2
  exact bodyPost_ret (v := .tuple #[.bool false, .int .i64 0]) (by simp [results, Try.f29, go_sem]) rfl ⟨rfl, B2.out⟩
set_option maxRecDepth 100000 in
set_option maxHeartbeats 1000000 in
theorem ralike29_eq (b0 off n cap k1 k2 P R : Nat) (xs ys : List Int) (d : Bool) (hd : decide (xs = ys) = d) (hx : xs.length = R) (hy : ys.length = R) (h1 : k1 + 1 + P + R ≤ n) (h2 : k2 + 1 + P + R ≤ n) (hn : n ≤ 1601) (w : World)
    (F : Hid (Shp w (.slice (some ⟨b0, off, none⟩) n cap) k1 P R 0)) (G : Hid (∀ W, Below w.heap.size w W → Shp W (.slice (some ⟨b0, off, none⟩) n cap) k2 P R 0))
    (X : Hid (∀ W i, Below w.heap.size w W → i < R → W.cell? ⟨b0, off + (k1 + 1 + P + i), none⟩ = some (.int .u64 (xs.getD i 0)) ∧ W.cell? ⟨b0, off + (k2 + 1 + P + i), none⟩ = some (.int .u64 (ys.getD i 0)))) :
    Calls Try.prog 29 #[.slice (some ⟨b0, off, none⟩) n cap, .int .i64 k1, .int .i64 k2] w fun e w' => e = .returned (.tuple #[.bool d, .int .i64 0]) ∧ Below w.heap.size w w' := by
  unfold Shp at F G
  have EQ := fun W => Hd.neq23 P R P R W
  rw [Hd.same_refl] at EQ
  have HX := Lib.hid hx
  have HY := Lib.hid hy
  have HD := Lib.hid hd
  clear hx hy hd
  go_enter Try.func29, Try.ntmps29
  go_upto_region 2 with (go_at_call 16; (with_reducible refine F.out.mono ?_); rintro e w1 ⟨rfl, hb1⟩)
  have B := Lib.hid (hb1.alloc hb1.size (.cells #[.int .i64 P, .int .i64 R] 24))
  have N := Lib.hid (heap_alloc_new w1 (.cells #[.int .i64 P, .int .i64 R] 24))
  clear hb1 F
  generalize w1.heap.size = g at *
  generalize w1.alloc (.cells #[.int .i64 P, .int .i64 R] 24) = W2 at *
  go_upto_region 5 with (go_at_call 16; (with_reducible refine (G.out _ B.out).mono ?_); rintro e w3 ⟨rfl, hb3⟩)
  have hb := alloc_below w3 (.cells #[.int .i64 P, .int .i64 R] 24)
  have B2 := Lib.hid (below_end B.out (below_end hb3 hb))
  obtain ⟨t0, t1, -, -⟩ := two_free (keep_heap hb (keep_heap hb3 N.out))
  obtain ⟨s0, s1, -, -⟩ := two_free (heap_alloc_new w3 (.cells #[.int .i64 P, .int .i64 R] 24))
  clear hb hb3 N G
  generalize w3.heap.size = g2 at *
  generalize w3.alloc (.cells #[.int .i64 P, .int .i64 R] 24) = W4 at *
  go_upto_region 9 with (fail)
  clear s0 s1 EQ
  have T0 := Lib.hid t0
  have T1 := Lib.hid t1
  clear t0 t1
  go_wp2
  go_loopw [11] (fun i wr => ∃ j q : Nat, j ≤ R ∧ i = .int .i64 j ∧ Hid (wr = W4.drewN q) ∧ Hid (xs.take j = ys.take j)) (fun i _ => R - (intOf i).toNat)
  case atStart => exact ⟨0, 0, by omega, rfl, Lib.hid rfl, Lib.hid rfl⟩
  case round =>
    obtain ⟨j, q, hj, rfl, hq, H⟩ := hrel
    have t0 : wr.cell? ⟨g, 0, none⟩ = some (.int .i64 P) := by rw [hq.out]; exact T0.out
    have t1 : wr.cell? ⟨g, 1, none⟩ = some (.int .i64 R) := by rw [hq.out]; exact T1.out
    by_cases hlt : j < R
    · obtain ⟨d1, d2⟩ := X.out W4 j B2.out hlt
      have d1 : wr.cell? ⟨b0, off + (k1 + 1 + P + j), none⟩ = some (.int .u64 (xs.getD j 0)) := by rw [hq.out]; exact d1
      have d2 : wr.cell? ⟨b0, off + (k2 + 1 + P + j), none⟩ = some (.int .u64 (ys.getD j 0)) := by rw [hq.out]; exact d2
      have jx : j < xs.length := by rw [HX.out]; exact hlt
      have jy : j < ys.length := by rw [HY.out]; exact hlt
      have G1 := Lib.hid (show xs.getD j 0 = xs[j] by simp [List.getD_eq_getElem?_getD, List.getElem?_eq_getElem jx])
      have G2 := Lib.hid (show ys.getD j 0 = ys[j] by simp [List.getD_eq_getElem?_getD, List.getElem?_eq_getElem jy])
      have hlt' : (j : Int) < (R : Int) := by omega
      have i1 : (0 : Int) ≤ (k1 : Int) + 1 + (P : Int) + (j : Int) := by omega
      have i2 : (k1 : Int) + 1 + (P : Int) + (j : Int) < (n : Int) := by omega
      have i3 : ((k1 : Int) + 1 + (P : Int) + (j : Int)).toNat = k1 + 1 + P + j := by omega
      have i4 : (0 : Int) ≤ (k2 : Int) + 1 + (P : Int) + (j : Int) := by omega
      have i5 : (k2 : Int) + 1 + (P : Int) + (j : Int) < (n : Int) := by omega
      have i6 : ((k2 : Int) + 1 + (P : Int) + (j : Int)).toNat = k2 + 1 + P + j := by omega
      by_cases hg : xs.getD j 0 = ys.getD j 0
      · have Hn : Hid (xs.take (j + 1) = ys.take (j + 1)) := Lib.hid (by rw [List.take_add_one, List.take_add_one, H.out, List.getElem?_eq_getElem jx, List.getElem?_eq_getElem jy, ← G1.out, ← G2.out, hg])
        have qn : (xs.getD j 0 != ys.getD j 0) = false := by simpa using hg
        clear hg G1 G2 jx jy
        generalize xs.getD j 0 = x at *
        generalize ys.getD j 0 = y at *
        go_wp2_with fail
        go_quiet (fail)
        go_wp2
        refine ⟨⟨j + 1, q + nq, by omega, by simp, Lib.hid (by rw [hq.out]; exact World.drewN_drewN ..), Hn⟩, ?_⟩
        show R - ((j : Int) + 1).toNat < R - ((j : Int)).toNat
        omega
      · have qn : (xs.getD j 0 != ys.getD j 0) = true := by simpa using hg
        have HF : Hid (false = d) := Lib.hid (by rw [← HD.out]; symm; simp; intro h; subst h; exact hg rfl)
        clear hg G1 G2 jx jy
        generalize xs.getD j 0 = x at *
        generalize ys.getD j 0 = y at *
        go_wp2_with fail
        go_quiet (fail)
        go_wp2
        refine bodyPost_ret (v := .tuple #[.bool false, .int .i64 0]) (by simp [results, Try.f29, go_sem]) rfl ⟨by rw [HF.out], ?_⟩
        rw [hq.out]
        exact below_drewN (below_drewN B2.out _) _
    · have HE : Hid (true = d) := Lib.hid (by
        have h := H.out
        rw [List.take_of_length_le (by rw [HX.out]; omega), List.take_of_length_le (by rw [HY.out]; omega)] at h
        rw [← HD.out, h]; simp)
      have hlt' : ¬ (j : Int) < (R : Int) := by omega
      go_wp2
      refine bodyPost_ret (v := .tuple #[.bool true, .int .i64 0]) (by simp [results, Try.f29, go_sem]) rfl ⟨by rw [HE.out], ?_⟩
      rw [hq.out]
      exact below_drewN B2.out _
theorem ralike29 (v : Value) (ws : List Int) (a b : Int) (w : World) (h : Ar w v ws) :
    Calls Try.prog 29 #[v, .int .i64 a, .int .i64 b] w fun e w' => e = .returned (.tuple #[.bool (alkF ws a b).1, .int .i64 (alkF ws a b).2]) ∧ Below w.heap.size w w' := by
  have hs := fun {a P R E : Int} => shp_of (P := P) (R := R) (E := E) (a := a) h
  have hsb := fun {a P R E : Int} (W : World) (hb : Below w.heap.size w W) (e : objF ws a = (P, R, E)) => (shp_of (h.below hb) e).out
  obtain ⟨A, cap, rfl, h1, h2⟩ := h.open
  rcases obj_cases ws a with ⟨E, hE, e⟩ | ⟨k1, P1, R1, rfl, ho1⟩
  · have T : alkF ws a b = (false, E) := by unfold alkF; rw [e, if_pos hE]
    rw [T]; exact ralike29_e1 A _ cap a b E w hE (hs e)
  · rcases obj_cases ws b with ⟨E, hE, e⟩ | ⟨k2, P2, R2, rfl, ho2⟩
    · have T : alkF ws k1 b = (false, E) := by unfold alkF; rw [ho1.is, e, if_neg (by simp), if_pos hE]
      rw [T]
      exact ralike29_e2 A _ cap k1 b P1 R1 E w hE (hs ho1.is) (Lib.hid (fun W hb => hsb W hb e))
    · have T : alkF ws k1 k2 = (decide ((P1 : Int) = P2 ∧ (R1 : Int) = R2) && decide (part ws (k1 + 1 + P1) R1 = part ws (k2 + 1 + P2) R2), 0) := by
        unfold alkF; rw [ho1.is, ho2.is, if_neg (by simp), if_neg (by simp)]; simp only [Int.toNat_natCast]
      rw [T]
      by_cases hd : (P1 : Int) = P2 ∧ (R1 : Int) = R2
      · rw [decide_eq_true hd, Bool.true_and]
        obtain ⟨e1, e2⟩ := hd
        obtain rfl : P1 = P2 := by omega
        obtain rfl : R1 = R2 := by omega
        have f1 := ho1.fit
        have f2 := ho2.fit
        obtain ⟨A', cap', e, hA⟩ := h1
        simp only [Value.slice.injEq] at e
        obtain ⟨rfl, _, rfl⟩ := e
        obtain ⟨b0, off, rfl, hc⟩ := hA (by omega)
        refine ralike29_eq b0 off ws.length cap k1 k2 P1 R1 _ _ _ rfl (part_length (by omega)) (part_length (by omega)) (by omega) (by omega) ho1.len w (hs ho1.is) (Lib.hid (fun W hb => hsb W hb ho2.is)) (Lib.hid (fun W i hb hi => ?_))
        have c1 := hc (k1 + 1 + P1 + i) _ (wc_get ws _ (by omega))
        have c2 := hc (k2 + 1 + P1 + i) _ (wc_get ws _ (by omega))
        rw [part_get hi, part_get hi]
        exact ⟨(hb.cell (p := ⟨b0, _, none⟩) (cell_lt c1)).trans c1, (hb.cell (p := ⟨b0, _, none⟩) (cell_lt c2)).trans c2⟩
      · rw [decide_eq_false hd, Bool.false_and]
        exact ralike29_ne A _ cap k1 k2 P1 R1 P2 R2 w (by
          unfold Hd.same2
          rw [Bool.eq_false_iff]
          simp only [ne_eq, Bool.and_eq_true, beq_iff_eq]
          exact hd) (hs ho1.is) (Lib.hid (fun W hb => hsb W hb ho2.is))
set_option maxRecDepth 100000 in
theorem far10 (A : Option Addr) (n cap : Nat) (w : World) (hn : n ≤ 9223372036854775807) :
    Calls Try.prog 10 #[.slice A n cap] w fun e w' => e = .returned (.bool (decide ((300 < n ∧ n ≤ 1601) ∨ 1610 < n))) ∧ w = w' := by
  by_cases h1 : 300 < n
  · have q1 : decide ((300 : Int) < (n : Int)) = true := decide_eq_true (by omega)
    by_cases h2 : n ≤ 1601
    · have q2 : decide ((n : Int) ≤ 1601) = true := decide_eq_true (by omega)
      rw [decide_eq_true (show (300 < n ∧ n ≤ 1601) ∨ 1610 < n by omega)]
      go_enter Try.func10, Try.ntmps10
      go_wp2
      go_ret
      exact ⟨rfl, rfl⟩
    · have q2 : decide ((n : Int) ≤ 1601) = false := decide_eq_false (by omega)
      by_cases h3 : 1610 < n
      · have q3 : decide ((1610 : Int) < (n : Int)) = true := decide_eq_true (by omega)
        rw [decide_eq_true (show (300 < n ∧ n ≤ 1601) ∨ 1610 < n by omega)]
        go_enter Try.func10, Try.ntmps10
        go_wp2
        go_ret
        exact ⟨rfl, rfl⟩
      · have q3 : decide ((1610 : Int) < (n : Int)) = false := decide_eq_false (by omega)
        rw [decide_eq_false (show ¬ ((300 < n ∧ n ≤ 1601) ∨ 1610 < n) by omega)]
        go_enter Try.func10, Try.ntmps10
        go_wp2
        go_ret
        exact ⟨rfl, rfl⟩
  · have q1 : decide ((300 : Int) < (n : Int)) = false := decide_eq_false (by omega)
    have q3 : decide ((1610 : Int) < (n : Int)) = false := decide_eq_false (by omega)
    rw [decide_eq_false (show ¬ ((300 < n ∧ n ≤ 1601) ∨ 1610 < n) by omega)]
    go_enter Try.func10, Try.ntmps10
    go_wp2
    go_ret
    exact ⟨rfl, rfl⟩
end Ytmgoonahpndfoaa
end Go.Proofs
