/- The reference's Clear and Copy. -/
import Derived.Test.YteeghjhkfaeflaaG06
import Derived.Test.YteeghjhkfaeflaaG13
namespace Go.Proofs
namespace Yteeghjhkfaeflaa
open Go.RowKit

set_option maxRecDepth 100000 in
set_option maxHeartbeats 1000000 in
theorem rclear45 (v : Value) (ws : List Int) (a n : Int) (w : World) (hv : WAt w v ws) (hm : ws.length ≤ 9223372036854775807) :
    Calls Try.prog 73 #[v, .int .i64 a, .int .i64 n] w fun e w' => CAns w (clrF ws a n) e w' := by
  have C := Lib.hid (rcheck43 v ws w hv hm)
  have HV := Lib.hid hv
  by_cases hc : chkF ws = 0
  rotate_left
  · have T := Lib.hid (show clrF ws a n = ([], chkF ws) by unfold clrF; rw [if_pos hc])
    have q1 : (chkF ws == 0) = false := by simpa using hc
    have q2 : (chkF ws != 0) = true := by simpa using hc
    clear hc
    generalize chkF ws = c at *
    obtain ⟨A, cap, rfl, -⟩ := hv
    go_enter Try.func73, Try.ntmps73
    go_wp2_with (go_at_call 57; refine C.out.mono ?_; rintro e w' ⟨rfl, rfl⟩)
    exact bodyPost_ret (v := .tuple #[.slice none 0 0, .int .i64 c]) (by simp [results, Try.f73, go_sem]) rfl ⟨.slice none 0 0, by rw [T.out], by rw [T.out]; exact World.ownsRow_nil _ _ _ _, Below.refl _ _⟩
  · have hl : 1 ≤ ws.length ∧ ws.length ≤ 1601 := by
      apply Classical.byContradiction
      intro hn
      rw [chk_long (by omega)] at hc
      cases hc
    rw [hc] at C
    obtain ⟨A, cap, rfl, -⟩ := hv
    have P := Lib.hid (rpart61 A ws.length cap a n w (by omega))
    cases hp : partB ws.length a n with
    | false =>
      have T := Lib.hid (show clrF ws a n = ([], 7) by unfold clrF; rw [if_neg (by simp [hc]), if_neg (by simp [hp])])
      rw [hp] at P
      clear hc hp
      go_enter Try.func73, Try.ntmps73
      go_wp2_with (first
        | (go_at_call 57; refine C.out.mono ?_; rintro e w' ⟨rfl, rfl⟩)
        | (go_at_call 76; refine P.out.mono ?_; rintro e w' ⟨rfl, rfl⟩))
      exact bodyPost_ret (v := .tuple #[.slice none 0 0, .int .i64 7]) (by simp [results, Try.f73, go_sem]) rfl ⟨.slice none 0 0, by rw [T.out], by rw [T.out]; exact World.ownsRow_nil _ _ _ _, Below.refl _ _⟩
    | true =>
      obtain ⟨p1, p2, p3, p4⟩ := partB_spec.1 hp
      obtain ⟨k, rfl⟩ : ∃ k : Nat, a = (k : Int) := ⟨a.toNat, by omega⟩
      obtain ⟨m, rfl⟩ : ∃ m : Nat, n = (m : Int) := ⟨n.toNat, by omega⟩
      have T := Lib.hid (show clrF ws k m = (zeroL ws k m, 0) by unfold clrF; rw [if_neg (by simp [hc]), if_pos hp]; rfl)
      have hkm : k + m ≤ ws.length := by omega
      rw [hp] at P
      have ER := Lib.hid (empty_words (Below.refl w.heap.size w))
      have EB := Lib.hid (alloc_below w (.cells #[] 58))
      have hl2 := hl.2
      have hl1 := hl.1
      clear hc hp p1 p2 p3 p4
      go_enter Try.func73, Try.ntmps73
      go_wp2_with (first
        | (go_at_call 57; refine C.out.mono ?_; rintro e w' ⟨rfl, rfl⟩)
        | (go_at_call 76; refine P.out.mono ?_; rintro e w' ⟨rfl, rfl⟩)
        | (at_builtin; refine push_words ER.out EB.out HV.out (by omega) rfl _ _ rfl rfl rfl (by simp; omega) ?_; intro g cap2 W1 ho1 hb1; have HO1 := Lib.hid ho1; have HB1 := Lib.hid hb1; clear ho1 hb1))
      have HO := Lib.hid (show W1.ownsRow w.heap.size 58 1 (.slice (some ⟨g, 0, none⟩) ws.length cap2) ws.length (wc ws) by simpa using HO1.out)
      clear HO1
      go_loopw [10] (fun i wr => ∃ j : Nat, j ≤ m ∧ i = .int .i64 j ∧ Hid (wr.ownsRow w.heap.size 58 1 (.slice (some ⟨g, 0, none⟩) ws.length cap2) ws.length (wc (zeroL ws k j))) ∧ Hid (Below w.heap.size w wr)) (fun i _ => m - (intOf i).toNat)
      case atStart => exact ⟨0, by omega, rfl, by rw [zeroL_zero]; exact HO, HB1⟩
      case round =>
        obtain ⟨j, hj, rfl, ho, hb⟩ := hrel
        by_cases hlt : j < m
        · have hlt' : (j : Int) < (m : Int) := by omega
          obtain ⟨c1, f1⟩ := row_cell ho.out (zeroL_length (by omega)) (k := k + j) (by omega)
          have NX := Lib.hid (row_put ho.out hb.out (k + j) 0)
          have i1 : (0 : Int) ≤ (k : Int) + (j : Int) := by omega
          have i2 : (k : Int) + (j : Int) < (ws.length : Int) := by omega
          have i3 : ((k : Int) + (j : Int)).toNat = k + j := by omega
          go_wp2
          refine ⟨⟨j + 1, by omega, by simp, Lib.hid ?_, Lib.hid NX.out.2⟩, ?_⟩
          · have := NX.out.1
            rw [zeroL_step (by omega)] at this
            exact this
          · show m - ((j : Int) + 1).toNat < m - ((j : Int)).toNat
            omega
        · have ek : j = m := by omega
          subst ek
          go_wp2
          exact bodyPost_ret (v := .tuple #[.slice (some ⟨g, 0, none⟩) ws.length cap2, .int .i64 0]) (by simp [results, Try.f73, go_sem]) rfl ⟨_, by rw [T.out], by rw [T.out, zeroL_length hkm]; exact ho.out, hb.out⟩
end Yteeghjhkfaeflaa
end Go.Proofs
/- The reference's Shape and Size. -/
namespace Go.Proofs
namespace Yteeghjhkfaeflaa
open Go.RowKit

theorem bcells {W w1 : World} (hb : Below W.heap.size W w1) {g : Nat} {x y : Value} {t : TypeId} (h : W.heap[g]? = some (.cells #[x, y] t (0, 0))) :
    w1.heap[g]? = some (.cells #[x, y] t (0, 0)) := keep_heap hb h
set_option maxRecDepth 100000 in
set_option maxHeartbeats 400000 in
theorem rshape16_e1 (A : Option Addr) (ws : List Int) (cap : Nat) (a : Int) (w : World) (h : WAt w (.slice A ws.length cap) ws) (hm : ws.length ≤ 9223372036854775807) (hc : (getF ws a).2 ≠ 0) :
    Calls Try.prog 32 #[.slice A ws.length cap, .int .i64 a] w fun e w' => e = .returned (.tuple #[.agg #[.int .i64 0, .int .i64 0], .int .i64 (getF ws a).2]) ∧ Below w.heap.size w w' := by
  have G := Lib.hid (fun W (hb : Below w.heap.size w W) => rget49 _ ws a W (h.below hb) hm)
  have q : ((getF ws a).2 != 0) = true := by simpa using hc
  clear hc h
  generalize getF ws a = R at *
  obtain ⟨z, c⟩ := R
  dsimp only at *
  go_enter Try.func32, Try.ntmps32
  go_wp2_with (go_at_call 55; refine (G.out _ (alloc_below w _)).mono ?_; rintro e w1 ⟨rfl, rfl⟩)
  exact bodyPost_ret (v := .tuple #[.agg #[.int .i64 0, .int .i64 0], .int .i64 c]) (by simp [results, Try.f32, go_sem]) rfl ⟨rfl, alloc_below w _⟩
set_option maxRecDepth 100000 in
set_option maxHeartbeats 400000 in
theorem rshape16_e2 (A : Option Addr) (ws : List Int) (cap : Nat) (a : Int) (w : World) (h : WAt w (.slice A ws.length cap) ws) (hm : ws.length ≤ 9223372036854775807) (hu : Hd.UI (getF ws a).1) (hc : (getF ws a).2 = 0) (hk : Hd.kindV (getF ws a).1 ≠ 1) :
    Calls Try.prog 32 #[.slice A ws.length cap, .int .i64 a] w fun e w' => e = .returned (.tuple #[.agg #[.int .i64 0, .int .i64 0], .int .i64 6]) ∧ Below w.heap.size w w' := by
  have G := Lib.hid (fun W (hb : Below w.heap.size w W) => rget49 _ ws a W (h.below hb) hm)
  have S := Lib.hid (fun W => Hd.rshp50 _ hu W)
  have e1 : Hd.shpP (getF ws a).1 = 0 := if_neg hk
  have e2 : Hd.shpR (getF ws a).1 = 0 := if_neg hk
  have e3 : Hd.shpE (getF ws a).1 = 6 := if_neg hk
  rw [e1, e2, e3] at S
  rw [hc] at G
  clear hc h hu hk e1 e2 e3
  have N := Lib.hid (heap_alloc_new w (.cells #[.int .i64 0, .int .i64 0] 51))
  generalize (getF ws a).1 = z at *
  go_enter Try.func32, Try.ntmps32
  go_upto_region 5 with (first
    | (go_at_call 55; refine (G.out _ (alloc_below w _)).mono ?_; rintro e w1 ⟨rfl, rfl⟩)
    | (go_at_call 56; refine (S.out _).mono ?_; rintro e w2 ⟨rfl, hb2⟩))
  have hB := alloc_below w2 (.cells #[.int .i64 0, .int .i64 0] 51)
  have B := Lib.hid (below_end (below_end (alloc_below w _) hb2) hB)
  obtain ⟨t0, t1, t2, t3⟩ := two_free (keep_heap hB (keep_heap hb2 N.out))
  clear hb2 hB N
  generalize w2.alloc (.cells #[.int .i64 0, .int .i64 0] 51) = W3 at *
  have hset := Lib.hid (Hd.two_set (.int .i64 0) (.int .i64 0) t0 t1)
  go_wp2
  obtain ⟨e0, e1⟩ := hset.out
  have hB := Lib.hid ((B.out.setCell (p := ⟨w.heap.size, 0, none⟩) (Nat.le_refl _) (.int .i64 0)).setCell (p := ⟨w.heap.size, 1, none⟩) (Nat.le_refl _) (.int .i64 0))
  clear t0 t1 t2 t3 hset
  generalize (W3.setCell ⟨w.heap.size, 0, none⟩ (.int .i64 0)).setCell ⟨w.heap.size, 1, none⟩ (.int .i64 0) = W6 at *
  exact bodyPost_ret (v := .tuple #[.agg #[.int .i64 0, .int .i64 0], .int .i64 6]) (by simp [results, Try.f32, go_sem, e0, e1]) rfl ⟨rfl, hB.out⟩
set_option maxRecDepth 100000 in
set_option maxHeartbeats 400000 in
theorem rshape16_e3 (A : Option Addr) (ws : List Int) (cap : Nat) (a : Int) (w : World) (h : WAt w (.slice A ws.length cap) ws) (hm : ws.length ≤ 9223372036854775807) (hu : Hd.UI (getF ws a).1) (hc : (getF ws a).2 = 0) (hk : Hd.kindV (getF ws a).1 = 1)
    (hl : (ws.length : Int) - a < 1 + shP (getF ws a).1 + shR (getF ws a).1) :
    Calls Try.prog 32 #[.slice A ws.length cap, .int .i64 a] w fun e w' => e = .returned (.tuple #[.agg #[.int .i64 0, .int .i64 0], .int .i64 6]) ∧ Below w.heap.size w w' := by
  obtain ⟨hcz, hp, -⟩ := get_zero hc
  obtain ⟨p1, p2, -, -⟩ := partB_spec.1 hp
  have hlen := chk_len hcz
  have G := Lib.hid (fun W (hb : Below w.heap.size w W) => rget49 _ ws a W (h.below hb) hm)
  have S := Lib.hid (fun W => Hd.rshp50 _ hu W)
  have e1 : Hd.shpP (getF ws a).1 = shP (getF ws a).1 := if_pos hk
  have e2 : Hd.shpR (getF ws a).1 = shR (getF ws a).1 := if_pos hk
  have e3 : Hd.shpE (getF ws a).1 = 0 := if_pos hk
  rw [e1, e2, e3] at S
  rw [hc] at G
  have e4 : Hd.chkV (shP (getF ws a).1) (shR (getF ws a).1) = 0 := (Hd.obj_spec.1 (Hd.kind_one.1 hk)).1
  obtain ⟨c0, c1, c2⟩ := Hd.chk_zero.1 e4
  have Z := Lib.hid (fun W => Hd.size36 (shP (getF ws a).1) (shR (getF ws a).1) ⟨by omega, by omega⟩ ⟨by omega, by omega⟩ W)
  have e5 : Hd.sizeV (shP (getF ws a).1) (shR (getF ws a).1) = 1 + shP (getF ws a).1 + shR (getF ws a).1 := if_pos e4
  rw [e4, e5] at Z
  clear hc h hu hk e1 e2 e3 e4 e5 hcz hp
  have N := Lib.hid (heap_alloc_new w (.cells #[.int .i64 0, .int .i64 0] 51))
  generalize shP (getF ws a).1 = P at *
  generalize shR (getF ws a).1 = R at *
  generalize (getF ws a).1 = z at *
  have q1 : decide ((ws.length : Int) - a < 1 + P + R) = true := decide_eq_true hl
  go_enter Try.func32, Try.ntmps32
  go_upto_region 7 with (first
    | (go_at_call 55; refine (G.out _ (alloc_below w _)).mono ?_; rintro e w1 ⟨rfl, rfl⟩)
    | (go_at_call 56; refine (S.out _).mono ?_; rintro e w2 ⟨rfl, hb2⟩))
  have M := Lib.hid (heap_alloc_new w2 (.cells #[.int .i64 P, .int .i64 R] 51))
  obtain ⟨m0, m1, -, -⟩ := two_free M.out
  have hB := alloc_below w2 (.cells #[.int .i64 P, .int .i64 R] 51)
  have B0 := Lib.hid (below_end (below_end (alloc_below w _) hb2) hB)
  have N2 := Lib.hid (keep_heap hB (keep_heap hb2 N.out))
  clear hb2 hB N
  generalize w2.heap.size = g at *
  generalize w2.alloc (.cells #[.int .i64 P, .int .i64 R] 51) = W3 at *
  go_upto_region 8 with (go_at_call 34; refine (Z.out _).mono ?_; rintro e w3 ⟨rfl, hb3⟩)
  obtain ⟨t0, t1, t2, t3⟩ := two_free (keep_heap hb3 N2.out)
  have B := Lib.hid (below_end B0.out hb3)
  obtain ⟨k0, k1, -, -⟩ := two_free (keep_heap hb3 M.out)
  clear hb3 m0 m1 B0 N2 M
  have hset := Lib.hid (Hd.two_set (.int .i64 0) (.int .i64 0) t0 t1)
  go_wp2
  obtain ⟨e0, e1⟩ := hset.out
  have hB := Lib.hid ((B.out.setCell (p := ⟨w.heap.size, 0, none⟩) (Nat.le_refl _) (.int .i64 0)).setCell (p := ⟨w.heap.size, 1, none⟩) (Nat.le_refl _) (.int .i64 0))
  clear t0 t1 t2 t3 hset
  generalize (w3.setCell ⟨w.heap.size, 0, none⟩ (.int .i64 0)).setCell ⟨w.heap.size, 1, none⟩ (.int .i64 0) = W6 at *
  exact bodyPost_ret (v := .tuple #[.agg #[.int .i64 0, .int .i64 0], .int .i64 6]) (by simp [results, Try.f32, go_sem, e0, e1]) rfl ⟨rfl, hB.out⟩
set_option maxRecDepth 100000 in
set_option maxHeartbeats 400000 in
theorem rshape16_ok (A : Option Addr) (ws : List Int) (cap : Nat) (a : Int) (w : World) (h : WAt w (.slice A ws.length cap) ws) (hm : ws.length ≤ 9223372036854775807) (hu : Hd.UI (getF ws a).1) (hc : (getF ws a).2 = 0) (hk : Hd.kindV (getF ws a).1 = 1)
    (hl : ¬ (ws.length : Int) - a < 1 + shP (getF ws a).1 + shR (getF ws a).1) :
    Calls Try.prog 32 #[.slice A ws.length cap, .int .i64 a] w fun e w' => e = .returned (.tuple #[.agg #[.int .i64 (shP (getF ws a).1), .int .i64 (shR (getF ws a).1)], .int .i64 0]) ∧ Below w.heap.size w w' := by
  obtain ⟨hcz, hp, -⟩ := get_zero hc
  obtain ⟨p1, p2, -, -⟩ := partB_spec.1 hp
  have hlen := chk_len hcz
  have G := Lib.hid (fun W (hb : Below w.heap.size w W) => rget49 _ ws a W (h.below hb) hm)
  have S := Lib.hid (fun W => Hd.rshp50 _ hu W)
  have e1 : Hd.shpP (getF ws a).1 = shP (getF ws a).1 := if_pos hk
  have e2 : Hd.shpR (getF ws a).1 = shR (getF ws a).1 := if_pos hk
  have e3 : Hd.shpE (getF ws a).1 = 0 := if_pos hk
  rw [e1, e2, e3] at S
  rw [hc] at G
  have e4 : Hd.chkV (shP (getF ws a).1) (shR (getF ws a).1) = 0 := (Hd.obj_spec.1 (Hd.kind_one.1 hk)).1
  obtain ⟨c0, c1, c2⟩ := Hd.chk_zero.1 e4
  have Z := Lib.hid (fun W => Hd.size36 (shP (getF ws a).1) (shR (getF ws a).1) ⟨by omega, by omega⟩ ⟨by omega, by omega⟩ W)
  have e5 : Hd.sizeV (shP (getF ws a).1) (shR (getF ws a).1) = 1 + shP (getF ws a).1 + shR (getF ws a).1 := if_pos e4
  rw [e4, e5] at Z
  clear hc h hu hk e1 e2 e3 e4 e5 hcz hp
  have N := Lib.hid (heap_alloc_new w (.cells #[.int .i64 0, .int .i64 0] 51))
  generalize shP (getF ws a).1 = P at *
  generalize shR (getF ws a).1 = R at *
  generalize (getF ws a).1 = z at *
  have q1 : decide ((ws.length : Int) - a < 1 + P + R) = false := decide_eq_false hl
  go_enter Try.func32, Try.ntmps32
  go_upto_region 7 with (first
    | (go_at_call 55; refine (G.out _ (alloc_below w _)).mono ?_; rintro e w1 ⟨rfl, rfl⟩)
    | (go_at_call 56; refine (S.out _).mono ?_; rintro e w2 ⟨rfl, hb2⟩))
  have M := Lib.hid (heap_alloc_new w2 (.cells #[.int .i64 P, .int .i64 R] 51))
  obtain ⟨m0, m1, -, -⟩ := two_free M.out
  have hB := alloc_below w2 (.cells #[.int .i64 P, .int .i64 R] 51)
  have B0 := Lib.hid (below_end (below_end (alloc_below w _) hb2) hB)
  have N2 := Lib.hid (keep_heap hB (keep_heap hb2 N.out))
  clear hb2 hB N
  generalize w2.heap.size = g at *
  generalize w2.alloc (.cells #[.int .i64 P, .int .i64 R] 51) = W3 at *
  go_upto_region 8 with (go_at_call 34; refine (Z.out _).mono ?_; rintro e w3 ⟨rfl, hb3⟩)
  obtain ⟨t0, t1, t2, t3⟩ := two_free (keep_heap hb3 N2.out)
  have B := Lib.hid (below_end B0.out hb3)
  obtain ⟨k0, k1, -, -⟩ := two_free (keep_heap hb3 M.out)
  clear hb3 m0 m1 B0 N2 M
  have hset := Lib.hid (Hd.two_set (.int .i64 P) (.int .i64 R) t0 t1)
  go_wp2
  obtain ⟨e0, e1⟩ := hset.out
  have hB := Lib.hid ((B.out.setCell (p := ⟨w.heap.size, 0, none⟩) (Nat.le_refl _) (.int .i64 P)).setCell (p := ⟨w.heap.size, 1, none⟩) (Nat.le_refl _) (.int .i64 R))
  clear t0 t1 t2 t3 hset
  generalize (w3.setCell ⟨w.heap.size, 0, none⟩ (.int .i64 P)).setCell ⟨w.heap.size, 1, none⟩ (.int .i64 R) = W6 at *
  exact bodyPost_ret (v := .tuple #[.agg #[.int .i64 P, .int .i64 R], .int .i64 0]) (by simp [results, Try.f32, go_sem, e0, e1]) rfl ⟨rfl, hB.out⟩
theorem rshape16 (v : Value) (ws : List Int) (a : Int) (w : World) (h : Ar w v ws) :
    Calls Try.prog 32 #[v, .int .i64 a] w fun e w' => e = .returned (.tuple #[.agg #[.int .i64 (objF ws a).1, .int .i64 (objF ws a).2.1], .int .i64 (objF ws a).2.2]) ∧ Below w.heap.size w w' := by
  obtain ⟨A, cap, rfl, h1, h2⟩ := h.open
  have hu := get_ui h.ui a
  unfold objF
  by_cases hg : (getF ws a).2 = 0
  rotate_left
  · rw [if_pos hg]; exact rshape16_e1 A ws cap a w h1 h.len hg
  rw [if_neg (by simp [hg])]
  by_cases hk : Hd.kindV (getF ws a).1 = 1
  rotate_left
  · rw [if_pos hk]; exact rshape16_e2 A ws cap a w h1 h.len hu hg hk
  rw [if_neg (by simp [hk])]
  by_cases hl : (ws.length : Int) - a < 1 + shP (getF ws a).1 + shR (getF ws a).1
  · rw [if_pos hl]; exact rshape16_e3 A ws cap a w h1 h.len hu hg hk hl
  · rw [if_neg hl]; exact rshape16_ok A ws cap a w h1 h.len hu hg hk hl
set_option maxRecDepth 100000 in
set_option maxHeartbeats 400000 in
theorem rsize18 (v : Value) (ws : List Int) (a : Int) (w : World) (h : Ar w v ws) :
    Calls Try.prog 39 #[v, .int .i64 a] w fun e w' => e = .returned (.tuple #[.int .i64 (sizF ws a).1, .int .i64 (sizF ws a).2]) ∧ Below w.heap.size w w' := by
  have F := Lib.hid (rshape16 v ws a w h)
  obtain ⟨A, cap, rfl, h1, h2⟩ := h.open
  rcases obj_cases ws a with ⟨E, hE, e⟩ | ⟨k, P, R, rfl, ho⟩
  · have T : sizF ws a = (0, E) := by unfold sizF; rw [e, if_neg hE]
    rw [T]
    rw [e] at F
    have q : (E != 0) = true := by simpa using hE
    clear T e h h1 h2 hE
    go_enter Try.func39, Try.ntmps39
    go_wp2_with (go_at_call 32; refine F.out.mono ?_; rintro e w1 ⟨rfl, hb1⟩)
    exact bodyPost_ret (v := .tuple #[.int .i64 0, .int .i64 E]) (by simp [results, Try.f39, go_sem]) rfl ⟨rfl, hb1.alloc hb1.size _⟩
  · have T : sizF ws k = (1 + (P : Int) + R, 0) := by unfold sizF; rw [ho.is, if_pos rfl]
    rw [T]
    rw [ho.is] at F
    have hs := ho.sum
    clear T h h1 h2 ho
    go_enter Try.func39, Try.ntmps39
    go_wp2_with (go_at_call 32; refine F.out.mono ?_; rintro e w1 ⟨rfl, hb1⟩)
    exact bodyPost_ret (v := .tuple #[.int .i64 (1 + (P : Int) + R), .int .i64 0]) (by simp [results, Try.f39, go_sem]) rfl ⟨rfl, hb1.alloc hb1.size _⟩
end Yteeghjhkfaeflaa
end Go.Proofs
