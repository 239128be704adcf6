/- The law ObjectsWhole answers true. -/
import Derived.Test.YtmgoonahpndfoaaObL
import Derived.Test.YtmgoonahpndfoaaArRf
import Derived.Test.YtmgoonahpndfoaaObK
namespace Go.Proofs
namespace Ytmgoonahpndfoaa
open Go.RowKit

set_option maxRecDepth 100000 in
set_option maxHeartbeats 400000 in
theorem whole7_long (A : Option Addr) (n cap : Nat) (a P R : Int) (w : World) (hn : 300 < n) (hm : n ≤ 9223372036854775807) :
    Calls Try.prog 7 #[.slice A n cap, .int .i64 a, .agg #[.int .i64 P, .int .i64 R]] w fun e w' => e = .returned (.bool true) ∧ Below w.heap.size w w' := by
  have q : decide ((300 : Int) < (n : Int)) = true := decide_eq_true (by omega)
  go_enter Try.func7, Try.ntmps7
  go_wp2_with (go_at_call 11; refine (awake11 _).mono ?_; rintro e w1 ⟨rfl, hb1⟩)
  exact bodyPost_ret (v := .bool true) (by simp [results, Try.f7, go_sem]) rfl ⟨rfl, below_end (alloc_below w _) hb1⟩
set_option maxRecDepth 100000 in
set_option maxHeartbeats 400000 in
theorem whole7_err (A : Option Addr) (n cap : Nat) (a P R E : Int) (w : World) (hn : n ≤ 300) (hE : E ≠ 0)
    (C1 : Hid (∀ W, Below w.heap.size w W → Calls Try.prog 12 #[.slice A n cap, .int .i64 a, .agg #[.int .i64 P, .int .i64 R]] W fun e w' => CAns W ([], E) e w')) :
    Calls Try.prog 7 #[.slice A n cap, .int .i64 a, .agg #[.int .i64 P, .int .i64 R]] w fun e w' => e = .returned (.bool true) ∧ Below w.heap.size w w' := by
  have q : decide ((300 : Int) < (n : Int)) = false := decide_eq_false (by omega)
  have q1 : (E != 0) = true := by simpa using hE
  clear hE
  go_enter Try.func7, Try.ntmps7
  go_wp2_with (first
    | (go_at_call 12; refine (C1.out _ (alloc_below w _)).mono ?_; rintro e w1 ⟨u, rfl, ho, hb1⟩; obtain ⟨A1, c1, rfl⟩ := own_nil ho; have B1 := Lib.hid (below_end (alloc_below w (.cells #[.int .i64 P, .int .i64 R] 24)) hb1))
    | (go_at_call 11; refine (awake11 _).mono ?_; rintro e w2 ⟨rfl, hb2⟩))
  exact bodyPost_ret (v := .bool true) (by simp [results, Try.f7, go_sem]) rfl ⟨rfl, below_end B1.out hb2⟩
theorem liat_any {W : World} {l : Value} {xs : List Int} (h : IAt W l xs) : ∃ A c, l = .slice A xs.length c := by
  obtain ⟨A, c, rfl, _⟩ := h; exact ⟨A, c, rfl⟩
theorem iat_cell {W : World} {A : Option Addr} {n c : Nat} {xs : List Int} (h : IAt W (.slice A n c) xs) {i : Nat} (hi : i < xs.length) : ∃ b off, A = some ⟨b, off, none⟩ ∧ W.cell? ⟨b, off + i, none⟩ = some (.int .i64 (xs.getD i 0)) := by
  obtain ⟨A', c', e, hA⟩ := h
  simp only [Value.slice.injEq] at e
  obtain ⟨rfl, rfl, rfl⟩ := e
  obtain ⟨b, off, rfl, hc⟩ := hA (by omega)
  exact ⟨b, off, rfl, hc i _ (ic_get xs i hi)⟩
set_option maxRecDepth 100000 in
set_option maxHeartbeats 4000000 in
theorem whole7_ok (A : Option Addr) (n cap k P R : Nat) (vs ls : List Int) (w : World) (hn : n ≤ 300) (hk : 1 ≤ k) (hfit : k + (1 + P + R) ≤ n) (hll : ls.length ≤ 300) (hls : ∀ x ∈ ls, (k : Int) ≤ x ∧ x < (k : Int) + (1 + (P : Int) + (R : Int)))
    (C1 : Hid (∀ W, Below w.heap.size w W → Calls Try.prog 12 #[.slice A n cap, .int .i64 k, .agg #[.int .i64 P, .int .i64 R]] W fun e w' => ∃ u, e = .returned (.tuple #[u, .int .i64 0]) ∧ Hid (Ar w' u vs) ∧ Below W.heap.size W w'))
    (C2 : Hid (∀ W u, Ar W u vs → Calls Try.prog 15 #[u, .int .i64 k] W fun e w' => e = .returned (.tuple #[.agg #[.int .i64 P, .int .i64 R], .int .i64 0]) ∧ Below W.heap.size W w'))
    (C3 : Hid (∀ W u, Ar W u vs → Calls Try.prog 17 #[u, .int .i64 k] W fun e w' => e = .returned (.tuple #[.int .i64 (1 + (P : Int) + (R : Int)), .int .i64 0]) ∧ Below W.heap.size W w'))
    (C4 : Hid (∀ W, Calls Try.prog 36 #[.agg #[.int .i64 P, .int .i64 R]] W fun e w' => e = .returned (.tuple #[.int .i64 (1 + (P : Int) + (R : Int)), .int .i64 0]) ∧ Below W.heap.size W w'))
    (C5 : Hid (∀ W u, Ar W u vs → Calls Try.prog 19 #[u, .int .i64 k] W fun e w' => ∃ l, e = .returned (.tuple #[l, .int .i64 0]) ∧ Hid (IAt w' l (upL (k + 1) P)) ∧ Below W.heap.size W w'))
    (C6 : Hid (∀ W u, Below w.heap.size w W → Ar W u vs → Calls Try.prog 35 #[.slice A n cap, u] W fun e w' => ∃ l, e = .returned (.tuple #[l, .int .i64 0]) ∧ Hid (IAt w' l ls) ∧ Below W.heap.size W w'))
    (C7 : Hid (∀ W u (j : Nat), Ar W u vs → j < P → Calls Try.prog 22 #[u, .int .i64 k, .int .i64 j] W fun e w' => e = .returned (.tuple #[.int .i64 0, .int .i64 0]) ∧ Below W.heap.size W w'))
    (C8 : Hid (∀ W u (j : Nat), Ar W u vs → j < R → Calls Try.prog 24 #[u, .int .i64 k, .int .i64 j] W fun e w' => e = .returned (.tuple #[.int .u64 0, .int .i64 0]) ∧ Below W.heap.size W w'))
    (C9 : Hid (∀ W u, Ar W u vs → Calls Try.prog 22 #[u, .int .i64 k, .int .i64 P] W fun e w' => e = .returned (.tuple #[.int .i64 0, .int .i64 10]) ∧ Below W.heap.size W w'))
    (C10 : Hid (∀ W u, Ar W u vs → Calls Try.prog 24 #[u, .int .i64 k, .int .i64 R] W fun e w' => e = .returned (.tuple #[.int .u64 0, .int .i64 10]) ∧ Below W.heap.size W w'))
    (C11 : Hid (∀ W u, Ar W u vs → Calls Try.prog 24 #[u, .int .i64 k, .int .i64 (-1)] W fun e w' => e = .returned (.tuple #[.int .u64 0, .int .i64 10]) ∧ Below W.heap.size W w')) :
    Calls Try.prog 7 #[.slice A n cap, .int .i64 k, .agg #[.int .i64 P, .int .i64 R]] w fun e w' => e = .returned (.bool true) ∧ Below w.heap.size w w' := by
  have q : decide ((300 : Int) < (n : Int)) = false := decide_eq_false (by omega)
  have EQ := fun W => Hd.neq23 P R P R W
  rw [Hd.same_refl] at EQ
  have HLS := Lib.hid hls
  have UL := Lib.hid (upL_length (k + 1) P)
  have UG := Lib.hid (fun i (hi : i < P) => upL_get (k + 1) P i hi)
  clear hls
  generalize upL (k + 1) P = up at *
  have N0 := Lib.hid (heap_alloc_new w (.cells #[.int .i64 P, .int .i64 R] 24))
  have B0 := Lib.hid (alloc_below w (.cells #[.int .i64 P, .int .i64 R] 24))
  obtain ⟨t0, t1, -, -⟩ := two_free N0.out
  go_enter Try.func7, Try.ntmps7
  go_upto_region 1 with (fail)
  generalize w.alloc (.cells #[.int .i64 P, .int .i64 R] 24) = W0 at *
  go_upto_region 4 with (go_at_call 12; refine (C1.out _ B0.out).mono ?_; rintro e w1 ⟨v1, rfl, X1, hb1⟩)
  have N1 := Lib.hid (keep_heap hb1 N0.out)
  have B1 := Lib.hid (below_end B0.out hb1)
  clear t0 t1 hb1 N0
  go_upto_region 7 with (go_at_call 15; refine (C2.out _ _ X1.out).mono ?_; rintro e w2 ⟨rfl, hb2⟩)
  have M2 := Lib.hid (heap_alloc_new w2 (.cells #[.int .i64 P, .int .i64 R] 24))
  have hb := below_end hb2 (alloc_below w2 (.cells #[.int .i64 P, .int .i64 R] 24))
  have N2 := Lib.hid (keep_heap hb N1.out)
  have B2 := Lib.hid (below_end B1.out hb)
  have X2 := Lib.hid (X1.out.below hb)
  clear hb hb2 N1 X1
  generalize w2.heap.size = g2 at *
  generalize w2.alloc (.cells #[.int .i64 P, .int .i64 R] 24) = W2 at *
  go_upto_region 8 with (go_at_call 17; refine (C3.out _ _ X2.out).mono ?_; rintro e w3 ⟨rfl, hb3⟩)
  have N3 := Lib.hid (keep_heap hb3 N2.out)
  have M3 := Lib.hid (keep_heap hb3 M2.out)
  have B3 := Lib.hid (below_end B2.out hb3)
  have X3 := Lib.hid (X2.out.below hb3)
  clear hb3 N2 M2 X2
  obtain ⟨t0, t1, -, -⟩ := two_free N3.out
  go_upto_region 9 with (go_at_call 36; refine (C4.out _).mono ?_; rintro e w4 ⟨rfl, hb4⟩)
  have N4 := Lib.hid (keep_heap hb4 N3.out)
  have M4 := Lib.hid (keep_heap hb4 M3.out)
  have B4 := Lib.hid (below_end B3.out hb4)
  have X4 := Lib.hid (X3.out.below hb4)
  clear t0 t1 hb4 N3 M3 X3
  go_upto_region 10 with (go_at_call 19; refine (C5.out _ _ X4.out).mono ?_; rintro e w5 ⟨l5, rfl, Y5, hb5⟩)
  have N5 := Lib.hid (keep_heap hb5 N4.out)
  have M5 := Lib.hid (keep_heap hb5 M4.out)
  have B5 := Lib.hid (below_end B4.out hb5)
  have X5 := Lib.hid (X4.out.below hb5)
  clear hb5 N4 M4 X4
  go_upto_region 11 with (go_at_call 35; refine (C6.out _ _ B5.out X5.out).mono ?_; rintro e w6 ⟨l6, rfl, Y6, hb6⟩)
  have N6 := Lib.hid (keep_heap hb6 N5.out)
  have M6 := Lib.hid (keep_heap hb6 M5.out)
  have B6 := Lib.hid (below_end B5.out hb6)
  have X6 := Lib.hid (X5.out.below hb6)
  have Y5' := Lib.hid (Y5.out.below hb6)
  clear hb6 N5 M5 X5 Y5
  obtain ⟨lA, lc, rfl⟩ := liat_any Y5'.out
  obtain ⟨dA, dc, rfl⟩ := liat_any Y6.out
  have Y5 := Lib.hid (show IAt w6 (.slice lA P lc) up by have := Y5'.out; rwa [UL.out] at this)
  rw [UL.out]
  clear Y5'
  obtain ⟨t0, t1, -, -⟩ := two_free N6.out
  obtain ⟨s0, s1, -, -⟩ := two_free M6.out
  go_upto_region 13 with (fail)
  clear t0 t1 s0 s1 EQ M6
  go_wp2
  go_loopw [18] (fun i wr => ∃ j : Nat, j ≤ P ∧ i = .int .i64 j ∧ Hid (Below w6.heap.size w6 wr)) (fun i _ => P - (intOf i).toNat)
  case atStart => exact ⟨0, by omega, rfl, Lib.hid (Below.refl _ _)⟩
  case round =>
    obtain ⟨j, hj, rfl, hB⟩ := hrel
    by_cases hlt : j < P
    · have hlt' : (j : Int) < (P : Int) := by omega
      obtain ⟨b, off, rfl, hc⟩ := iat_cell Y5.out (i := j) (by rw [UL.out]; exact hlt)
      rw [UG.out j hlt] at hc
      have HC := Lib.hid (keep_cell hB.out hc)
      have qn : (((k + 1 : Nat) : Int) + (j : Int) != (k : Int) + 1 + (j : Int)) = false := by simp
      have CJ := Lib.hid (C7.out wr v1 j (X6.out.below hB.out) hlt)
      clear hc
      go_wp2_with (go_at_call 22; refine CJ.out.mono ?_; rintro e w7 ⟨rfl, hb7⟩; have d := keep_cell hb7 HC.out)
      refine ⟨⟨j + 1, by omega, by simp, Lib.hid (below_end hB.out hb7)⟩, ?_⟩
      show P - ((j : Int) + 1).toNat < P - ((j : Int)).toNat
      omega
    · have hlt' : ¬ (j : Int) < (P : Int) := by omega
      have hjP : j = P := by omega
      subst hjP
      have N7 := Lib.hid (keep_heap hB.out N6.out)
      have X7 := Lib.hid (X6.out.below hB.out)
      have B7 := Lib.hid (below_end B6.out hB.out)
      have Y7 := Lib.hid (Y6.out.below hB.out)
      clear hB N6 X6 B6 Y6 Y5 UG UL
      go_wp2
      go_loopw [21] (fun i wr2 => ∃ m : Nat, m ≤ R ∧ i = .int .i64 m ∧ Hid (Below wr.heap.size wr wr2)) (fun i _ => R - (intOf i).toNat)
      case atStart => exact ⟨0, by omega, rfl, Lib.hid (Below.refl _ _)⟩
      case round =>
        obtain ⟨m, hm, rfl, hB⟩ := hrel
        have N8 := Lib.hid (keep_heap hB.out N7.out)
        have X8 := Lib.hid (X7.out.below hB.out)
        obtain ⟨t0, t1, -, -⟩ := two_free N8.out
        by_cases hlm : m < R
        · have hlm' : (m : Int) < (R : Int) := by omega
          have CJ := Lib.hid (C8.out wr v1 m X8.out hlm)
          go_wp2_with (go_at_call 24; refine CJ.out.mono ?_; rintro e w8 ⟨rfl, hb8⟩)
          refine ⟨⟨m + 1, by omega, by simp, Lib.hid (below_end hB.out hb8)⟩, ?_⟩
          show R - ((m : Int) + 1).toNat < R - ((m : Int)).toNat
          omega
        · have hlm' : ¬ (m : Int) < (R : Int) := by omega
          have hmR : m = R := by omega
          subst hmR
          have B8 := Lib.hid (below_end B7.out hB.out)
          have Y8 := Lib.hid (Y7.out.below hB.out)
          clear hB N7 X7 B7 Y7
          go_upto_region 25 with (fail)
          clear t0 t1
          go_wp2
          go_loopw [24] (fun i wr2 => ∃ q : Nat, q ≤ ls.length ∧ i = .int .i64 q ∧ Hid (Below wr.heap.size wr wr2)) (fun i _ => ls.length - (intOf i).toNat)
          case atStart => exact ⟨0, by omega, rfl, Lib.hid (Below.refl _ _)⟩
          case round =>
            obtain ⟨x, hx, rfl, hB⟩ := hrel
            by_cases hlx : x < ls.length
            · have hlx' : (x : Int) < (ls.length : Int) := by omega
              obtain ⟨b, off, rfl, hc⟩ := iat_cell Y8.out (i := x) hlx
              have d := keep_cell hB.out hc
              have hmem := HLS.out (ls.getD x 0) (by rw [List.getD_eq_getElem?_getD, List.getElem?_eq_getElem hlx]; exact List.getElem_mem hlx)
              have q1 : decide (ls.getD x 0 < (k : Int)) = false := decide_eq_false (by omega)
              have q2 : decide ((k : Int) + (1 + (j : Int) + (m : Int)) ≤ ls.getD x 0) = false := decide_eq_false (by omega)
              clear hc hmem
              generalize ls.getD x 0 = y at *
              go_wp2
              refine ⟨⟨x + 1, by omega, by simp, hB⟩, ?_⟩
              show ls.length - ((x : Int) + 1).toNat < ls.length - ((x : Int)).toNat
              omega
            · have hlx' : ¬ (x : Int) < (ls.length : Int) := by omega
              have X9 := Lib.hid (X8.out.below hB.out)
              have B9 := Lib.hid (below_end B8.out hB.out)
              obtain ⟨t0, t1, -, -⟩ := two_free (keep_heap hB.out N8.out)
              have N9 := Lib.hid (keep_heap hB.out N8.out)
              clear hB N8 X8 B8 Y8
              go_upto_region 31 with (go_at_call 22; refine (C9.out _ _ X9.out).mono ?_; rintro e y1 ⟨rfl, hy1⟩)
              have X10 := Lib.hid (X9.out.below hy1)
              have N10 := Lib.hid (keep_heap hy1 N9.out)
              clear t0 t1
              obtain ⟨t0, t1, -, -⟩ := two_free N10.out
              go_upto_region 32 with (go_at_call 24; refine (C10.out _ _ X10.out).mono ?_; rintro e y2 ⟨rfl, hy2⟩)
              have X11 := Lib.hid (X10.out.below hy2)
              clear t0 t1
              go_wp2_with (first
                | (go_at_call 24; refine (C11.out _ _ X11.out).mono ?_; rintro e y3 ⟨rfl, hy3⟩)
                | (go_at_call 11; refine (awake11 _).mono ?_; rintro e y4 ⟨rfl, hy4⟩))
              exact bodyPost_ret (v := .bool true) (by simp [results, Try.f7, go_sem]) rfl ⟨rfl, below_end (below_end (below_end (below_end B9.out hy1) hy2) hy3) hy4⟩
theorem whole7 (v : Value) (ws : List Int) (a P R : Int) (w : World) (h : Ar w v ws) (hP : Hd.SI P) (hR : Hd.SI R) :
    Calls Try.prog 7 #[v, .int .i64 a, .agg #[.int .i64 P, .int .i64 R]] w fun e w' => e = .returned (.bool true) ∧ Below w.heap.size w w' := by
  have hA := h
  obtain ⟨A, cap, rfl, -, -⟩ := h.open
  by_cases hn : 300 < ws.length
  · exact whole7_long A ws.length cap a P R w hn h.len
  have M := fun (W : World) (hb : Below w.heap.size w W) => make12 _ ws a P R W (hA.below hb) hP hR
  by_cases hE : (makF ws a P R).2 = 0
  rotate_left
  · have e : makF ws a P R = ([], (makF ws a P R).2) := by rw [← mak_err hE]
    exact whole7_err A ws.length cap a P R _ w (by omega) hE (Lib.hid (fun W hb => by
      have := M W hb
      rwa [e] at this))
  obtain ⟨k, p, r, rfl, rfl, rfl, hc, hs, hk, hfit⟩ := mak_ok hE
  have e := mak_is hc hs hk hfit
  have ho := mk_ob hc hs hk hfit
  have hvl : (mkL ws k (1 + p + r) (Hd.packV p r)).length = ws.length := mkL_length _ hfit
  have hvu := mkL_ui hA.ui k (1 + p + r) (pack_ui (P := p) (R := r) (by omega) (by omega) (by omega))
  have hg := mkL_get (Hd.packV p r) hfit (by omega)
  have hfld : ∀ j, k < j → j < k + (1 + p + r) → (mkL ws k (1 + p + r) (Hd.packV p r)).getD j 0 = 0 := fun j h1 h2 => by
    rw [hg, if_neg (by omega), if_pos ⟨by omega, h2⟩]
  have hls : ∀ x ∈ diffs 0 ws (mkL ws k (1 + p + r) (Hd.packV p r)), (k : Int) ≤ x ∧ x < (k : Int) + (1 + (p : Int) + (r : Int)) := fun x hx => by
    obtain ⟨i, rfl, hi, hne⟩ := diffs_mem _ _ 0 x hx
    rw [Nat.zero_add]
    rw [hg] at hne
    by_cases h1 : k ≤ i ∧ i < k + (1 + p + r)
    · omega
    · rw [if_neg (by omega), if_neg h1] at hne
      exact absurd rfl hne
  have hlen := diffs_len 0 ws (mkL ws k (1 + p + r) (Hd.packV p r))
  refine whole7_ok A ws.length cap k p r (mkL ws k (1 + p + r) (Hd.packV p r)) (diffs 0 ws (mkL ws k (1 + p + r) (Hd.packV p r))) w (by omega) hk hfit (by omega) hls ?_ ?_ ?_ ?_ ?_ ?_ ?_ ?_ ?_ ?_ ?_
  · exact Lib.hid (fun W hb => by
      have := M W hb
      rw [e] at this
      refine this.mono ?_
      rintro e w' ⟨u, rfl, ho, hb⟩
      exact ⟨u, rfl, Lib.hid (own_ar ho hvu (by omega)), hb⟩)
  · exact Lib.hid (fun W u hu => by have := shape15 u _ k W hu; rwa [ho.is] at this)
  · exact Lib.hid (fun W u hu => by
      have := size17 u _ k W hu
      have e2 : sizF (mkL ws k (1 + p + r) (Hd.packV p r)) k = (1 + (p : Int) + (r : Int), 0) := by unfold sizF; rw [ho.is, if_pos rfl]
      rwa [e2] at this)
  · exact Lib.hid (fun W => by
      have := Hd.size36 p r hP hR W
      have e3 : Hd.chkV p r = 0 := Hd.chk_zero.2 ⟨by omega, by omega, by omega⟩
      rwa [show Hd.sizeV p r = 1 + (p : Int) + (r : Int) from if_pos e3, e3] at this)
  · exact Lib.hid (fun W u hu => by
      have := slots19 u _ k W hu
      have e2 : sltF (mkL ws k (1 + p + r) (Hd.packV p r)) k = (upL (k + 1) p, 0) := by unfold sltF; rw [ho.is, if_pos rfl]; simp only [Int.toNat_natCast]
      rw [e2] at this
      refine this.mono ?_
      rintro e w' ⟨l, rfl, ho, hb⟩
      exact ⟨l, rfl, Lib.hid (IAt.of_own ho), hb⟩)
  · exact Lib.hid (fun W u hb hu => by
      have := rdiffer35 _ u ws _ W (hA.below hb).at_ hu.at_ (by omega) (by omega)
      rw [differ_one hc ho.chk hvl.symm] at this
      refine this.mono ?_
      rintro e w' ⟨l, rfl, ho, hb⟩
      exact ⟨l, rfl, Lib.hid (IAt.of_own ho), hb⟩)
  · exact Lib.hid (fun W u j hu hj => by
      have := pointer22 u _ k j W hu
      have e2 : ptrF (mkL ws k (1 + p + r) (Hd.packV p r)) k j = (0, 0) := by
        unfold ptrF
        rw [ho.is, if_pos rfl]
        simp only [Int.toNat_natCast]
        have e7 : rdF (part (mkL ws k (1 + p + r) (Hd.packV p r)) (k + 1) p) (j : Int) = (0, 0) := by
          unfold rdF
          rw [part_length (by omega), if_pos ⟨by omega, by omega⟩, Int.toNat_natCast, part_get hj, hfld _ (by omega) (by omega)]
        unfold gtF adrF
        rw [e7, if_pos rfl, if_neg (by decide)]
      rwa [e2] at this)
  · exact Lib.hid (fun W u j hu hj => by
      have := raw24 u _ k j W hu
      have e2 : rawF (mkL ws k (1 + p + r) (Hd.packV p r)) k j = (0, 0) := by
        unfold rawF
        rw [ho.is, if_pos rfl]
        simp only [Int.toNat_natCast]
        unfold rdF
        rw [part_length (by omega), if_pos ⟨by omega, by omega⟩, Int.toNat_natCast, part_get hj, hfld _ (by omega) (by omega)]
      rwa [e2] at this)
  · exact Lib.hid (fun W u hu => by
      have := pointer22 u _ k p W hu
      have e2 : ptrF (mkL ws k (1 + p + r) (Hd.packV p r)) k p = (0, 10) := by
        unfold ptrF
        rw [ho.is, if_pos rfl]
        simp only [Int.toNat_natCast]
        unfold gtF rdF
        rw [part_length (by omega), if_neg (show ¬ (0 ≤ (p : Int) ∧ (p : Int) < (p : Int)) by omega), if_neg (by decide)]
      rwa [e2] at this)
  · exact Lib.hid (fun W u hu => by
      have := raw24 u _ k r W hu
      have e2 : rawF (mkL ws k (1 + p + r) (Hd.packV p r)) k r = (0, 10) := by
        unfold rawF
        rw [ho.is, if_pos rfl]
        simp only [Int.toNat_natCast]
        unfold rdF
        rw [part_length (by omega), if_neg (by omega)]
      rwa [e2] at this)
  · exact Lib.hid (fun W u hu => by
      have := raw24 u _ k (-1) W hu
      have e2 : rawF (mkL ws k (1 + p + r) (Hd.packV p r)) k (-1) = (0, 10) := by
        unfold rawF
        rw [ho.is, if_pos rfl]
        simp only [Int.toNat_natCast]
        unfold rdF
        rw [if_neg (by omega)]
      rwa [e2] at this)
end Ytmgoonahpndfoaa
end Go.Proofs
