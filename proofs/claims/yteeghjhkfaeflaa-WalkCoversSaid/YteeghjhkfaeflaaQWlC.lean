/- The law WalkCovers answers true. -/
import Derived.Test.YteeghjhkfaeflaaQWlC0
import Derived.Test.YteeghjhkfaeflaaQWkT
namespace Go.Proofs
namespace Yteeghjhkfaeflaa
open Go.RowKit

set_option maxRecDepth 100000 in
set_option maxHeartbeats 2000000 in
theorem covers6_far (A : Option Addr) (n cap : Nat) (x0 x1 : Int) (w : World) (hf : 200 < n) :
    Calls Try.prog 6 #[.slice A n cap, .agg #[.int .i64 x0, .int .i64 x1]] w fun e w' => e = .returned (.bool true) ∧ Below w.heap.size w w' := by
  have q : decide ((200 : Int) < (n : Int)) = true := decide_eq_true (by omega)
  clear hf
  go_enter Try.func6, Try.ntmps6
  go_wp2_with (go_at_call 12; refine (awake12 _).mono ?_; rintro e w1 ⟨rfl, hb1⟩)
  exact bodyPost_ret (v := .bool true) (by simp [results, Try.f6, go_sem]) rfl ⟨rfl, below_end (alloc_below w _) hb1⟩
set_option maxRecDepth 100000 in
set_option maxHeartbeats 2000000 in
theorem covers6_bad (v : Value) (ws : List Int) (x0 x1 : Int) (w : World) (h : Ar w v ws) (hf : ¬ 200 < ws.length) (hs : (wcF ws x0 x1).2 ≠ 0) :
    Calls Try.prog 6 #[v, .agg #[.int .i64 x0, .int .i64 x1]] w fun e w' => e = .returned (.bool true) ∧ Below w.heap.size w w' := by
  have E := Lib.hid (fun W (hb : Below w.heap.size w W) => objects15 v ws x0 x1 W (h.below hb))
  rw [wc_bad hs] at E
  unfold IAns at E
  obtain ⟨Av, cv, rfl, -, -⟩ := h.open
  have q : decide ((200 : Int) < (ws.length : Int)) = false := decide_eq_false (by omega)
  have q2 : ((wcF ws x0 x1).2 != 0) = true := by simpa using hs
  generalize (wcF ws x0 x1).2 = c at *
  have B0 := Lib.hid (alloc_below w (.cells #[.int .i64 x0, .int .i64 x1] 23))
  clear h hf hs
  go_enter Try.func6, Try.ntmps6
  go_wp2_with (first
    | (go_at_call 15; refine (E.out _ B0.out).mono ?_; rintro e w1 ⟨u, rfl, ho, hb⟩; have HB := Lib.hid (below_end B0.out hb); obtain ⟨Au, cu, rfl⟩ := own_form ho; clear ho hb)
    | (go_at_call 12; refine (awake12 _).mono ?_; rintro e w1 ⟨rfl, hb1⟩))
  exact bodyPost_ret (v := .bool true) (by simp [results, Try.f6, go_sem]) rfl ⟨rfl, below_end HB.out hb1⟩
set_option maxRecDepth 100000 in
set_option maxHeartbeats 4000000 in
theorem covers6_in (v : Value) (ws : List Int) (x0 x1 : Int) (w : World) (h : Ar w v ws) (hf : ¬ 200 < ws.length) (hs : (wcF ws x0 x1).2 = 0) :
    Calls Try.prog 6 #[v, .agg #[.int .i64 x0, .int .i64 x1]] w fun e w' => e = .returned (.bool true) ∧ Below w.heap.size w w' := by
  have E15 := Lib.hid (fun W (hb : Below w.heap.size w W) => (objects15 v ws x0 x1 W (h.below hb)).mono fun e w' h => h.own2)
  have E22 := Lib.hid (fun W (hb : Below w.heap.size w W) => (slots22 v ws x0 x1 W (h.below hb)).mono fun e w' h => h.own2)
  have E20 := Lib.hid (fun W (hb : Below w.heap.size w W) => count20 v ws x0 x1 W (h.below hb))
  have E32 := Lib.hid (fun (a : Int) W (hb : Below w.heap.size w W) => rshape16 v ws a W (h.below hb))
  have E18 := Lib.hid (fun (a : Int) W (hb : Below w.heap.size w W) => find18 v ws x0 x1 a W (h.below hb))
  rw [objs_eq, if_pos hs] at E15
  rw [slots_ok hs] at E22
  rw [cnt_ok hs] at E20
  obtain ⟨vl1, vl2⟩ := vis_list hs
  have hvo := fun x hx => vis_obj (ws := ws) (f := x0) (t := x1) x hx
  have hfo := Lib.hid (fun a x hx h1 h2 => find_own (a := a) (x := x) hs hx h1 h2)
  have hfu := Lib.hid (fun a ha => find_out (a := a) hs ha)
  have hto := total_sum (ws := ws) (visL ws x0 x1) (fun x hx => (hvo x hx).1)
  have hso := slots_sum (ws := ws) (visL ws x0 x1) (fun x hx => (hvo x hx).1)
  have hsa := Lib.hid (fun (j : Nat) (hj : j < (visL ws x0 x1).length) (d : Nat) hd => slots_at (ws := ws) (l := visL ws x0 x1) (fun x hx => (hvo x hx).1) (j := j) hj (d := d) hd)
  have hlen := visL_len1 ws x0 x1
  have hbd := Lib.hid (flat_bound (fun x => (sltF ws x).1) (fun x => Nat.le_trans (slt_len ws x) (by decide)) (visL ws x0 x1) hlen)
  have hsb := sum_map ws (visL ws x0 x1) (visL ws x0 x1).length (Nat.le_refl _)
  obtain ⟨-, s1, s2, s3, s4⟩ := str_ok (wc_zero hs).1
  obtain ⟨Av, cv, rfl, -, -⟩ := h.open
  have q : decide ((200 : Int) < (ws.length : Int)) = false := decide_eq_false (by omega)
  clear h hs
  dsimp only at E15 E22 E20
  unfold cntV at E20
  dsimp only at E20
  generalize visL ws x0 x1 = l at *
  rw [List.take_of_length_le (by rw [List.length_map]; exact Nat.le_refl _)] at hsb
  obtain ⟨m, hm⟩ : ∃ m, l.length = m := ⟨_, rfl⟩
  have HM := Lib.hid hm
  obtain ⟨sl, hsl⟩ : ∃ sl, l.flatMap (fun x => (sltF ws x).1) = sl := ⟨_, rfl⟩
  have HSL := Lib.hid hsl
  rw [hsl] at E22 hso
  obtain ⟨ls, hls⟩ : ∃ ls, sl.length = ls := ⟨_, rfl⟩
  have HLS := Lib.hid hls
  rw [hls] at hso
  rw [hm] at hlen E20 hto hsb
  generalize sumP (l.map (pairO ws)) = sp at *
  generalize sumR (l.map (pairO ws)) = sr at *
  have w1 : IntKind.i64.wrap ((m : Int) + sp) = (m : Int) + sp := IntWalk.i64_in _ (by omega)
  have w2 : IntKind.i64.wrap ((m : Int) + sp + sr) = (m : Int) + sp + sr := IntWalk.i64_in _ (by omega)
  have w3 : IntKind.i64.wrap (x1 - x0) = x1 - x0 := IntWalk.i64_in _ (by omega)
  have n1 : (((m : Int) + sp + sr) != (x1 - x0)) = false := by simp; omega
  have n2 : ((ls : Int) != sp) = false := by simp; omega
  have n3 : ((m : Int) != (m : Int)) = false := by simp
  have N0 := Lib.hid (heap_alloc_new w (.cells #[.int .i64 x0, .int .i64 x1] 23))
  have B0 := Lib.hid (alloc_below w (.cells #[.int .i64 x0, .int .i64 x1] 23))
  have VL1 := Lib.hid vl1
  have VL2 := Lib.hid vl2
  have HVO := Lib.hid hvo
  clear hm hsl hls vl1 vl2 hvo hto hso hsb
  go_enter Try.func6, Try.ntmps6
  go_upto_region 3 with (fail)
  generalize w.alloc (.cells #[.int .i64 x0, .int .i64 x1] 23) = W0 at *
  obtain ⟨t0, t1, -, -⟩ := two_free N0.out
  go_upto_region 6 with (go_at_call 15; refine (E15.out _ B0.out).mono ?_; rintro e w1 ⟨v1, rfl, X1, hb1⟩)
  have B1 := Lib.hid (below_end B0.out hb1)
  have N1 := Lib.hid (keep_heap hb1 N0.out)
  clear t0 t1 hb1 N0 B0
  obtain ⟨t0, t1, -, -⟩ := two_free N1.out
  go_upto_region 7 with (go_at_call 22; refine (E22.out _ B1.out).mono ?_; rintro e w2 ⟨v2, rfl, X2, hb2⟩)
  have B2 := Lib.hid (below_end B1.out hb2)
  have N2 := Lib.hid (keep_heap hb2 N1.out)
  have Y1 := Lib.hid (X1.out.below hb2)
  clear t0 t1 hb2 N1 B1 X1
  obtain ⟨t0, t1, -, -⟩ := two_free N2.out
  go_upto_region 8 with (go_at_call 20; refine (E20.out _ B2.out).mono ?_; rintro e w3 ⟨rfl, hb3⟩)
  have M3 := Lib.hid (heap_alloc_new w3 (.cells #[.int .i64 (m : Int), .int .i64 sp, .int .i64 sr] 35))
  have hb4 := hb3.trans ((alloc_below w3 (.cells #[.int .i64 (m : Int), .int .i64 sp, .int .i64 sr] 35)).mono hb3.size)
  have B3 := Lib.hid (below_end B2.out hb4)
  have N3 := Lib.hid (keep_heap hb4 N2.out)
  have Z1 := Lib.hid (Y1.out.below hb4)
  have Z2 := Lib.hid (X2.out.below hb4)
  generalize w3.heap.size = g3 at *
  generalize w3.alloc (.cells #[.int .i64 (m : Int), .int .i64 sp, .int .i64 sr] 35) = W3 at *
  clear t0 t1 hb3 hb4 N2 B2 Y1 X2
  obtain ⟨t0, t1, -, -⟩ := two_free N3.out
  obtain ⟨m0, m1, m2⟩ := three_cells M3.out
  obtain ⟨A1, c1, rfl, ha1⟩ := Z1.out
  obtain ⟨A2, c2, rfl, ha2⟩ := Z2.out
  have HA1 := Lib.hid ha1
  have HA2 := Lib.hid ha2
  rw [HM.out] at HA1 ⊢
  rw [HLS.out] at HA2 ⊢
  clear ha1 ha2 Z1 Z2
  go_upto_region 12 with (fail)
  have MO := Lib.hid (fun (W : World) (hb : Below W3.heap.size W3 W) => three_cells (keep_heap hb M3.out))
  clear t0 t1 m0 m1 m2 w1 w2 w3 n1 n2 n3
  go_loopw [10, 11, 12] (fun nx k i wr => ∃ j : Nat, j ≤ m ∧ i = .int .i64 j ∧ nx = .int .i64 (x0 + szs ws (l.take j)) ∧ k = .int .i64 (((l.take j).flatMap (fun x => (sltF ws x).1)).length : Nat) ∧ Hid (Below W3.heap.size W3 wr)) (fun _ _ i _ => m - (intOf i).toNat)
  case atStart => exact ⟨0, by omega, rfl, by simp [szs], rfl, Lib.hid (Below.refl _ _)⟩
  case round =>
    obtain ⟨j, hj, rfl, rfl, rfl, hB⟩ := hrel
    obtain ⟨t0, t1, -, -⟩ := two_free (keep_heap hB.out N3.out)
    by_cases hlt : j < m
    rotate_left
    · have ek : j = m := by omega
      have hlt' : ¬ (j : Int) < (m : Int) := by omega
      have ht : l.take j = l := List.take_of_length_le (by rw [HM.out]; omega)
      rw [ht, VL2.out, HSL.out, HLS.out]
      have G1 := Lib.hid (E18.out (x0 - 1) wr (B3.out.trans (hB.out.mono B3.out.size)))
      rw [hfu.out (x0 - 1) (.inl (by omega))] at G1
      have G2 := Lib.hid (fun W hb => E18.out x1 W hb)
      rw [hfu.out x1 (.inr (by omega))] at G2
      have e1 : IntKind.i64.wrap (x0 - 1) = x0 - 1 := IntWalk.i64_in _ (by omega)
      have n4 : ((4 : Int) == 4) = true := rfl
      have n5 : (x1 == x1) = true := by simp
      have n6 : ((ls : Int) == (ls : Int)) = true := by simp
      clear ek ht
      dsimp only at G1 G2
      go_upto_region 29 with (go_at_call 18; refine G1.out.mono ?_; rintro e w4 ⟨rfl, hb4⟩)
      have B4 := Lib.hid (below_end (B3.out.trans (hB.out.mono B3.out.size)) hb4)
      have N4 := Lib.hid (keep_heap hb4 (keep_heap hB.out N3.out))
      clear t0 t1 hb4
      obtain ⟨t0, t1, -, -⟩ := two_free N4.out
      go_upto_region 30 with (go_at_call 18; refine (G2.out _ B4.out).mono ?_; rintro e w5 ⟨rfl, hb5⟩)
      have B5 := Lib.hid (below_end B4.out hb5)
      have N5 := Lib.hid (keep_heap hb5 N4.out)
      clear t0 t1 hb5
      obtain ⟨t0, t1, -, -⟩ := two_free N5.out
      go_wp2_with (go_at_call 12; refine (awake12 _).mono ?_; rintro e w6 ⟨rfl, hb6⟩)
      exact bodyPost_ret (v := .bool true) (by simp [results, Try.f6, go_sem]) rfl ⟨rfl, below_end B5.out hb6⟩
    have hlt' : (j : Int) < (m : Int) := by omega
    have hjl : j < l.length := by rw [HM.out]; exact hlt
    obtain ⟨b1, o1, rfl, ca⟩ := HA1.out (by omega)
    have ca' := Lib.hid (keep_cell hB.out (ca j _ (ic_get l j hjl)))
    have ad1 : (⟨b1, o1, none⟩ : Addr).add j = ⟨b1, o1 + j, none⟩ := by unfold Addr.add; split <;> simp_all
    have hg : l.getD j 0 = l[j] := by simp [List.getD_eq_getElem?_getD, hjl]
    have hnx := (VL1.out j hjl).symm
    have hnx2 := Lib.hid (show x0 + szs ws (l.take (j + 1)) = l[j] + (sizF ws l[j]).1 by rw [szs_take hjl, ← Int.add_assoc, ← VL1.out j hjl])
    have hkx := Lib.hid (flat_take (fun x => (sltF ws x).1) hjl)
    have hsx := Lib.hid (hsa.out j hjl)
    have hbj := Lib.hid (hbd.out j)
    obtain ⟨v1, v2, v3, v4⟩ := HVO.out l[j] (List.getElem_mem hjl)
    have hmem : l[j] ∈ l := List.getElem_mem hjl
    have hsl1 := (slt_one v1).1
    have hrg := obj_rng ws l[j]
    have hsz := siz_sum v1
    have HF := Lib.hid (show ∀ a, l[j] ≤ a → a < l[j] + (sizF ws l[j]).1 → findF ws x0 x1 a = (l[j], 0) from fun a h1 h2 => hfo.out a _ hmem h1 h2)
    have ZX := Lib.hid (E32.out l[j] wr (B3.out.trans (hB.out.mono B3.out.size)))
    rw [v1] at ZX
    rw [hg] at ca'
    rw [hnx]
    (try dsimp only at hkx)
    generalize l[j] = x at *
    rw [hsz] at hnx2 v3
    have HF2 := Lib.hid (show ∀ a, x ≤ a → a < x + (1 + (objF ws x).1 + (objF ws x).2.1) → findF ws x0 x1 a = (x, 0) from fun a h1 h2 => HF.out a h1 (by rw [hsz]; exact h2))
    generalize (objF ws x).1 = P at *
    generalize (objF ws x).2.1 = R at *
    generalize hkj : ((l.take j).flatMap (fun x => (sltF ws x).1)).length = kj at *
    have HKJ := Lib.hid hkj
    have c0 := ca'.out
    have n1 : (x != x) = false := by simp
    have e1 : IntKind.i64.wrap (x + 1) = x + 1 := IntWalk.i64_in _ (by omega)
    have e2 : IntKind.i64.wrap (x + 1 + P) = x + 1 + P := IntWalk.i64_in _ (by omega)
    have e3 : IntKind.i64.wrap (x + 1 + P + R) = x + 1 + P + R := IntWalk.i64_in _ (by omega)
    clear hnx hkj hg ca HF hsz
    go_upto_region 17 with (go_at_call 32; refine ZX.out.mono ?_; rintro e w4 ⟨rfl, hb4⟩; have c1' := keep_cell hb4 c0; have gl := cell_lt c1'; have gl2 : ¬ w4.heap.size = b1 := by (have := gl; simp at this; omega))
    have hb5 := hb4.trans ((alloc_below w4 (.cells #[.int .i64 P, .int .i64 R] 51)).mono hb4.size)
    have Q5 := Lib.hid (heap_alloc_new w4 (.cells #[.int .i64 P, .int .i64 R] 51))
    have B5 := Lib.hid (hB.out.trans (hb5.mono hB.out.size))
    have C5 := Lib.hid (keep_cell hb5 c0)
    generalize w4.heap.size = g5 at *
    generalize w4.alloc (.cells #[.int .i64 P, .int .i64 R] 51) = W5 at *
    clear t0 t1 c1' gl gl2 c0 ca' hb4 hb5 hB ZX
    have c5 := C5.out
    obtain ⟨p0, p1, -, -⟩ := two_free Q5.out
    go_quiet (fail)
    have B6 := Lib.hid (show Below W3.heap.size W3 (W5.drewN nq) from below_drewN B5.out _)
    have Q6 := Lib.hid (show (W5.drewN nq).heap[g5]? = some (.cells #[.int .i64 P, .int .i64 R] 51 (0, 0)) from Q5.out)
    have C6 := Lib.hid (show (W5.drewN nq).cell? ⟨b1, o1 + j, none⟩ = some (.int .i64 x) from C5.out)
    generalize W5.drewN nq = W6 at *
    clear c5 p0 p1 B5 Q5 C5
    have c6 := C6.out
    obtain ⟨p0, p1, -, -⟩ := two_free Q6.out
    go_upto_region 19 with (fail)
    obtain ⟨p, rfl⟩ : ∃ p : Nat, P = (p : Int) := ⟨P.toNat, by omega⟩
    obtain ⟨r, rfl⟩ : ∃ r : Nat, R = (r : Int) := ⟨R.toNat, by omega⟩
    have hkj2 := HKJ.out
    have hkjb : kj ≤ 102464 := hbj.out
    have D6 := Lib.hid (fun W (hb : Below W6.heap.size W6 W) => two_free (keep_heap hb Q6.out))
    have NX6 := Lib.hid (fun W (hb : Below W6.heap.size W6 W) => keep_heap (B6.out.trans (hb.mono B6.out.size)) N3.out)
    have SL6 := Lib.hid (fun (i : Nat) W (hb : Below W6.heap.size W6 W) (hi : i < sl.length) => (show ∃ b2 o2, A2 = some ⟨b2, o2, none⟩ ∧ W.cell? ⟨b2, o2 + i, none⟩ = some (.int .i64 (sl.getD i 0)) from by
      obtain ⟨b2, o2, rfl, cb⟩ := HA2.out (by rw [← HLS.out]; omega)
      exact ⟨b2, o2, rfl, keep_cell (B6.out.trans (hb.mono B6.out.size)) (cb i _ (ic_get sl i hi))⟩))
    clear p0 p1 c6 hkj2 e1 e2 e3 n1
    go_loopw [11, 15] (fun k a wr2 => ∃ d kk : Nat, d ≤ 1 + p + r ∧ a = .int .i64 (x + (d : Int)) ∧ k = .int .i64 (kk : Int) ∧ Hid (kk = kj + min (d - 1) p) ∧ Hid (Below W6.heap.size W6 wr2)) (fun _ a _ => (x + 1 + p + r - intOf a).toNat)
    case atStart => exact ⟨0, kj, by omega, by simp, rfl, Lib.hid (by simp), Lib.hid (Below.refl _ _)⟩
    case round =>
      obtain ⟨d, kk, hd, rfl, rfl, HKK, hC⟩ := hrel
      by_cases hdn : d < 1 + p + r
      rotate_left
      · have ed : d = 1 + p + r := by omega
        have q1 : decide (x + (d : Int) < x + 1 + (p : Int) + (r : Int)) = false := decide_eq_false (by omega)
        have ek : kk = kj + p := by have := HKK.out; omega
        have hkn : ((l.take (j + 1)).flatMap (fun x => (sltF ws x).1)).length = kk := by
          rw [hkx.out, List.length_append, HKJ.out, ek]; omega
        have HKN := Lib.hid hkn
        have BN := Lib.hid (B6.out.trans (hC.out.mono B6.out.size))
        clear ed ek hkn
        go_wp2
        refine ⟨⟨j + 1, by omega, by simp, ?_, ?_, BN⟩, ?_⟩
        · rw [hnx2.out]; congr 1; omega
        · rw [HKN.out]
        · show m - ((j : Int) + 1).toNat < m - ((j : Int)).toNat
          omega
      have q1 : decide (x + (d : Int) < x + 1 + (p : Int) + (r : Int)) = true := decide_eq_true (by omega)
      obtain ⟨t0, t1, -, -⟩ := two_free (NX6.out _ hC.out)
      have G := Lib.hid (E18.out (x + (d : Int)) wr (B3.out.trans ((B6.out.trans (hC.out.mono B6.out.size)).mono B3.out.size)))
      rw [HF2.out (x + (d : Int)) (by omega) (by omega)] at G
      have c6 := keep_cell hC.out C6.out
      have n1 : (x != x) = false := by simp
      have e5 : IntKind.i64.wrap (x + (d : Int) + 1) = x + (d : Int) + 1 := IntWalk.i64_in _ (by omega)
      have e6 : IntKind.i64.wrap (x + (p : Int)) = x + (p : Int) := IntWalk.i64_in _ (by omega)
      have hmeas : ∀ W, Hid (Below W6.heap.size W6 W) → ∀ k2 : Nat, k2 = kj + min (d + 1 - 1) p → (∃ d' kk' : Nat, d' ≤ 1 + p + r ∧ Value.int .i64 (x + (d : Int) + 1) = .int .i64 (x + (d' : Int)) ∧ Value.int .i64 ((k2 : Nat) : Int) = .int .i64 (kk' : Int) ∧ Hid (kk' = kj + min (d' - 1) p) ∧ Hid (Below W6.heap.size W6 W)) ∧ (x + 1 + p + r - intOf (.int .i64 (x + (d : Int) + 1))).toNat < (x + 1 + p + r - intOf (.int .i64 (x + (d : Int)))).toNat := by
        intro W hb k2 hkk
        refine ⟨⟨d + 1, k2, by omega, ?_, rfl, Lib.hid hkk, hb⟩, ?_⟩
        · congr 1; push_cast; omega
        · simp only [intOf]; omega
      have MEAS := Lib.hid hmeas
      clear hmeas
      dsimp only at G
      go_upto_region 24 with (go_at_call 18; refine G.out.mono ?_; rintro e w7 ⟨rfl, hb7⟩; have c7 := keep_cell hb7 c6)
      have B7 := Lib.hid (below_end hC.out hb7)
      obtain ⟨p0, p1, -, -⟩ := D6.out _ B7.out
      clear t0 t1 c6 hb7 G hC n1
      by_cases hd0 : d = 0
      · have q2 : decide (x < x + (d : Int)) = false := decide_eq_false (by omega)
        have K0 := Lib.hid (show kk = kj + min (d + 1 - 1) p by have := HKK.out; omega)
        clear hd0
        go_quiet (fail)
        go_wp2
        exact MEAS.out _ (Lib.hid (below_drewN B7.out _)) kk K0.out
      have q2 : decide (x < x + (d : Int)) = true := decide_eq_true (by omega)
      by_cases hdp : d ≤ p
      rotate_left
      · have q3 : decide (x + (d : Int) ≤ x + (p : Int)) = false := decide_eq_false (by omega)
        have q5 : decide ((d : Int) ≤ (p : Int)) = false := decide_eq_false (by omega)
        have q6 : decide (d ≤ p) = false := decide_eq_false hdp
        have K0 := Lib.hid (show kk = kj + min (d + 1 - 1) p by have := HKK.out; omega)
        clear hd0
        go_quiet (fail)
        go_wp2
        exact MEAS.out _ (Lib.hid (below_drewN B7.out _)) kk K0.out
      have q3 : decide (x + (d : Int) ≤ x + (p : Int)) = true := decide_eq_true (by omega)
      have q5 : decide ((d : Int) ≤ (p : Int)) = true := decide_eq_true (by omega)
      have q6 : decide (d ≤ p) = true := decide_eq_true hdp
      have hs2 := hsx.out (d - 1) (by omega)
      rw [HSL.out] at hs2
      have K0 := Lib.hid (show kk + 1 = kj + min (d + 1 - 1) p by have := HKK.out; omega)
      have ek : kj + (d - 1) = kk := by have := HKK.out; omega
      rw [ek] at hs2
      obtain ⟨hs3, hs4⟩ := hs2
      obtain ⟨b2, o2, rfl, cb⟩ := SL6.out kk _ B7.out hs3
      have ecell : sl.getD kk 0 = x + (d : Int) := by rw [hs4]; omega
      rw [ecell] at cb
      have hkl : kk < ls := by rw [← HLS.out]; exact hs3
      have ad2 : (⟨b2, o2, none⟩ : Addr).add kk = ⟨b2, o2 + kk, none⟩ := by unfold Addr.add; split <;> simp_all
      have q4 : decide ((ls : Int) ≤ (kk : Int)) = false := decide_eq_false (by omega)
      have hlt3 : (kk : Int) < (ls : Int) := by omega
      have n7 : ((x + (d : Int)) != (x + (d : Int))) = false := by simp
      have e7 : IntKind.i64.wrap ((kk : Int) + 1) = (kk : Int) + 1 := IntWalk.i64_in _ (by omega)
      have K1 := Lib.hid (show ((kk : Int) + 1) = ((kk + 1 : Nat) : Int) by omega)
      clear hd0 hs3 hs4 ecell ek
      go_quiet (fail)
      go_wp2
      rw [K1.out]
      exact MEAS.out _ (Lib.hid (below_drewN B7.out _)) (kk + 1) K0.out
theorem covers6 (v : Value) (ws : List Int) (x0 x1 : Int) (w : World) (h : Ar w v ws) :
    Calls Try.prog 6 #[v, .agg #[.int .i64 x0, .int .i64 x1]] w fun e w' => e = .returned (.bool true) ∧ Below w.heap.size w w' := by
  by_cases hf : 200 < ws.length
  · obtain ⟨A, cap, rfl, -, -⟩ := h.open
    exact covers6_far A ws.length cap x0 x1 w hf
  · by_cases hs : (wcF ws x0 x1).2 = 0
    · exact covers6_in v ws x0 x1 w h hf hs
    · exact covers6_bad v ws x0 x1 w h hf hs
end Yteeghjhkfaeflaa
end Go.Proofs
