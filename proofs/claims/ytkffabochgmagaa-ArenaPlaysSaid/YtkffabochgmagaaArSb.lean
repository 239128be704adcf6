/- The reference's Play: the walk. -/
import Derived.Test.YtkffabochgmagaaArSa
import Derived.Test.YtkffabochgmagaaArD
namespace Go.Proofs
namespace Ytkffabochgmagaa
open Go.RowKit

theorem getF_ok {ws : List Int} {a : Int} (hc : chkF ws = 0) (hp : partB ws.length a 1 = true) : getF ws a = (ws.getD a.toNat 0, 0) := by unfold getF; rw [if_neg (by simp [hc]), if_pos hp]
theorem getF_no {ws : List Int} {a : Int} (hc : chkF ws = 0) (hp : ¬ partB ws.length a 1 = true) : getF ws a = (0, 7) := by unfold getF; rw [if_neg (by simp [hc]), if_neg hp]
theorem setF_ok {ws : List Int} {a z : Int} (hc : chkF ws = 0) (hp : partB ws.length a 1 = true) : setF ws a z = (ws.set a.toNat z, 0) := by unfold setF; rw [if_neg (by simp [hc]), if_pos hp]
theorem setF_no {ws : List Int} {a z : Int} (hc : chkF ws = 0) (hp : ¬ partB ws.length a 1 = true) : setF ws a z = ([], 7) := by unfold setF; rw [if_neg (by simp [hc]), if_neg hp]
theorem cpyF_ok {ws : List Int} {a b n : Int} (hc : chkF ws = 0) (hp : partB ws.length a n = true ∧ partB ws.length b n = true) : cpyF ws a b n = (copyL ws a.toNat b.toNat n.toNat, 0) := by unfold cpyF; rw [if_neg (by simp [hc]), if_pos hp]
theorem cpyF_no {ws : List Int} {a b n : Int} (hc : chkF ws = 0) (hp : ¬ (partB ws.length a n = true ∧ partB ws.length b n = true)) : cpyF ws a b n = ([], 7) := by unfold cpyF; rw [if_neg (by simp [hc]), if_neg hp]
theorem clrF_ok {ws : List Int} {a n : Int} (hc : chkF ws = 0) (hp : partB ws.length a n = true) : clrF ws a n = (zeroL ws a.toNat n.toNat, 0) := by unfold clrF; rw [if_neg (by simp [hc]), if_pos hp]
theorem clrF_no {ws : List Int} {a n : Int} (hc : chkF ws = 0) (hp : ¬ partB ws.length a n = true) : clrF ws a n = ([], 7) := by unfold clrF; rw [if_neg (by simp [hc]), if_neg hp]
theorem chk_kept {s : ASt} {o : AOp} (h : chkF s.ws = 0) : chkF (stepF s o).2.ws = 0 := (chk_same (step_length s o) (step_head s o)).trans h
theorem CAns.ok {W : World} {zs : List Int} {e : Ending} {w' : World} (h : CAns W (zs, 0) e w') : ∃ v, e = .returned (.tuple #[v, .int .i64 0]) ∧ w'.ownsRow W.heap.size 25 1 v zs.length (wc zs) ∧ Below W.heap.size W w' := h
theorem CAns.no {W : World} {e : Ending} {w' : World} (h : CAns W ([], 7) e w') : ∃ v, e = .returned (.tuple #[v, .int .i64 7]) ∧ Below W.heap.size W w' := ⟨h.choose, h.choose_spec.1, h.choose_spec.2.2⟩
set_option maxRecDepth 100000 in
set_option maxHeartbeats 4000000 in
theorem rplay30_go (v lv : Value) (ws : List Int) (ops : List AOp) (w : World) (hv : WAt w v ws) (hl : OAt w lv ops) (hc : chkF ws = 0) (h500 : ops.length ≤ 500) :
    Calls Try.prog 30 #[v, lv] w fun e w' => PAns w (playF ws ops) e w' := by
  have hlen : 1 ≤ ws.length ∧ ws.length ≤ 1601 := by
    apply Classical.byContradiction
    intro hn
    rw [chk_long (by omega)] at hc
    cases hc
  have C15 := rcheck15 v ws (w.alloc (.cells #[.int .i64 0, .int .i64 0] 50)) (hv.below (alloc_below w _)) (by omega)
  rw [hc] at C15
  have CK := Lib.hid C15
  have HC := Lib.hid hc
  have HV := Lib.hid (hv.below (alloc_below w (.cells #[.int .i64 0, .int .i64 0] 50)))
  have HL := Lib.hid hl
  have RS := Lib.hid (heap_alloc_new w (.cells #[.int .i64 0, .int .i64 0] 50))
  have AB := Lib.hid (alloc_below w (.cells #[.int .i64 0, .int .i64 0] 50))
  have ER := Lib.hid (show ((w.alloc (.cells #[.int .i64 0, .int .i64 0] 50)).alloc (.cells #[] 25)).ownsRow (w.alloc (.cells #[.int .i64 0, .int .i64 0] 50)).heap.size 25 1 (.slice (some ⟨w.heap.size + 1, 0, none⟩) 0 0) ([] : List Int).length (wc []) by
    have h := empty_words (Below.refl (w.alloc (.cells #[.int .i64 0, .int .i64 0] 50)).heap.size (w.alloc (.cells #[.int .i64 0, .int .i64 0] 50)))
    rw [World.size_alloc] at h ⊢
    exact h)
  have EB := Lib.hid (alloc_below (w.alloc (.cells #[.int .i64 0, .int .i64 0] 50)) (.cells #[] 25))
  have SZ := Lib.hid (World.size_alloc w (.cells #[.int .i64 0, .int .i64 0] 50))
  obtain ⟨A, cap, rfl, -⟩ := hv
  obtain ⟨A2, cap2, rfl, -⟩ := hl
  have q5 : decide ((500 : Int) < (ops.length : Int)) = false := decide_eq_false (by omega)
  have hl1 := hlen.1
  have hl2 := hlen.2
  clear C15 hc
  go_enter Try.func30, Try.ntmps30
  go_upto_region 9 with (first
    | (go_at_call 15; refine CK.out.mono ?_; rintro e w' ⟨rfl, rfl⟩)
    | (at_builtin; refine push_words ER.out EB.out HV.out (by omega) rfl _ _ rfl rfl rfl (by simp; omega) ?_; intro g cap3 W1 ho1 hb1; have HO1 := Lib.hid ho1; have HB1 := Lib.hid hb1; clear ho1 hb1))
  have HR : Hid (RPl w.heap.size W1.heap.size w (W1.alloc (.cells #[.int .i64 0, .int .i64 0] 50)) (.slice (some ⟨g, 0, none⟩) ws.length cap3) (.slice none 0 0) ⟨ws, [], 0, 0⟩) := Lib.hid (by
    have b2 := alloc_below W1 (.cells #[.int .i64 0, .int .i64 0] 50)
    have h1 := HB1.out
    have z := SZ.out
    have hz := h1.size
    have ho := own_below HO1.out b2
    have hg := HO1.out.lt g rfl
    refine ⟨by omega, ?_, World.ownsRow_nil _ _ _ _, heap_alloc_new W1 _, keep_heap b2 (keep_heap h1 RS.out), ?_, fun g' hg' => by simp [Value.ownBlock] at hg', ?_⟩
    · rw [z] at ho
      simpa using ho
    · simp only [Value.ownBlock, ne_eq, Option.some.injEq]; omega
    · exact below_end (below_end AB.out h1) b2)
  have HO : Hid (0 < ops.length → ∃ b off, A2 = some ⟨b, off, none⟩ ∧ ∀ j u, (oc ops)[j]? = some u → w.cell? ⟨b, off + j, none⟩ = some u) := Lib.hid (by
    obtain ⟨A', cap', e, hA⟩ := HL.out
    simp only [Value.slice.injEq] at e
    obtain ⟨rfl, _, _⟩ := e
    exact hA)
  have ST := Lib.hid (show playF ws ops = goF 0 ⟨ws, [], 0, 0⟩ (ops.drop 0) by unfold playF; rw [HC.out, if_neg (by simp), if_neg (by omega), List.drop_zero])
  have hCH : W1.heap.size ≠ w.heap.size := by have := HR.out.hc; omega
  have hHC : w.heap.size < W1.heap.size := HR.out.hc
  clear CK HV RS AB ER EB SZ HO1 HB1 HL
  generalize W1.alloc (.cells #[.int .i64 0, .int .i64 0] 50) = W2 at *
  generalize W1.heap.size = C at *
  go_wp2
  go_loopw [10, 11, 13] (fun ov gv i wr => ∃ (k : Nat) (s : ASt), k ≤ ops.length ∧ i = .int .i64 k ∧ Hid (RPl w.heap.size C w wr ov gv s) ∧ Hid (playF ws ops = goF k s (ops.drop k)) ∧ Hid (chkF s.ws = 0) ∧
      Hid (s.ws.length = ws.length) ∧ s.ws.length ≤ 1601 ∧ 0 ≤ s.r ∧ s.r ≤ 1601 * k ∧ 0 ≤ s.w ∧ s.w ≤ 1601 * k ∧ s.got.length ≤ k) (fun _ _ i _ => ops.length - (intOf i).toNat)
  case atStart => exact ⟨0, ⟨ws, [], 0, 0⟩, by omega, rfl, HR, ST, HC, Lib.hid rfl, hl2, by simp⟩
  case round =>
    clear HR ST
    obtain ⟨k, s, hk, rfl, hR, hpl, hck, hbl, hb16, hr0, hr1, hw0, hw1, hgl⟩ := hrel
    by_cases hlt : k < ops.length
    · obtain ⟨b, off, rfl, hoc⟩ := HO.out (by omega)
      have hlt' : (k : Int) < (ops.length : Int) := by omega
      have dr := Lib.hid (List.drop_eq_getElem_cons hlt)
      have hcl : ∀ j u, j < 5 → (opC ops[k])[j]? = some u → wr.cell? ⟨b, off + k * 5 + j, none⟩ = some u := fun j u hj hu => by
        have h1 := hoc (k * 5 + j) u (by rw [oc_get ops k j hlt hj]; exact hu)
        rw [← Nat.add_assoc] at h1
        exact (hR.out.low.cell (p := ⟨b, _, none⟩) (cell_lt h1)).trans h1
      obtain ⟨o, ho⟩ : ∃ o, ops[k] = o := ⟨_, rfl⟩
      rw [ho] at hcl dr
      have HOK := Lib.hid ho
      clear ho hoc
      obtain ⟨kd, a, bb, n, val⟩ := o
      have d0 := hcl 0 (.int .i64 kd) (by omega) rfl
      have d1 := hcl 1 (.int .i64 a) (by omega) rfl
      have d2 := hcl 2 (.int .i64 bb) (by omega) rfl
      have d3 := hcl 3 (.int .i64 n) (by omega) rfl
      have d4 := hcl 4 (.int .u64 val) (by omega) rfl
      rw [Nat.add_zero] at d0
      clear hcl
      go_upto_region 13 with (fail)
      have NB := Lib.hid (heap_alloc_new wr (.cells #[.int .i64 kd, .int .i64 a, .int .i64 bb, .int .i64 n, .int .u64 val] 56))
      have hV := Lib.hid (hR.out.below (alloc_below wr (.cells #[.int .i64 kd, .int .i64 a, .int .i64 bb, .int .i64 n, .int .u64 val] 56)))
      clear d0 d1 d2 d3 d4
      generalize wr.alloc (.cells #[.int .i64 kd, .int .i64 a, .int .i64 bb, .int .i64 n, .int .u64 val] 56) = V at *
      generalize wr.heap.size = X at *
      have d0 := cell_of_row _ _ 0 _ _ _ NB.out
      have d1 := cell_of_row _ _ 1 _ _ _ NB.out
      have d2 := cell_of_row _ _ 2 _ _ _ NB.out
      have d3 := cell_of_row _ _ 3 _ _ _ NB.out
      have d4 := cell_of_row _ _ 4 _ _ _ NB.out
      simp only [List.getElem?_toArray, List.getElem?_cons_zero, List.getElem?_cons_succ] at d0 d1 d2 d3 d4
      clear hR
      obtain ⟨OA, oc2, rfl⟩ := own_form hV.out.out
      by_cases hkd : kd = 1 ∨ kd = 2 ∨ kd = 3 ∨ kd = 4
      rotate_left
      · have k1 : (kd == 1) = false := by simp only [beq_eq_false_iff_ne]; omega
        have k2 : (kd == 2) = false := by simp only [beq_eq_false_iff_ne]; omega
        have k3 : (kd == 3) = false := by simp only [beq_eq_false_iff_ne]; omega
        have k4 : (kd == 4) = false := by simp only [beq_eq_false_iff_ne]; omega
        have hst : stepF s ⟨kd, a, bb, n, val⟩ = (2, s) := by unfold stepF; rw [if_neg (by dsimp only; omega), if_neg (by dsimp only; omega), if_neg (by dsimp only; omega), if_neg (by dsimp only; omega)]
        have R := Lib.hid (show playF ws ops = AAns.err k 2 by rw [hpl.out, dr.out, goF_err (by rw [hst]; exact (by decide : (2 : Int) ≠ 0)), hst])
        have z0 := cell_of_row _ _ 0 _ _ _ hV.out.res
        have z1 := cell_of_row _ _ 1 _ _ _ hV.out.res
        have y0 := frozen_of_row _ _ 0 _ _ hV.out.res
        have y1 := frozen_of_row _ _ 1 _ _ hV.out.res
        simp only [List.getElem?_toArray, List.getElem?_cons_zero, List.getElem?_cons_succ] at z0 z1
        clear hkd hst
        go_wp2
        refine bodyPost_ret (v := .tuple #[.slice none 0 0, .slice none 0 0, .agg #[.int .i64 0, .int .i64 0], .int .i64 k, .int .i64 2]) (by simp [results, Try.f30, go_sem, z0, z1]) rfl ?_
        rw [R.out]
        exact err_ans (Below.setCell (p := ⟨w.heap.size, 1, none⟩) (Below.setCell (p := ⟨w.heap.size, 0, none⟩) hV.out.low (Nat.le_refl _) _) (Nat.le_refl _) _)
      have hcnt := step_counts s ⟨kd, a, bb, n, val⟩ (by omega)
      have hsl := step_length s ⟨kd, a, bb, n, val⟩
      have HGS := Lib.hid (fun (h : (stepF s ⟨kd, a, bb, n, val⟩).1 = 0) => (show playF ws ops = goF (k + 1) (stepF s ⟨kd, a, bb, n, val⟩).2 (ops.drop (k + 1)) by rw [hpl.out, dr.out, goF_step h]))
      have HGE := Lib.hid (fun (h : (stepF s ⟨kd, a, bb, n, val⟩).1 = 7) => (show playF ws ops = AAns.err k 7 by rw [hpl.out, dr.out, goF_err (by rw [h]; decide), h]))
      have HCK := Lib.hid (chk_kept (o := ⟨kd, a, bb, n, val⟩) hck.out)
      have HCN := Lib.hid (And.intro hcnt hsl)
      clear hcnt hsl
      rcases hkd with rfl | rfl | rfl | rfl
      · by_cases hp : partB s.ws.length a 1 = true
        · have G := Lib.hid (rget17 _ s.ws a V hV.out.at (by omega))
          rw [getF_ok hck.out hp] at G
          have hst : stepF s ⟨1, a, bb, n, val⟩ = (0, { s with got := s.got ++ [s.ws.getD a.toNat 0], r := s.r + 1 }) := by simp [stepF, hp]
          rw [hst] at HGS HCK HCN
          have HR := Lib.hid (HGS.out rfl)
          clear HGS HGE hst hp
          generalize s.ws.getD a.toNat 0 = z at *
          go_wp2_with (first
            | (go_at_call 17; refine G.out.mono ?_; rintro e w' ⟨rfl, rfl⟩)
            | (at_builtin; refine push_got hV.out z rfl _ _ rfl rfl _ rfl rfl rfl (by omega) ?_; intro g2 cap4 W5 hR5 _; have HR5 := Lib.hid hR5; have z0 := cell_of_row _ _ 0 _ _ _ hR5.cnt; have y0 := frozen_of_row _ _ 0 _ _ hR5.cnt; simp only [List.getElem?_toArray, List.getElem?_cons_zero] at z0; clear hR5))
          have hN := HCN.out
          go_roundw
          case rel => exact ⟨k + 1, _, by omega, by go_num, Lib.hid (HR5.out.count (s.r + 1)), HR, HCK, Lib.hid (by have := hbl.out; dsimp only at *; omega), by dsimp only at *; omega, by dsimp only at *; omega⟩
          case measure => simp [intOf]; omega
        · have G := Lib.hid (rget17 _ s.ws a V hV.out.at (by omega))
          rw [getF_no hck.out hp] at G
          have R := Lib.hid (HGE.out (by simp [stepF, hp]))
          have z0 := cell_of_row _ _ 0 _ _ _ hV.out.res
          have z1 := cell_of_row _ _ 1 _ _ _ hV.out.res
          have y0 := frozen_of_row _ _ 0 _ _ hV.out.res
          have y1 := frozen_of_row _ _ 1 _ _ hV.out.res
          simp only [List.getElem?_toArray, List.getElem?_cons_zero, List.getElem?_cons_succ] at z0 z1
          clear hp HGS HGE HCK HCN
          go_wp2_with (go_at_call 17; refine G.out.mono ?_; rintro e w' ⟨rfl, rfl⟩)
          refine bodyPost_ret (v := .tuple #[.slice none 0 0, .slice none 0 0, .agg #[.int .i64 0, .int .i64 0], .int .i64 k, .int .i64 7]) (by simp [results, Try.f30, go_sem, z0, z1]) rfl ?_
          rw [R.out]
          exact err_ans (Below.setCell (p := ⟨w.heap.size, 1, none⟩) (Below.setCell (p := ⟨w.heap.size, 0, none⟩) hV.out.low (Nat.le_refl _) _) (Nat.le_refl _) _)
      · by_cases hp : partB s.ws.length a 1 = true
        · have G := Lib.hid (rset19 _ s.ws a val V hV.out.at (by omega))
          rw [setF_ok hck.out hp] at G
          have hst : stepF s ⟨2, a, bb, n, val⟩ = (0, { s with ws := s.ws.set a.toNat val, w := s.w + 1 }) := by simp [stepF, hp]
          rw [hst] at HGS HCK HCN
          have HR := Lib.hid (HGS.out rfl)
          clear HGS HGE hst hp
          generalize s.ws.set a.toNat val = zs at *
          go_wp2_with (go_at_call 19; refine G.out.mono ?_; intro e W5 h5; obtain ⟨v5, rfl, ho5, hb5⟩ := h5.ok; have HR5 := Lib.hid (hV.out.fresh hb5 (Nat.le_refl _) ho5); have z0 := cell_of_row _ _ 1 _ _ _ HR5.out.cnt; have y0 := frozen_of_row _ _ 1 _ _ HR5.out.cnt; simp only [List.getElem?_toArray, List.getElem?_cons_zero, List.getElem?_cons_succ] at z0; clear h5 ho5 hb5)
          have hN := HCN.out
          go_roundw
          case rel => exact ⟨k + 1, _, by omega, by go_num, Lib.hid (HR5.out.count1 (s.w + 1)), HR, HCK, Lib.hid (by have := hbl.out; dsimp only at *; omega), by dsimp only at *; omega, by dsimp only at *; omega⟩
          case measure => simp [intOf]; omega
        · have G := Lib.hid (rset19 _ s.ws a val V hV.out.at (by omega))
          rw [setF_no hck.out hp] at G
          have R := Lib.hid (HGE.out (by simp [stepF, hp]))
          clear hp HGS HGE HCK HCN
          go_wp2_with (go_at_call 19; refine G.out.mono ?_; intro e W5 h5; obtain ⟨v5, rfl, hb5⟩ := h5.no; have HR5 := Lib.hid (hV.out.below hb5); have x1 := cell_of_row _ _ 1 _ _ _ HR5.out.cnt; have t1 := frozen_of_row _ _ 1 _ _ HR5.out.cnt; have z0 := cell_of_row _ _ 0 _ _ _ HR5.out.res; have z1 := cell_of_row _ _ 1 _ _ _ HR5.out.res; have y0 := frozen_of_row _ _ 0 _ _ HR5.out.res; have y1 := frozen_of_row _ _ 1 _ _ HR5.out.res; simp only [List.getElem?_toArray, List.getElem?_cons_zero, List.getElem?_cons_succ] at x1 z0 z1; clear h5 hb5)
          refine bodyPost_ret (v := .tuple #[.slice none 0 0, .slice none 0 0, .agg #[.int .i64 0, .int .i64 0], .int .i64 k, .int .i64 7]) (by simp [results, Try.f30, go_sem, z0, z1]) rfl ?_
          rw [R.out]
          exact err_ans (Below.setCell (p := ⟨w.heap.size, 1, none⟩) (Below.setCell (p := ⟨w.heap.size, 0, none⟩) (Below.setCell (p := ⟨C, 1, none⟩) HR5.out.low (by dsimp only; omega) _) (Nat.le_refl _) _) (Nat.le_refl _) _)
      · by_cases hp : partB s.ws.length a n = true ∧ partB s.ws.length bb n = true
        · have G := Lib.hid (rcopy21 _ s.ws a bb n V hV.out.at (by omega))
          rw [cpyF_ok hck.out hp] at G
          have hst : stepF s ⟨3, a, bb, n, val⟩ = (0, { s with ws := copyL s.ws a.toNat bb.toNat n.toNat, r := s.r + n, w := s.w + n }) := by simp [stepF, hp]
          rw [hst] at HGS HCK HCN
          have HR := Lib.hid (HGS.out rfl)
          obtain ⟨p1, p2, p3, p4⟩ := partB_spec.1 hp.1
          clear HGS HGE hst hp
          generalize copyL s.ws a.toNat bb.toNat n.toNat = zs at *
          go_upto_region 26 with (go_at_call 21; refine G.out.mono ?_; intro e W5 h5; obtain ⟨v5, rfl, ho5, hb5⟩ := h5.ok; have HR5 := Lib.hid (hV.out.fresh hb5 (Nat.le_refl _) ho5); have NB5 := Lib.hid (keep_heap hb5 NB.out); clear h5 ho5 hb5)
          clear d0 d1 d2 d3 d4
          have d3 := cell_of_row _ _ 3 _ _ _ NB5.out
          have x0 := cell_of_row _ _ 0 _ _ _ HR5.out.cnt
          have x1 := cell_of_row _ _ 1 _ _ _ HR5.out.cnt
          have t0 := frozen_of_row _ _ 0 _ _ HR5.out.cnt
          have t1 := frozen_of_row _ _ 1 _ _ HR5.out.cnt
          simp only [List.getElem?_toArray, List.getElem?_cons_zero, List.getElem?_cons_succ] at d3 x0 x1
          go_region
          have HR6 := Lib.hid (show RPl w.heap.size C w ((W5.setCell ⟨C, 0, none⟩ (.int .i64 (s.r + n))).setCell ⟨C, 1, none⟩ (.int .i64 (s.w + n))).drew v5 u11 _ from ((HR5.out.count (s.r + n)).count1 (s.w + n)).below (below_drewN (Below.refl _ _) 1))
          clear d3 x0 x1 t0 t1 HR5 NB5
          generalize ((W5.setCell ⟨C, 0, none⟩ (.int .i64 (s.r + n))).setCell ⟨C, 1, none⟩ (.int .i64 (s.w + n))).drew = W6 at *
          have hN := HCN.out
          go_wp2
          go_roundw
          case rel => exact ⟨k + 1, _, by omega, by go_num, HR6, HR, HCK, Lib.hid (by have := hbl.out; dsimp only at *; omega), by dsimp only at *; omega, by dsimp only at *; omega⟩
          case measure => simp [intOf]; omega
        · have G := Lib.hid (rcopy21 _ s.ws a bb n V hV.out.at (by omega))
          rw [cpyF_no hck.out hp] at G
          have R := Lib.hid (HGE.out (by simp [stepF, hp]))
          clear hp HGS HGE HCK HCN
          go_upto_region 26 with (go_at_call 21; refine G.out.mono ?_; intro e W5 h5; obtain ⟨v5, rfl, hb5⟩ := h5.no; have HR5 := Lib.hid (hV.out.below hb5); have NB5 := Lib.hid (keep_heap hb5 NB.out); clear h5 hb5)
          clear d0 d1 d2 d3 d4
          have d3 := cell_of_row _ _ 3 _ _ _ NB5.out
          have x0 := cell_of_row _ _ 0 _ _ _ HR5.out.cnt
          have x1 := cell_of_row _ _ 1 _ _ _ HR5.out.cnt
          have t0 := frozen_of_row _ _ 0 _ _ HR5.out.cnt
          have t1 := frozen_of_row _ _ 1 _ _ HR5.out.cnt
          simp only [List.getElem?_toArray, List.getElem?_cons_zero, List.getElem?_cons_succ] at d3 x0 x1
          go_region
          have z0 := cell_of_row _ _ 0 _ _ _ HR5.out.res
          have z1 := cell_of_row _ _ 1 _ _ _ HR5.out.res
          have y0 := frozen_of_row _ _ 0 _ _ HR5.out.res
          have y1 := frozen_of_row _ _ 1 _ _ HR5.out.res
          simp only [List.getElem?_toArray, List.getElem?_cons_zero, List.getElem?_cons_succ] at z0 z1
          go_wp2
          refine bodyPost_ret (v := .tuple #[.slice none 0 0, .slice none 0 0, .agg #[.int .i64 0, .int .i64 0], .int .i64 k, .int .i64 7]) (by simp [results, Try.f30, go_sem, z0, z1]) rfl ?_
          rw [R.out]
          refine err_ans ?_
          have hB := HR5.out.low
          first
            | exact (Below.setCell (p := ⟨w.heap.size, 1, none⟩) (Below.setCell (p := ⟨w.heap.size, 0, none⟩) (Below.setCell (p := ⟨C, 1, none⟩) (Below.setCell (p := ⟨C, 0, none⟩) hB (by dsimp only; omega) _) (by dsimp only; omega) _) (Nat.le_refl _) _) (Nat.le_refl _) _).drew
            | exact Below.setCell (p := ⟨w.heap.size, 1, none⟩) (Below.setCell (p := ⟨w.heap.size, 0, none⟩) (Below.setCell (p := ⟨C, 1, none⟩) (Below.setCell (p := ⟨C, 0, none⟩) hB (by dsimp only; omega) _) (by dsimp only; omega) _).drew (Nat.le_refl _) _) (Nat.le_refl _) _
      · by_cases hp : partB s.ws.length a n = true
        · have G := Lib.hid (rclear23 _ s.ws a n V hV.out.at (by omega))
          rw [clrF_ok hck.out hp] at G
          have hst : stepF s ⟨4, a, bb, n, val⟩ = (0, { s with ws := zeroL s.ws a.toNat n.toNat, w := s.w + n }) := by simp [stepF, hp]
          rw [hst] at HGS HCK HCN
          have HR := Lib.hid (HGS.out rfl)
          obtain ⟨p1, p2, p3, p4⟩ := partB_spec.1 hp
          clear HGS HGE hst hp
          generalize zeroL s.ws a.toNat n.toNat = zs at *
          go_wp2_with (go_at_call 23; refine G.out.mono ?_; intro e W5 h5; obtain ⟨v5, rfl, ho5, hb5⟩ := h5.ok; have HR5 := Lib.hid (hV.out.fresh hb5 (Nat.le_refl _) ho5); have z0 := cell_of_row _ _ 1 _ _ _ HR5.out.cnt; have y0 := frozen_of_row _ _ 1 _ _ HR5.out.cnt; have c3 := cell_of_row _ _ 3 _ _ _ (keep_heap hb5 NB.out); simp only [List.getElem?_toArray, List.getElem?_cons_zero, List.getElem?_cons_succ] at z0 c3; clear h5 ho5 hb5)
          have hN := HCN.out
          go_roundw
          case rel => exact ⟨k + 1, _, by omega, by go_num, Lib.hid (HR5.out.count1 (s.w + n)), HR, HCK, Lib.hid (by have := hbl.out; dsimp only at *; omega), by dsimp only at *; omega, by dsimp only at *; omega⟩
          case measure => simp [intOf]; omega
        · have G := Lib.hid (rclear23 _ s.ws a n V hV.out.at (by omega))
          rw [clrF_no hck.out hp] at G
          have R := Lib.hid (HGE.out (by simp [stepF, hp]))
          clear hp HGS HGE HCK HCN
          go_wp2_with (go_at_call 23; refine G.out.mono ?_; intro e W5 h5; obtain ⟨v5, rfl, hb5⟩ := h5.no; have HR5 := Lib.hid (hV.out.below hb5); have x1 := cell_of_row _ _ 1 _ _ _ HR5.out.cnt; have t1 := frozen_of_row _ _ 1 _ _ HR5.out.cnt; have z0 := cell_of_row _ _ 0 _ _ _ HR5.out.res; have z1 := cell_of_row _ _ 1 _ _ _ HR5.out.res; have y0 := frozen_of_row _ _ 0 _ _ HR5.out.res; have y1 := frozen_of_row _ _ 1 _ _ HR5.out.res; have c3 := cell_of_row _ _ 3 _ _ _ (keep_heap hb5 NB.out); simp only [List.getElem?_toArray, List.getElem?_cons_zero, List.getElem?_cons_succ] at x1 z0 z1 c3; clear h5 hb5)
          refine bodyPost_ret (v := .tuple #[.slice none 0 0, .slice none 0 0, .agg #[.int .i64 0, .int .i64 0], .int .i64 k, .int .i64 7]) (by simp [results, Try.f30, go_sem, z0, z1]) rfl ?_
          rw [R.out]
          exact err_ans (Below.setCell (p := ⟨w.heap.size, 1, none⟩) (Below.setCell (p := ⟨w.heap.size, 0, none⟩) (Below.setCell (p := ⟨C, 1, none⟩) HR5.out.low (by dsimp only; omega) _) (Nat.le_refl _) _) (Nat.le_refl _) _)
    · obtain rfl : k = ops.length := by omega
      have R := Lib.hid (show playF ws ops = ⟨s.ws, s.got, s.r, s.w, 0, 0⟩ by rw [hpl.out, List.drop_length, goF])
      have x0 := cell_of_row _ _ 0 _ _ _ hR.out.cnt
      have x1 := cell_of_row _ _ 1 _ _ _ hR.out.cnt
      have z0 := cell_of_row _ _ 0 _ _ _ hR.out.res
      have z1 := cell_of_row _ _ 1 _ _ _ hR.out.res
      have y0 := frozen_of_row _ _ 0 _ _ hR.out.res
      have y1 := frozen_of_row _ _ 1 _ _ hR.out.res
      simp only [List.getElem?_toArray, List.getElem?_cons_zero, List.getElem?_cons_succ] at x0 x1 z0 z1
      go_wp2
      go_region
      have r0 := set_row (set_row hR.out.res 0 (.int .i64 s.r)) 1 (.int .i64 s.w)
      simp only [List.setIfInBounds_toArray, List.set_cons_succ, List.set_cons_zero] at r0
      have Z0 := Lib.hid (show ((wr.setCell ⟨w.heap.size, 0, none⟩ (.int .i64 s.r)).setCell ⟨w.heap.size, 1, none⟩ (.int .i64 s.w)).drew.heap[w.heap.size]? = _ from r0)
      have Z2 := Lib.hid (show ((wr.setCell ⟨w.heap.size, 0, none⟩ (.int .i64 s.r)).setCell ⟨w.heap.size, 1, none⟩ (.int .i64 s.w)).drew.ownsRow (w.heap.size + 1) 25 1 u10 s.ws.length (wc s.ws) from own_set (own_set hR.out.out w.heap.size 0 (.int .i64 s.r) (by omega)) w.heap.size 1 (.int .i64 s.w) (by omega))
      have Z3 := Lib.hid (show ((wr.setCell ⟨w.heap.size, 0, none⟩ (.int .i64 s.r)).setCell ⟨w.heap.size, 1, none⟩ (.int .i64 s.w)).drew.ownsRow (C + 1) 25 1 u11 s.got.length (wc s.got) from own_set (own_set hR.out.got w.heap.size 0 (.int .i64 s.r) (by omega)) w.heap.size 1 (.int .i64 s.w) (by omega))
      have Z4 := Lib.hid (show Below w.heap.size w ((wr.setCell ⟨w.heap.size, 0, none⟩ (.int .i64 s.r)).setCell ⟨w.heap.size, 1, none⟩ (.int .i64 s.w)).drew from below_drewN (Below.setCell (p := ⟨w.heap.size, 1, none⟩) (Below.setCell (p := ⟨w.heap.size, 0, none⟩) hR.out.low (Nat.le_refl _) _) (Nat.le_refl _) _) 1)
      clear r0 x0 x1 z0 z1 y0 y1
      generalize ((wr.setCell ⟨w.heap.size, 0, none⟩ (.int .i64 s.r)).setCell ⟨w.heap.size, 1, none⟩ (.int .i64 s.w)).drew = W6 at *
      have z0 := cell_of_row _ _ 0 _ _ _ Z0.out
      have z1 := cell_of_row _ _ 1 _ _ _ Z0.out
      simp only [List.getElem?_toArray, List.getElem?_cons_zero, List.getElem?_cons_succ] at z0 z1
      go_wp2
      refine bodyPost_ret (v := .tuple #[u10, u11, .agg #[.int .i64 s.r, .int .i64 s.w], .int .i64 0, .int .i64 0]) (by simp [results, Try.f30, go_sem, z0, z1]) rfl ⟨_, _, by rw [R.out], ?_, ?_, Z4.out⟩
      · rw [R.out]; exact own_mono Z2.out (by omega)
      · rw [R.out]; exact own_mono Z3.out (by omega)
set_option maxRecDepth 100000 in
set_option maxHeartbeats 1000000 in
theorem rplay30 (v lv : Value) (ws : List Int) (ops : List AOp) (w : World) (hv : WAt w v ws) (hl : OAt w lv ops) (hm : ws.length ≤ 9223372036854775807) (hm2 : ops.length ≤ 9223372036854775807) :
    Calls Try.prog 30 #[v, lv] w fun e w' => PAns w (playF ws ops) e w' := by
  by_cases hc : chkF ws = 0
  rotate_left
  · have CK := Lib.hid (rcheck15 v ws (w.alloc (.cells #[.int .i64 0, .int .i64 0] 50)) (hv.below (alloc_below w _)) hm)
    have q1 : (chkF ws != 0) = true := by simpa using hc
    have R := Lib.hid (show playF ws ops = AAns.err 0 (chkF ws) from if_pos hc)
    clear hc hv hl
    generalize chkF ws = c at *
    go_enter Try.func30, Try.ntmps30
    go_wp2_with (go_at_call 15; refine CK.out.mono ?_; rintro e w' ⟨rfl, rfl⟩)
    refine bodyPost_ret (v := .tuple #[.slice none 0 0, .slice none 0 0, .agg #[.int .i64 0, .int .i64 0], .int .i64 0, .int .i64 c]) (by simp [results, Try.f30, go_sem]) rfl ?_
    rw [R.out]
    exact err_ans (alloc_below _ _)
  · by_cases h5 : ops.length ≤ 500
    · exact rplay30_go v lv ws ops w hv hl hc h5
    · have C15 := rcheck15 v ws (w.alloc (.cells #[.int .i64 0, .int .i64 0] 50)) (hv.below (alloc_below w _)) hm
      rw [hc] at C15
      have CK := Lib.hid C15
      have q1 : decide ((500 : Int) < (ops.length : Int)) = true := decide_eq_true (by omega)
      have R := Lib.hid (show playF ws ops = AAns.err (-1) 3 by unfold playF; rw [if_neg (by simp [hc]), if_pos (by omega)])
      obtain ⟨A2, cap2, rfl, -⟩ := hl
      clear hc hv C15
      go_enter Try.func30, Try.ntmps30
      go_wp2_with (go_at_call 15; refine CK.out.mono ?_; rintro e w' ⟨rfl, rfl⟩)
      refine bodyPost_ret (v := .tuple #[.slice none 0 0, .slice none 0 0, .agg #[.int .i64 0, .int .i64 0], .int .i64 (-1), .int .i64 3]) (by simp [results, Try.f30, go_sem]) rfl ?_
      rw [R.out]
      exact err_ans (alloc_below _ _)
end Ytkffabochgmagaa
end Go.Proofs
