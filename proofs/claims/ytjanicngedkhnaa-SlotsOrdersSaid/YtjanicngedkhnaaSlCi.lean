/- The law of orders. -/
import Derived.Test.YtjanicngedkhnaaSlCiA
import Derived.Deep.Cut
namespace Go.Proofs
namespace Ytjanicngedkhnaa
open Go.RowKit

set_option maxRecDepth 100000 in
set_option maxHeartbeats 400000 in
theorem orders9_far (v : Value) (cs : List Int) (u : Value) (ts : List Int) (x : Value) (l : List Int) (w : World) (h : IAt w v cs) (hu : IAt w u ts) (hx : IAt w x l)
    (hf : farB cs.length = true ∨ farB ts.length = true ∨ 300 < l.length) :
    Calls Try.prog 9 #[.agg #[v], .agg #[u], x] w fun e w' => e = .returned (.bool true) ∧ Below w.heap.size w w' := by
  obtain ⟨h0, h1, hs, hb⟩ := two_boxes w (.cells #[v] 24) (.cells #[u] 24)
  have FA := Lib.hid (far_at h)
  have FB := Lib.hid (far_at hu)
  have AW := Lib.hid awake12
  have Z0 := Lib.hid trivial
  obtain ⟨A, cap, rfl, -⟩ := h
  obtain ⟨A2, cap2, rfl, -⟩ := hu
  obtain ⟨A3, cap3, rfl, -⟩ := hx
  have q := (one_cell h0).1
  have B0 := Lib.hid hb
  have K1 := Lib.hid h1
  unfold sv at *
  generalize cs.length = n at *
  generalize ts.length = n2 at *
  generalize l.length = m at *
  generalize hfa : farB n = fa at *
  generalize hfb : farB n2 = fb at *
  clear h0 h1 hs hb hfa hfb
  cases fa with
  | true =>
    clear hf
    go_enter Try.func9, Try.ntmps9
    go_wp2_with (first
      | (go_at_call 11; have z := Z0.out; refine (FA.out _ B0.out).mono ?_; rintro e w1 ⟨rfl, hb⟩; have B1 := Lib.hid (below_end B0.out hb); have q1 := (one_cell (keep_heap hb K1.out)).1; clear hb Z0 z)
      | (go_at_call 11; refine (FB.out _ B1.out).mono ?_; rintro e w2 ⟨rfl, hb⟩; have B2 := Lib.hid (below_end B1.out hb); clear hb)
      | (go_at_call 12; refine (AW.out _).mono ?_; rintro e w3 ⟨rfl, hb⟩; have B3 := Lib.hid (below_end B1.out hb); clear hb))
    refine bodyPost_ret (v := .bool true) (by simp [results, Try.f9, go_sem]) rfl ⟨rfl, B3.out⟩
  | false =>
  cases fb with
  | true =>
    clear hf
    go_enter Try.func9, Try.ntmps9
    go_wp2_with (first
      | (go_at_call 11; have z := Z0.out; refine (FA.out _ B0.out).mono ?_; rintro e w1 ⟨rfl, hb⟩; have B1 := Lib.hid (below_end B0.out hb); have q1 := (one_cell (keep_heap hb K1.out)).1; clear hb Z0 z)
      | (go_at_call 11; refine (FB.out _ B1.out).mono ?_; rintro e w2 ⟨rfl, hb⟩; have B2 := Lib.hid (below_end B1.out hb); clear hb)
      | (go_at_call 12; refine (AW.out _).mono ?_; rintro e w3 ⟨rfl, hb⟩; have B3 := Lib.hid (below_end B2.out hb); clear hb))
    refine bodyPost_ret (v := .bool true) (by simp [results, Try.f9, go_sem]) rfl ⟨rfl, B3.out⟩
  | false =>
  have hf : 300 < m := by simpa using hf
  have q3 : decide ((300 : Int) < (m : Int)) = true := decide_eq_true (by omega)
  have q3' : (300 : Int) < (m : Int) := by omega
  clear hf
  go_enter Try.func9, Try.ntmps9
  go_wp2_with (first
    | (go_at_call 11; have z := Z0.out; refine (FA.out _ B0.out).mono ?_; rintro e w1 ⟨rfl, hb⟩; have B1 := Lib.hid (below_end B0.out hb); have q1 := (one_cell (keep_heap hb K1.out)).1; clear hb Z0 z)
    | (go_at_call 11; refine (FB.out _ B1.out).mono ?_; rintro e w2 ⟨rfl, hb⟩; have B2 := Lib.hid (below_end B1.out hb); clear hb)
    | (go_at_call 12; refine (AW.out _).mono ?_; rintro e w3 ⟨rfl, hb⟩; have B3 := Lib.hid (below_end B2.out hb); clear hb))
  refine bodyPost_ret (v := .bool true) (by simp [results, Try.f9, go_sem]) rfl ⟨rfl, B3.out⟩
set_option maxRecDepth 100000 in
set_option maxHeartbeats 3000000 in
theorem orders9 (v : Value) (cs : List Int) (u : Value) (ts : List Int) (x : Value) (l : List Int) (w : World) (h : IAt w v cs) (hu : IAt w u ts) (hx : IAt w x l) :
    Calls Try.prog 9 #[.agg #[v], .agg #[u], x] w fun e w' => e = .returned (.bool true) ∧ Below w.heap.size w w' := by
  by_cases hf : farB cs.length = true ∨ farB ts.length = true ∨ 300 < l.length
  · exact orders9_far v cs u ts x l w h hu hx hf
  obtain ⟨f1, f2, f3⟩ : farB cs.length = false ∧ farB ts.length = false ∧ ¬ 300 < l.length := by
    simp only [not_or, Bool.not_eq_true] at hf; exact hf
  have m1 := far_no f1
  have m2 := far_no f2
  obtain ⟨h0, h1, hs, hb⟩ := two_boxes w (.cells #[v] 24) (.cells #[u] 24)
  have FA := Lib.hid (far_at h)
  have FB := Lib.hid (far_at hu)
  rw [f1] at FA
  rw [f2] at FB
  have AW := Lib.hid awake12
  have Z0 := Lib.hid trivial
  have MK := Lib.hid (fun X => mk_int Try.underlying22 l.length (by omega) X)
  have RL := Lib.hid (fun k => rvA_len l k)
  have RF := Lib.hid (of_rev l (rvA l l.length) (rvA_mem l) (rvA_len l l.length))
  have RS := Lib.hid (fun k => (show rvA l (k + 1) = (rvA l k).set (l.length - 1 - k) (l.getD k 0) from rfl))
  have R0 := Lib.hid (show rvA l 0 = List.replicate l.length 0 from rfl)
  have IX := Lib.hid (fun W (hb : Below w.heap.size w W) => hx.below hb)
  have CO := Lib.hid (fun W (hb : Below w.heap.size w W) => (of31 x l W (hx.below hb) (by omega)).mono fun e w' h => h.form2)
  have CR := Lib.hid (fun y W (h : IAt W y (rvA l l.length)) => (of31 y _ W h (by rw [rvA_len]; omega)).mono fun e w' h => h.form2)
  have CJ := Lib.hid (fun W (hb : Below w.heap.size w W) => (join33 v cs u ts W (h.below hb) (hu.below hb) (by omega) (by omega)).mono fun e w' h => h.form2)
  have CK := Lib.hid (fun W (hb : Below w.heap.size w W) => (join33 u ts v cs W (hu.below hb) (h.below hb) (by omega) (by omega)).mono fun e w' h => h.form2)
  have LI := Lib.hid (fun y c W (h : IAt W y c) (hm : c.length ≤ 8192) => (list20 y c W h (by omega)).mono fun e w' h => h.form)
  have JB := Lib.hid (join_both cs ts)
  have HA := Lib.hid (fun a W (hb : Below w.heap.size w W) => has25 v cs a W (h.below hb) (by omega))
  have HB := Lib.hid (fun a W (hb : Below w.heap.size w W) => has25 u ts a W (hu.below hb) (by omega))
  have CN := Lib.hid (fun W (hb : Below w.heap.size w W) => len15 v cs W (h.below hb) (by omega))
  have CP := Lib.hid (fun W (hb : Below w.heap.size w W) => (purge35 v cs 1 800 W (h.below hb) (by omega)).mono fun e w' h => h.form2)
  have CG := Lib.hid (fun W (hb : Below w.heap.size w W) => (range22 v cs 1 800 W (h.below hb) (by omega)).mono fun e w' h => h.form)
  have PP := Lib.hid (fun h => purge_part (cs := cs) h)
  have HG := Lib.hid (fun c a h hx => has_good (c := c) (x := a) h hx)
  obtain ⟨A, cap, rfl, -⟩ := h
  obtain ⟨A2, cap2, rfl, -⟩ := hu
  obtain ⟨A3, cap3, rfl, -⟩ := hx
  have q := (one_cell h0).1
  have B0 := Lib.hid hb
  have K0 := Lib.hid h0
  have M0 := Lib.hid h1
  unfold sv at *
  obtain ⟨m, hm⟩ : ∃ m, l.length = m := ⟨_, rfl⟩
  rw [hm] at MK RL RF RS R0 CR f3 CO ⊢
  obtain ⟨R, hR⟩ : ∃ R : Nat → List Int, ∀ k, rvA l k = R k := ⟨_, fun _ => rfl⟩
  rw [hR] at R0 CR RF
  have RL := Lib.hid (fun k => (show (R k).length = m by rw [← hR]; exact RL.out k))
  have RS := Lib.hid (fun k => (show R (k + 1) = (R k).set (m - 1 - k) (l.getD k 0) by rw [← hR, ← hR]; exact RS.out k))
  have HM := Lib.hid hm
  clear hm hR
  generalize ofA l = r1 at *
  generalize ofA (R m) = r1b at *
  generalize joinA cs ts = r2 at *
  generalize joinA ts cs = r2b at *
  obtain ⟨L, e1⟩ := r1
  obtain ⟨Lb, e1b⟩ := r1b
  obtain ⟨M, e2⟩ := r2
  obtain ⟨Mb, e2b⟩ := r2b
  dsimp only at *
  obtain ⟨N, hN⟩ : ∃ N, L.length = N := ⟨_, rfl⟩
  obtain ⟨Nb, hNb⟩ : ∃ N, Lb.length = N := ⟨_, rfl⟩
  obtain ⟨N2, hN2⟩ : ∃ N, M.length = N := ⟨_, rfl⟩
  obtain ⟨N2b, hN2b⟩ : ∃ N, Mb.length = N := ⟨_, rfl⟩
  rw [hN] at CO
  rw [hNb] at CR
  rw [hN2] at CJ
  rw [hN2b] at CK
  have HN2 := Lib.hid hN2
  have HN2b := Lib.hid hN2b
  generalize cs.length = n at *
  generalize ts.length = n2 at *
  have q3 : decide ((300 : Int) < (m : Int)) = false := decide_eq_false (by omega)
  have q3' : ¬ (300 : Int) < (m : Int) := by omega
  have hm3 : m ≤ 300 := by omega
  clear h0 h1 hs hb hN hNb hN2 hN2b hf f1 f2 f3 m1 m2
  go_enter Try.func9, Try.ntmps9
  go_upto_region 3 with (first
    | (go_at_call 11; have z := Z0.out; refine (FA.out _ B0.out).mono ?_; rintro e w1 ⟨rfl, hb⟩; have B1 := Lib.hid (below_end B0.out hb); have K1 := Lib.hid (keep_heap hb K0.out); have M1 := Lib.hid (keep_heap hb M0.out); have q1 := (one_cell M1.out).1; clear hb Z0 z)
    | (go_at_call 11; refine (FB.out _ B1.out).mono ?_; rintro e w2 ⟨rfl, hb⟩; have B2 := Lib.hid (below_end B1.out hb); have K2 := Lib.hid (keep_heap hb K1.out); have M2 := Lib.hid (keep_heap hb M1.out); clear hb))
  clear q q1
  have hmk := MK.out w2
  have ba := alloc_below w2 (.cells (ic (List.replicate m 0)).toArray 3)
  have ht := made_at w2 (List.replicate m 0)
  rw [← R0.out] at hmk ba ht
  obtain ⟨g, hg⟩ : ∃ g, w2.heap.size = g := ⟨_, rfl⟩
  rw [hg] at hmk ht
  have GG := Lib.hid (show w.heap.size + 1 < g by rw [← hg]; exact box_lt M2.out)
  generalize w2.alloc (.cells (ic (R 0)).toArray 3) = X0 at *
  have B3 := Lib.hid (below_end B2.out ba)
  have K3 := Lib.hid (keep_heap ba K2.out)
  have M3 := Lib.hid (keep_heap ba M2.out)
  have T3 := Lib.hid ht
  clear ba ht hg
  unfold tv at hmk
  go_wp2
  go_loopw [8] (fun i wr => ∃ k : Nat, k ≤ m ∧ i = .int .i64 k ∧ Hid (TAt wr g (R k)) ∧ Hid (wr.heap[w.heap.size]? = some (.cells #[.slice A n cap] 24 (0, 0))) ∧ Hid (wr.heap[w.heap.size + 1]? = some (.cells #[.slice A2 n2 cap2] 24 (0, 0))) ∧ Hid (Below w.heap.size w wr)) (fun i _ => m - (intOf i).toNat)
  case atStart => exact ⟨0, by omega, rfl, T3, K3, M3, B3⟩
  case round =>
    obtain ⟨k, hk, rfl, HT, KR, MR, BR⟩ := hrel
    clear hmk
    by_cases hlt : k < m
    · have hlt' : (k : Int) < (m : Int) := by omega
      have ix := IX.out wr BR.out
      obtain ⟨A1, cap', e, hc⟩ := ix
      cases e
      obtain ⟨b, off, rfl, h2⟩ := hc (by rw [HM.out]; omega)
      have ca := h2 k (by rw [HM.out]; omega)
      obtain ⟨j, hj⟩ : ∃ j, m - 1 - k = j := ⟨_, rfl⟩
      have SK := Lib.hid (RS.out k)
      rw [hj] at SK
      obtain ⟨tc, tf⟩ := HT.out.cell (k := j) (by rw [RL.out]; omega)
      have e1 : (m : Int) - 1 - (k : Int) = (j : Int) := by omega
      have ej : (j : Int) < (m : Int) := by omega
      have ad1 : (⟨b, off, none⟩ : Addr).add k = ⟨b, off + k, none⟩ := by unfold Addr.add; split <;> simp_all
      have ad2 : (⟨g, 0, none⟩ : Addr).add j = ⟨g, j, none⟩ := by unfold Addr.add; split <;> simp_all
      generalize l.getD k 0 = y at *
      have T2 := Lib.hid (show TAt (wr.setCell ⟨g, j, none⟩ (.int .i64 y)) g (R (k + 1)) by rw [SK.out]; exact HT.out.set j y)
      have K2 := Lib.hid (set_far (i := j) (.int .i64 y) (show w.heap.size ≠ g by have := GG.out; omega) KR.out)
      have M2 := Lib.hid (set_far (i := j) (.int .i64 y) (show w.heap.size + 1 ≠ g by have := GG.out; omega) MR.out)
      have B2 := Lib.hid (BR.out.setCell (p := ⟨g, j, none⟩) (by have := GG.out; dsimp only; omega) (.int .i64 y))
      generalize (R k).getD j 0 = y0 at *
      clear hc h2 hj
      go_wp2
      refine ⟨⟨k + 1, by omega, by simp, T2, K2, M2, B2⟩, ?_⟩
      show m - ((k : Int) + 1).toNat < m - ((k : Int)).toNat
      omega
    obtain rfl : m = k := by omega
    have hlt' : ¬ (m : Int) < (m : Int) := by omega
    have IT := Lib.hid (show IAt wr (.slice (some ⟨g, 0, none⟩) m m) (R m) by have := HT.out.iat; unfold tv at this; rwa [RL.out] at this)
    clear HT T3 B3 K3 M3
    go_upto_region 9 with (go_at_call 31; refine (CO.out _ BR.out).mono ?_; rintro e w3 ⟨A4, c4, rfl, hi, hb⟩; have BR := Lib.hid (below_end BR.out hb); have KR := Lib.hid (keep_heap hb KR.out); have MR := Lib.hid (keep_heap hb MR.out); have IT := Lib.hid (IT.out.below hb); have I1 := Lib.hid hi; clear hb hi)
    have ba := alloc_below w3 (.cells #[.slice A4 N c4] 24)
    have P1 := Lib.hid (heap_alloc_new w3 (.cells #[.slice A4 N c4] 24))
    obtain ⟨b1, hb1⟩ : ∃ b, w3.heap.size = b := ⟨_, rfl⟩
    rw [hb1] at P1
    try rw [hb1]
    generalize w3.alloc (.cells #[.slice A4 N c4] 24) = X1 at *
    have BR := Lib.hid (below_end BR.out ba)
    have KR := Lib.hid (keep_heap ba KR.out)
    have MR := Lib.hid (keep_heap ba MR.out)
    have IT := Lib.hid (IT.out.below ba)
    have I1 := Lib.hid (I1.out.below ba)
    clear ba hb1
    go_upto_region 10 with (go_at_call 31; refine (CR.out _ _ IT.out).mono ?_; rintro e w4 ⟨A5, c5, rfl, hi, hb⟩; have BR := Lib.hid (below_end BR.out hb); have KR := Lib.hid (keep_heap hb KR.out); have MR := Lib.hid (keep_heap hb MR.out); have I1 := Lib.hid (I1.out.below hb); have P1 := Lib.hid (keep_heap hb P1.out); have I2 := Lib.hid hi; clear hb hi)
    have ba := alloc_below w4 (.cells #[.slice A5 Nb c5] 24)
    have P2 := Lib.hid (heap_alloc_new w4 (.cells #[.slice A5 Nb c5] 24))
    obtain ⟨b2, hb2⟩ : ∃ b, w4.heap.size = b := ⟨_, rfl⟩
    rw [hb2] at P2
    try rw [hb2]
    generalize w4.alloc (.cells #[.slice A5 Nb c5] 24) = X2 at *
    have BR := Lib.hid (below_end BR.out ba)
    have KR := Lib.hid (keep_heap ba KR.out)
    have MR := Lib.hid (keep_heap ba MR.out)
    have I1 := Lib.hid (I1.out.below ba)
    have P1 := Lib.hid (keep_heap ba P1.out)
    have I2 := Lib.hid (I2.out.below ba)
    clear ba hb2
    obtain rfl : e1b = e1 := by
      rcases RF.out with ⟨L1, L2, S, h1, h2, -⟩ | ⟨L1, L2, e, h1, h2, -⟩
      · rw [Prod.mk.injEq] at h1 h2; rw [h1.2, h2.2]
      · rw [Prod.mk.injEq] at h1 h2; rw [h1.2, h2.2]
    go_upto_if 81 with fail
    go_cut [13, 14, 15, 16] from 77 (fun s13 s14 s15 s16 wc => Hid (Below X2.heap.size X2 wc))
    case first =>
      rcases RF.out with ⟨L1, L2, S, h1, h2, h3, h4, h5, h6, h7⟩ | ⟨L1, L2, e, h1, h2, h3, -⟩
      · obtain ⟨rfl, rfl⟩ : L = L1 ∧ e1b = 0 := by simpa using h1
        obtain rfl : Lb = L2 := by simpa using h2
        have C1 := Lib.hid (LI.out (.slice A4 N c4) L X2 I1.out h5)
        have C2 := Lib.hid (fun W (hb : Below X2.heap.size X2 W) => LI.out (.slice A5 Nb c5) Lb W (I2.out.below hb) h6)
        rw [h3] at C1
        rw [h4] at C2
        dsimp only at C1 C2
        have HS := Lib.hid (show S.length ≤ 1000000 by omega)
        have q := (one_cell P1.out).1
        clear h1 h2 h3 h4 h5 h6 h7
        go_upto_region 14 with (go_at_call 20; refine C1.out.mono ?_; rintro e y1 ⟨A6, c6, rfl, hi, hb⟩; have D1 := Lib.hid hb; have I6 := Lib.hid hi; have q2 := (one_cell (keep_heap hb P2.out)).1; clear hb hi q)
        go_upto_region 15 with (go_at_call 20; refine (C2.out _ D1.out).mono ?_; rintro e y2 ⟨A7, c7, rfl, hi, hb⟩; have D2 := Lib.hid (below_end D1.out hb); have CI := Lib.hid (ints_same _ _ S y2 (I6.out.below hb) hi HS.out); clear hb hi q2)
        go_wp2_with (go_at_call 24; refine CI.out.mono ?_; rintro e y3 ⟨rfl, hb⟩; have D3 := Lib.hid (below_end D2.out hb); clear hb)
        go_meet
        case rel => exact D3
      · obtain ⟨rfl, rfl⟩ : L = L1 ∧ e1b = e := by simpa using h1
        have q8 : (e1b == 0) = false := by simpa using h3
        clear h1 h2 h3
        go_wp2_with fail
        go_meet
        case rel => exact Lib.hid (Below.refl _ _)
    case rest =>
    have BR := Lib.hid (below_end BR.out hcut.out)
    have KR := Lib.hid (keep_heap hcut.out KR.out)
    have MR := Lib.hid (keep_heap hcut.out MR.out)
    have q := (one_cell KR.out).1
    have q1 := (one_cell MR.out).1
    clear hcut I1 I2 P1 P2 IT
    go_upto_region 18 with (go_at_call 33; refine (CJ.out _ BR.out).mono ?_; rintro e w5 ⟨A8, c8, rfl, hi, hb⟩; have BR := Lib.hid (below_end BR.out hb); have KR := Lib.hid (keep_heap hb KR.out); have MR := Lib.hid (keep_heap hb MR.out); have I1 := Lib.hid hi; clear hb hi)
    clear q q1
    have ba := alloc_below w5 (.cells #[.slice A8 N2 c8] 24)
    have P1 := Lib.hid (heap_alloc_new w5 (.cells #[.slice A8 N2 c8] 24))
    obtain ⟨b3, hb3⟩ : ∃ b, w5.heap.size = b := ⟨_, rfl⟩
    rw [hb3] at P1
    try rw [hb3]
    generalize w5.alloc (.cells #[.slice A8 N2 c8] 24) = X5 at *
    have BR := Lib.hid (below_end BR.out ba)
    have KR := Lib.hid (keep_heap ba KR.out)
    have MR := Lib.hid (keep_heap ba MR.out)
    have I1 := Lib.hid (I1.out.below ba)
    clear ba hb3
    have q := (one_cell KR.out).1
    have q1 := (one_cell MR.out).1
    go_upto_region 19 with (go_at_call 33; refine (CK.out _ BR.out).mono ?_; rintro e w6 ⟨A9, c9, rfl, hi, hb⟩; have BR := Lib.hid (below_end BR.out hb); have KR := Lib.hid (keep_heap hb KR.out); have MR := Lib.hid (keep_heap hb MR.out); have I1 := Lib.hid (I1.out.below hb); have P1 := Lib.hid (keep_heap hb P1.out); have I2 := Lib.hid hi; clear hb hi)
    clear q q1
    have ba := alloc_below w6 (.cells #[.slice A9 N2b c9] 24)
    have P2 := Lib.hid (heap_alloc_new w6 (.cells #[.slice A9 N2b c9] 24))
    obtain ⟨b4, hb4⟩ : ∃ b, w6.heap.size = b := ⟨_, rfl⟩
    rw [hb4] at P2
    try rw [hb4]
    generalize w6.alloc (.cells #[.slice A9 N2b c9] 24) = X6 at *
    have BR := Lib.hid (below_end BR.out ba)
    have KR := Lib.hid (keep_heap ba KR.out)
    have MR := Lib.hid (keep_heap ba MR.out)
    have I1 := Lib.hid (I1.out.below ba)
    have P1 := Lib.hid (keep_heap ba P1.out)
    have I2 := Lib.hid (I2.out.below ba)
    clear ba hb4
    rcases JB.out with ⟨M1, M2, S, hC, hT, h1, h2, h3, h4, h5, h6, h7, h8⟩ | ⟨M1, M2, e, e', h1, h2, h3, h4, -⟩
    rotate_left
    · obtain ⟨rfl, rfl⟩ : M = M1 ∧ e2 = e := by simpa using h1
      obtain ⟨rfl, rfl⟩ : Mb = M2 ∧ e2b = e' := by simpa using h2
      have q8 : (e2 != 0) = true := by simpa using h3
      have q8a : (e2 == 0) = false := by simpa using h3
      have q8b : (e2b == 0) = false := by simpa using h4
      clear h1 h2 h3 h4
      go_wp2_with (go_at_call 12; refine (AW.out _).mono ?_; rintro e y1 ⟨rfl, hb⟩; have B9 := Lib.hid (below_end BR.out hb); clear hb)
      refine bodyPost_ret (v := .bool true) (by simp [results, Try.f9, go_sem]) rfl ⟨rfl, B9.out⟩
    obtain ⟨rfl, rfl⟩ : M = M1 ∧ e2 = 0 := by simpa using h1
    obtain ⟨rfl, rfl⟩ : Mb = M2 ∧ e2b = 0 := by simpa using h2
    have C1 := Lib.hid (LI.out (.slice A8 N2 c8) M X6 I1.out h5)
    have C2 := Lib.hid (fun W (hb : Below X6.heap.size X6 W) => LI.out (.slice A9 N2b c9) Mb W (I2.out.below hb) h6)
    rw [h3] at C1
    rw [h4] at C2
    dsimp only at C1 C2
    obtain ⟨s, hs⟩ : ∃ s, S.length = s := ⟨_, rfl⟩
    rw [hs] at C1 C2 h7
    have HS := Lib.hid hs
    have H8 := Lib.hid (fun k (hk : k < s) => h8 _ (getD_mem (show k < S.length by rw [hs]; exact hk)))
    have HCT := Lib.hid (And.intro hC hT)
    have q := (one_cell P1.out).1
    clear h1 h2 h3 h4 h5 h6 h8 hC hT hs
    go_upto_region 22 with (go_at_call 20; refine C1.out.mono ?_; rintro e y1 ⟨A10, c10, rfl, hi, hb⟩; have D1 := Lib.hid hb; have I6 := Lib.hid hi; have q2 := (one_cell (keep_heap hb P2.out)).1; clear hb hi q)
    go_upto_region 23 with (go_at_call 20; refine (C2.out _ D1.out).mono ?_; rintro e y2 ⟨A11, c11, rfl, hi, hb⟩; have D2 := Lib.hid (below_end D1.out hb); have CI := Lib.hid (ints_same _ _ S y2 (I6.out.below hb) hi (by rw [HS.out]; omega)); have I7 := Lib.hid (I6.out.below hb); clear hb hi q2)
    go_upto_region 25 with (go_at_call 24; refine CI.out.mono ?_; rintro e y3 ⟨rfl, hb⟩; have D3 := Lib.hid (below_end D2.out hb); have I8 := Lib.hid (I7.out.below hb); clear hb)
    have BR := Lib.hid (below_end BR.out D3.out)
    have KR := Lib.hid (keep_heap D3.out KR.out)
    have MR := Lib.hid (keep_heap D3.out MR.out)
    clear D1 D2 D3 CI I6 I7 P1 P2 I1 I2 C1 C2
    have VX : Hid (∀ X, Below y3.heap.size y3 X → ∀ j, j < s → ∃ b off, A10 = some ⟨b, off, none⟩ ∧ X.cell? ⟨b, off + j, none⟩ = some (.int .i64 (S.getD j 0))) := Lib.hid (by
      intro X hx j hj
      obtain ⟨A1, cap', e, hc⟩ := I8.out.below hx
      cases e
      obtain ⟨b, off, h1, h2⟩ := hc (by rw [HS.out]; omega)
      exact ⟨b, off, h1, h2 j (by rw [HS.out]; omega)⟩)
    clear I8
    go_wp2
    go_loopw [23, 24, 25, 26, 27] (fun i x1 x2 x3 x4 wq => ∃ k : Nat, k ≤ s ∧ i = .int .i64 k ∧ Hid (Below y3.heap.size y3 wq)) (fun i _ _ _ _ _ => s - (intOf i).toNat)
    case atStart => exact ⟨0, by omega, rfl, Lib.hid (Below.refl _ _)⟩
    case round =>
      obtain ⟨k, hk, rfl, HQ⟩ := hrel
      by_cases hlt2 : k < s
      · have hlt2' : (k : Int) < (s : Int) := by omega
        obtain ⟨b, off, rfl, ca⟩ := VX.out _ HQ.out k hlt2
        have CA := Lib.hid (fun X (hb : Below y3.heap.size y3 X) => (show X.cell? ⟨b, off + k, none⟩ = some (.int .i64 (S.getD k 0)) from by
          obtain ⟨b', o', e, h⟩ := VX.out X hb k hlt2
          cases e
          exact h))
        have hx := H8.out k hlt2
        generalize S.getD k 0 = y at *
        have ad1 : (⟨b, off, none⟩ : Addr).add k = ⟨b, off + k, none⟩ := by unfold Addr.add; split <;> simp_all
        have T1 := Lib.hid (fun X (hb : Below w.heap.size w X) => HA.out y X hb)
        have T2 := Lib.hid (fun X (hb : Below w.heap.size w X) => HB.out y X hb)
        rw [HG.out cs y HCT.out.1 hx.1] at T1
        rw [HG.out ts y HCT.out.2 hx.1] at T2
        dsimp only at T1 T2
        obtain ⟨p1, hp1⟩ : ∃ p, hasB cs y = p := ⟨_, rfl⟩
        obtain ⟨p2, hp2⟩ : ∃ p, hasB ts y = p := ⟨_, rfl⟩
        rw [hp1] at T1 hx
        rw [hp2] at T2 hx
        have HX := Lib.hid hx.2
        have BQ := Lib.hid (below_end BR.out HQ.out)
        have KQ := Lib.hid (keep_heap HQ.out KR.out)
        have MQ := Lib.hid (keep_heap HQ.out MR.out)
        have q := (one_cell KQ.out).1
        clear hx hp1 hp2 VX
        have S1 := Lib.hid (T1.out wr.drew BQ.out.drew)
        clear T1
        go_wp2_with fail
        go_region_with (go_at_call 25; refine S1.out.mono ?_; rintro e z1 ⟨rfl, hb1⟩)
        all_goals (
          have B1 := Lib.hid (below_end BQ.out.drew hb1)
          have H1 := Lib.hid (below_end HQ.out.drew hb1)
          have q1 := (one_cell (keep_heap (W := wr.drew) hb1 MQ.out)).1
          have ca := CA.out z1 H1.out
          have S2 := Lib.hid (T2.out z1.drew B1.out.drew)
          clear hb1 q S1 T2
          go_wp2_with fail
          go_region_with (go_at_call 25; refine S2.out.mono ?_; rintro e z2 ⟨rfl, hb2⟩)
          all_goals (
            have H2 := Lib.hid (below_end H1.out.drew hb2)
            clear hb2 q1 S2 ca CA
            have hx := HX.out
            clear HX
            cases p1 with
            | true =>
              clear hx
              go_wp2
              refine ⟨⟨k + 1, by omega, by simp, H2⟩, ?_⟩
              show s - ((k : Int) + 1).toNat < s - ((k : Int)).toNat
              omega
            | false =>
              obtain rfl : p2 = true := by simpa using hx
              clear hx
              go_wp2
              refine ⟨⟨k + 1, by omega, by simp, H2⟩, ?_⟩
              show s - ((k : Int) + 1).toNat < s - ((k : Int)).toNat
              omega))
      obtain rfl : s = k := by omega
      have hlt2' : ¬ (s : Int) < (s : Int) := by omega
      obtain ⟨P, z, Rr, S3, nn, p1, p2, p3, p4, p5, p6, p7, p8, p9⟩ := PP.out HCT.out.1
      have CN1 := CN
      have CP1 := CP
      have CG1 := CG
      rw [p4] at CN1
      rw [p1] at CP1
      rw [p2] at CG1
      dsimp only at CN1 CP1 CG1
      rw [p5] at CG1
      obtain ⟨n3, hn3⟩ : ∃ n, P.length = n := ⟨_, rfl⟩
      rw [hn3] at CP1
      obtain ⟨s3, hs3⟩ : ∃ n, S3.length = n := ⟨_, rfl⟩
      have HS3 := Lib.hid hs3
      have HP := Lib.hid p8
      have P3 := Lib.hid p3
      have P9 := Lib.hid p9
      have eNZ : (nn : Int) - (z : Int) = (s3 : Int) := by omega
      have hz : z ≤ 1600 := by omega
      have hnn : nn ≤ 1600 := by omega
      have BQ := Lib.hid (below_end BR.out HQ.out)
      have KQ := Lib.hid (keep_heap HQ.out KR.out)
      have q := (one_cell KQ.out).1
      clear p1 p2 p3 p4 p5 p6 p7 p8 p9 hn3 hs3 VX HQ BR KR MR CN CP CG PP
      go_upto_region 33 with (go_at_call 15; refine (CN1.out _ BQ.out).mono ?_; rintro e y4 ⟨rfl, hb⟩; have B4 := Lib.hid (below_end BQ.out hb); have K4 := Lib.hid (keep_heap hb KQ.out); have q4 := (one_cell K4.out).1; clear hb q)
      go_upto_region 34 with (go_at_call 35; refine (CP1.out _ B4.out).mono ?_; rintro e y5 ⟨A12, c12, rfl, hi, hb⟩; have B5 := Lib.hid (below_end B4.out hb); have K5 := Lib.hid (keep_heap hb K4.out); have I5 := Lib.hid hi; clear hb hi q4)
      have ba := alloc_below y5 (.cells #[.slice A12 n3 c12] 24)
      have P5 := Lib.hid (heap_alloc_new y5 (.cells #[.slice A12 n3 c12] 24))
      obtain ⟨b5, hb5⟩ : ∃ b, y5.heap.size = b := ⟨_, rfl⟩
      rw [hb5] at P5
      try rw [hb5]
      generalize y5.alloc (.cells #[.slice A12 n3 c12] 24) = X7 at *
      have B5 := Lib.hid (below_end B5.out ba)
      have K5 := Lib.hid (keep_heap ba K5.out)
      have I5 := Lib.hid (I5.out.below ba)
      have q5 := (one_cell K5.out).1
      clear ba hb5
      go_upto_region 35 with (go_at_call 22; refine (CG1.out _ B5.out).mono ?_; rintro e y6 ⟨A13, c13, rfl, hi, hb⟩; have B6 := Lib.hid (below_end B5.out hb); have C6 := LI.out (.slice A12 n3 c12) P y6 (I5.out.below hb) HP.out; rw [P3.out] at C6; dsimp only at C6; rw [HS3.out] at C6; have C6 := Lib.hid C6; have q6 := (one_cell (keep_heap hb P5.out)).1; clear hb hi q5)
      go_upto_region 36 with (go_at_call 20; refine C6.out.mono ?_; rintro e y7 ⟨A14, c14, rfl, hi, hb⟩; have B7 := Lib.hid (below_end B6.out hb); have I7 := Lib.hid hi; clear hb hi q6)
      by_cases h0 : s3 = 0
      · subst h0
        have k0 : ((0 : Nat) : Int) = 0 := rfl
        go_wp2_with (go_at_call 12; refine (AW.out _).mono ?_; rintro e y8 ⟨rfl, hb⟩; have B8 := Lib.hid (below_end B7.out hb); clear hb)
        refine bodyPost_ret (v := .bool true) (by simp [results, Try.f9, go_sem]) rfl ⟨rfl, B8.out⟩
      have q0 : ((s3 : Int) == 0) = false := by simpa using h0
      have q0' : (0 : Int) < (s3 : Int) := by omega
      have ix := I7.out
      obtain ⟨A1, cap', e, hc⟩ := ix
      obtain ⟨b, off, e2, h2⟩ := hc (by rw [HS3.out]; omega)
      obtain rfl : A14 = some ⟨b, off, none⟩ := by rw [← e2]; injection e
      have ca := h2 0 (by rw [HS3.out]; omega)
      have h8 : (800 : Int) ≤ S3.getD 0 0 := P9.out _ (getD_mem (by rw [HS3.out]; omega))
      generalize S3.getD 0 0 = y at *
      have q8 : decide ((800 : Int) ≤ y) = true := decide_eq_true h8
      have ad1 : (⟨b, off, none⟩ : Addr).add 0 = ⟨b, off, none⟩ := by unfold Addr.add; split <;> simp_all
      rw [Nat.add_zero] at ca
      clear e hc h2 I7 h0
      go_wp2_with (go_at_call 12; refine (AW.out _).mono ?_; rintro e y8 ⟨rfl, hb⟩; have B8 := Lib.hid (below_end B7.out hb); clear hb)
      refine bodyPost_ret (v := .bool true) (by simp [results, Try.f9, go_sem]) rfl ⟨rfl, B8.out⟩
end Ytjanicngedkhnaa
end Go.Proofs
