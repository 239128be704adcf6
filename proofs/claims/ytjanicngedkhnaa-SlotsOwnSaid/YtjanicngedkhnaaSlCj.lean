/- The law of memory of its own. -/
import Derived.Test.YtjanicngedkhnaaSlCjA
namespace Go.Proofs
namespace Ytjanicngedkhnaa
open Go.RowKit

set_option maxRecDepth 100000 in
set_option maxHeartbeats 800000 in
theorem own10 (v : Value) (cs : List Int) (a : Int) (w : World) (h : IAt w v cs) :
    Calls Try.prog 10 #[.agg #[v], .int .i64 a] w fun e w' => e = .returned (.bool true) ∧ Below w.heap.size w w' := by
  have h0 := heap_alloc_new w (.cells #[v] 24)
  have hb := alloc_below w (.cells #[v] 24)
  have FA := Lib.hid (far_at h)
  have AW := Lib.hid awake12
  by_cases hf : farB cs.length = true
  · rw [hf] at FA
    obtain ⟨A, cap, rfl, -⟩ := h
    have q := (one_cell h0).1
    have B0 := Lib.hid hb
    unfold sv at *
    clear h0 hb hf
    go_enter Try.func10, Try.ntmps10
    go_wp2_with (first
      | (go_at_call 11; refine (FA.out _ B0.out).mono ?_; rintro e w1 ⟨rfl, hb⟩; have B1 := Lib.hid (below_end B0.out hb); clear hb)
      | (go_at_call 12; refine (AW.out _).mono ?_; rintro e w2 ⟨rfl, hb⟩; have B2 := Lib.hid (below_end B1.out hb); clear hb))
    refine bodyPost_ret (v := .bool true) (by simp [results, Try.f10, go_sem]) rfl ⟨rfl, B2.out⟩
  have hfn : farB cs.length = false := by simpa using hf
  have hm := far_no hfn
  have hm1 : cs.length ≤ 100000 := by omega
  rw [hfn] at FA
  obtain ⟨T, hT⟩ : ∃ T, IntKind.i64.wrap (a + 100) = T := ⟨_, rfl⟩
  obtain ⟨L1, L2, z1, z2, e1, E1, E2⟩ := add_drop_err cs a
  obtain ⟨L3, L4, z3, e2, E3, E4, EJ⟩ := purge_join_err cs a T
  have C1 := Lib.hid (fun u W (h : IAt W u cs) => (add27 u cs a W h hm1).mono fun e w' h => h.form3)
  have C2 := Lib.hid (fun u W (h : IAt W u cs) => (drop29 u cs a W h hm1).mono fun e w' h => h.form3)
  have C3 := Lib.hid (fun u W (h : IAt W u cs) => (purge35 u cs a T W h hm1).mono fun e w' h => h.form3)
  have C4 := Lib.hid (fun u W (h : IAt W u cs) => (join33 u cs u cs W h h hm1 hm1).mono fun e w' h => h.form3)
  have D1 := Lib.hid (fun u W (h : IAt W u cs) => (radd28 u cs a W h hm1).mono fun e w' h => h.form3)
  have D2 := Lib.hid (fun u W (h : IAt W u cs) => (rdrop30 u cs a W h hm1).mono fun e w' h => h.form3)
  have D3 := Lib.hid (fun u W (h : IAt W u cs) => (rpurge36 u cs a T W h hm1).mono fun e w' h => h.form3)
  have SM := Lib.hid (fun u1 u2 W (h1 : IAt W u1 cs) (h2 : IAt W u2 cs) => same_at u1 u2 cs W h1 h2 (by omega))
  have N1 := Lib.hid (show L1.length ≤ 1000000 by have := add_len2 cs a; rwa [E1] at this)
  have N2 := Lib.hid (show L2.length ≤ 1000000 by have := drop_len2 cs a; rw [E2] at this; dsimp only at this; omega)
  have N3 := Lib.hid (show L3.length ≤ 1000000 by have := purge_len2 cs a T; rw [E3] at this; dsimp only at this; omega)
  have HC := Lib.hid (show cs.length ≤ 1000000 by omega)
  have HM := Lib.hid hm1
  rw [E1] at C1 D1
  rw [E2] at C2 D2
  rw [E3] at C3 D3
  rw [E4] at C4
  dsimp only at C1 C2 C3 C4 D1 D2 D3
  have IV := Lib.hid (fun W (hb : Below w.heap.size w W) => h.below hb)
  obtain ⟨A, cap, rfl, -⟩ := h
  have B0 := Lib.hid hb
  have K0 := Lib.hid h0
  unfold sv at *
  obtain ⟨n, hn⟩ : ∃ n, cs.length = n := ⟨_, rfl⟩
  have HN := Lib.hid hn
  rw [hn] at IV FA HM ⊢
  obtain ⟨n1, hn1⟩ : ∃ n, L1.length = n := ⟨_, rfl⟩
  have HN1 := Lib.hid hn1
  rw [hn1] at C1 D1
  obtain ⟨n2, hn2⟩ : ∃ n, L2.length = n := ⟨_, rfl⟩
  have HN2 := Lib.hid hn2
  rw [hn2] at C2 D2
  obtain ⟨n3, hn3⟩ : ∃ n, L3.length = n := ⟨_, rfl⟩
  have HN3 := Lib.hid hn3
  rw [hn3] at C3 D3
  obtain ⟨n4, hn4⟩ : ∃ n, L4.length = n := ⟨_, rfl⟩
  have HN4 := Lib.hid hn4
  rw [hn4] at C4
  have EJ := Lib.hid EJ
  rw [hn] at h0 hb B0 K0
  have q := (one_cell K0.out).1
  clear h0 hb hf hfn hm hm1 E1 E2 E3 E4 hn hn1 hn2 hn3 hn4
  go_enter Try.func10, Try.ntmps10
  go_upto_region 3 with (go_at_call 11; refine (FA.out _ B0.out).mono ?_; rintro e w1 ⟨rfl, hb⟩; have B1 := Lib.hid (below_end B0.out hb); have K1 := Lib.hid (keep_heap hb K0.out); clear hb)
  clear q
  have ba := alloc_below w1 (.cells #[] 3)
  have BA := Lib.hid ba
  have BB := Lib.hid (below_end B1.out ba)
  have q := (one_cell (keep_heap ba K1.out)).1
  clear ba
  go_upto_region 4 with (at_builtin; refine push_any (w := w1) (empty_row (Below.refl _ _)) BA.out (IV.out _ BB.out) rfl _ _ rfl rfl rfl HC.out ?_; intro g cap2 W3 ho hb; rw [HN.out] at ho ⊢; have R3 := Lib.hid ho; have GZ := Lib.hid (show w.heap.size < g ∧ g < W3.heap.size by have := ho.lt g rfl; have := box_lt K1.out; omega); have B3 := Lib.hid (below_end B1.out hb); have K3 := Lib.hid (keep_heap hb K1.out); clear ho hb)
  clear q
  have ba := alloc_below W3 (.cells #[.slice (some ⟨g, 0, none⟩) n cap2] 24)
  have P0 := Lib.hid (heap_alloc_new W3 (.cells #[.slice (some ⟨g, 0, none⟩) n cap2] 24))
  obtain ⟨b0, hb0⟩ : ∃ b, W3.heap.size = b := ⟨_, rfl⟩
  rw [hb0] at P0
  try rw [hb0]
  have G0 := Lib.hid (show g < b0 by rw [← hb0]; exact (R3.out.lt g rfl).2)
  generalize W3.alloc (.cells #[.slice (some ⟨g, 0, none⟩) n cap2] 24) = X0 at *
  have B3 := Lib.hid (below_end B3.out ba)
  have K3 := Lib.hid (keep_heap ba K3.out)
  have R3 := Lib.hid (own_below R3.out ba)
  clear ba hb0
  have q := (one_cell P0.out).1
  have IU := Lib.hid (show IAt X0 (.slice (some ⟨g, 0, none⟩) n cap2) cs by have := R3.out; rw [← HN.out] at this ⊢; exact IAt.of_own this)
  have S1 := Lib.hid (show g < X0.heap.size from (R3.out.lt g rfl).2)
  go_upto_region 5 with (go_at_call 27; refine (C1.out _ _ (IU.out)).mono ?_; rintro e x1w ⟨A1, c1, rfl, hi, hb⟩; have B3 := Lib.hid (below_end B3.out hb); have K3 := Lib.hid (keep_heap hb K3.out); have R3 := Lib.hid (own_below R3.out hb); have P0 := Lib.hid (keep_heap hb P0.out); have R1r := Lib.hid hi; clear hb hi)
  clear q IU
  have ba := alloc_below x1w (.cells #[.slice A1 n1 c1] 24)
  have P1 := Lib.hid (heap_alloc_new x1w (.cells #[.slice A1 n1 c1] 24))
  obtain ⟨b1, hb1⟩ : ∃ b, x1w.heap.size = b := ⟨_, rfl⟩
  rw [hb1] at P1
  try rw [hb1]
  have G1 := Lib.hid (show g < b1 by rw [← hb1]; exact (R3.out.lt g rfl).2)
  generalize x1w.alloc (.cells #[.slice A1 n1 c1] 24) = X1 at *
  have B3 := Lib.hid (below_end B3.out ba)
  have K3 := Lib.hid (keep_heap ba K3.out)
  have R3 := Lib.hid (own_below R3.out ba)
  have P0 := Lib.hid (keep_heap ba P0.out)
  have R1r := Lib.hid (R1r.out.below ba)
  clear ba hb1
  have q := (one_cell P0.out).1
  have IU := Lib.hid (show IAt X1 (.slice (some ⟨g, 0, none⟩) n cap2) cs by have := R3.out; rw [← HN.out] at this ⊢; exact IAt.of_own this)
  have S2 := Lib.hid (show g < X1.heap.size from (R3.out.lt g rfl).2)
  go_upto_region 6 with (go_at_call 29; refine (C2.out _ _ (IU.out)).mono ?_; rintro e x2w ⟨A2, c2, rfl, hi, hb⟩; have B3 := Lib.hid (below_end B3.out hb); have K3 := Lib.hid (keep_heap hb K3.out); have R3 := Lib.hid (own_below R3.out hb); have P0 := Lib.hid (keep_heap hb P0.out); have R1r := Lib.hid (R1r.out.below hb); have P1 := Lib.hid (keep_heap hb P1.out); have R2r := Lib.hid hi; clear hb hi)
  clear q IU
  have ba := alloc_below x2w (.cells #[.slice A2 n2 c2] 24)
  have P2 := Lib.hid (heap_alloc_new x2w (.cells #[.slice A2 n2 c2] 24))
  obtain ⟨b2, hb2⟩ : ∃ b, x2w.heap.size = b := ⟨_, rfl⟩
  rw [hb2] at P2
  try rw [hb2]
  have G2 := Lib.hid (show g < b2 by rw [← hb2]; exact (R3.out.lt g rfl).2)
  generalize x2w.alloc (.cells #[.slice A2 n2 c2] 24) = X2 at *
  have B3 := Lib.hid (below_end B3.out ba)
  have K3 := Lib.hid (keep_heap ba K3.out)
  have R3 := Lib.hid (own_below R3.out ba)
  have P0 := Lib.hid (keep_heap ba P0.out)
  have R1r := Lib.hid (R1r.out.below ba)
  have P1 := Lib.hid (keep_heap ba P1.out)
  have R2r := Lib.hid (R2r.out.below ba)
  clear ba hb2
  have q := (one_cell P0.out).1
  have IU := Lib.hid (show IAt X2 (.slice (some ⟨g, 0, none⟩) n cap2) cs by have := R3.out; rw [← HN.out] at this ⊢; exact IAt.of_own this)
  have S3 := Lib.hid (show g < X2.heap.size from (R3.out.lt g rfl).2)
  go_upto_region 7 with (go_at_call 35; refine (C3.out _ _ (IU.out)).mono ?_; rintro e x3w ⟨A3, c3, rfl, hi, hb⟩; have B3 := Lib.hid (below_end B3.out hb); have K3 := Lib.hid (keep_heap hb K3.out); have R3 := Lib.hid (own_below R3.out hb); have P0 := Lib.hid (keep_heap hb P0.out); have R1r := Lib.hid (R1r.out.below hb); have P1 := Lib.hid (keep_heap hb P1.out); have R2r := Lib.hid (R2r.out.below hb); have P2 := Lib.hid (keep_heap hb P2.out); have R3r := Lib.hid hi; clear hb hi)
  clear q IU
  have ba := alloc_below x3w (.cells #[.slice A3 n3 c3] 24)
  have P3 := Lib.hid (heap_alloc_new x3w (.cells #[.slice A3 n3 c3] 24))
  obtain ⟨b3, hb3⟩ : ∃ b, x3w.heap.size = b := ⟨_, rfl⟩
  rw [hb3] at P3
  try rw [hb3]
  have G3 := Lib.hid (show g < b3 by rw [← hb3]; exact (R3.out.lt g rfl).2)
  generalize x3w.alloc (.cells #[.slice A3 n3 c3] 24) = X3 at *
  have B3 := Lib.hid (below_end B3.out ba)
  have K3 := Lib.hid (keep_heap ba K3.out)
  have R3 := Lib.hid (own_below R3.out ba)
  have P0 := Lib.hid (keep_heap ba P0.out)
  have R1r := Lib.hid (R1r.out.below ba)
  have P1 := Lib.hid (keep_heap ba P1.out)
  have R2r := Lib.hid (R2r.out.below ba)
  have P2 := Lib.hid (keep_heap ba P2.out)
  have R3r := Lib.hid (R3r.out.below ba)
  clear ba hb3
  have q := (one_cell P0.out).1
  have IU := Lib.hid (show IAt X3 (.slice (some ⟨g, 0, none⟩) n cap2) cs by have := R3.out; rw [← HN.out] at this ⊢; exact IAt.of_own this)
  have S4 := Lib.hid (show g < X3.heap.size from (R3.out.lt g rfl).2)
  go_upto_region 8 with (go_at_call 33; refine (C4.out _ _ (IU.out)).mono ?_; rintro e x4w ⟨A4, c4, rfl, hi, hb⟩; have B3 := Lib.hid (below_end B3.out hb); have K3 := Lib.hid (keep_heap hb K3.out); have R3 := Lib.hid (own_below R3.out hb); have P0 := Lib.hid (keep_heap hb P0.out); have R1r := Lib.hid (R1r.out.below hb); have P1 := Lib.hid (keep_heap hb P1.out); have R2r := Lib.hid (R2r.out.below hb); have P2 := Lib.hid (keep_heap hb P2.out); have R3r := Lib.hid (R3r.out.below hb); have P3 := Lib.hid (keep_heap hb P3.out); have R4r := Lib.hid hi; clear hb hi)
  clear q IU
  have ba := alloc_below x4w (.cells #[.slice A4 n4 c4] 24)
  have P4 := Lib.hid (heap_alloc_new x4w (.cells #[.slice A4 n4 c4] 24))
  obtain ⟨b4, hb4⟩ : ∃ b, x4w.heap.size = b := ⟨_, rfl⟩
  rw [hb4] at P4
  try rw [hb4]
  have G4 := Lib.hid (show g < b4 by rw [← hb4]; exact (R3.out.lt g rfl).2)
  generalize x4w.alloc (.cells #[.slice A4 n4 c4] 24) = X4 at *
  have B3 := Lib.hid (below_end B3.out ba)
  have K3 := Lib.hid (keep_heap ba K3.out)
  have R3 := Lib.hid (own_below R3.out ba)
  have P0 := Lib.hid (keep_heap ba P0.out)
  have R1r := Lib.hid (R1r.out.below ba)
  have P1 := Lib.hid (keep_heap ba P1.out)
  have R2r := Lib.hid (R2r.out.below ba)
  have P2 := Lib.hid (keep_heap ba P2.out)
  have R3r := Lib.hid (R3r.out.below ba)
  have P3 := Lib.hid (keep_heap ba P3.out)
  have R4r := Lib.hid (R4r.out.below ba)
  clear ba hb4
  have q := (one_cell P0.out).1
  have q2 := (one_cell K3.out).1
  have IU := Lib.hid (SM.out _ _ X4 (show IAt X4 (.slice (some ⟨g, 0, none⟩) n cap2) cs by have := R3.out; rw [← HN.out] at this ⊢; exact IAt.of_own this) (IV.out _ B3.out))
  go_upto_region 10 with (go_at_call 17; refine IU.out.mono ?_; rintro e wS ⟨rfl, hb⟩; have B3 := Lib.hid (below_end B3.out hb); have K3 := Lib.hid (keep_heap hb K3.out); have R3 := Lib.hid (own_below R3.out hb); have P0 := Lib.hid (keep_heap hb P0.out); have R1r := Lib.hid (R1r.out.below hb); have P1 := Lib.hid (keep_heap hb P1.out); have R2r := Lib.hid (R2r.out.below hb); have P2 := Lib.hid (keep_heap hb P2.out); have R3r := Lib.hid (R3r.out.below hb); have P3 := Lib.hid (keep_heap hb P3.out); have R4r := Lib.hid (R4r.out.below hb); have P4 := Lib.hid (keep_heap hb P4.out); clear hb)
  clear q q2 IU
  have q := (one_cell K3.out).1
  have S5 := Lib.hid (show g < wS.heap.size from (R3.out.lt g rfl).2)
  go_upto_region 11 with (go_at_call 28; refine (D1.out _ _ (IV.out _ B3.out)).mono ?_; rintro e x5w ⟨A5, c5, rfl, hi, hb⟩; have B3 := Lib.hid (below_end B3.out hb); have K3 := Lib.hid (keep_heap hb K3.out); have R3 := Lib.hid (own_below R3.out hb); have P0 := Lib.hid (keep_heap hb P0.out); have R1r := Lib.hid (R1r.out.below hb); have P1 := Lib.hid (keep_heap hb P1.out); have R2r := Lib.hid (R2r.out.below hb); have P2 := Lib.hid (keep_heap hb P2.out); have R3r := Lib.hid (R3r.out.below hb); have P3 := Lib.hid (keep_heap hb P3.out); have R4r := Lib.hid (R4r.out.below hb); have P4 := Lib.hid (keep_heap hb P4.out); have R5r := Lib.hid hi; clear hb hi)
  clear q
  have ba := alloc_below x5w (.cells #[.slice A5 n1 c5] 24)
  have P5 := Lib.hid (heap_alloc_new x5w (.cells #[.slice A5 n1 c5] 24))
  obtain ⟨b5, hb5⟩ : ∃ b, x5w.heap.size = b := ⟨_, rfl⟩
  rw [hb5] at P5
  try rw [hb5]
  have G5 := Lib.hid (show g < b5 by rw [← hb5]; exact (R3.out.lt g rfl).2)
  generalize x5w.alloc (.cells #[.slice A5 n1 c5] 24) = X5 at *
  have B3 := Lib.hid (below_end B3.out ba)
  have K3 := Lib.hid (keep_heap ba K3.out)
  have R3 := Lib.hid (own_below R3.out ba)
  have P0 := Lib.hid (keep_heap ba P0.out)
  have R1r := Lib.hid (R1r.out.below ba)
  have P1 := Lib.hid (keep_heap ba P1.out)
  have R2r := Lib.hid (R2r.out.below ba)
  have P2 := Lib.hid (keep_heap ba P2.out)
  have R3r := Lib.hid (R3r.out.below ba)
  have P3 := Lib.hid (keep_heap ba P3.out)
  have R4r := Lib.hid (R4r.out.below ba)
  have P4 := Lib.hid (keep_heap ba P4.out)
  have R5r := Lib.hid (R5r.out.below ba)
  clear ba hb5
  have q := (one_cell K3.out).1
  have S6 := Lib.hid (show g < X5.heap.size from (R3.out.lt g rfl).2)
  go_upto_region 12 with (go_at_call 30; refine (D2.out _ _ (IV.out _ B3.out)).mono ?_; rintro e x6w ⟨A6, c6, rfl, hi, hb⟩; have B3 := Lib.hid (below_end B3.out hb); have K3 := Lib.hid (keep_heap hb K3.out); have R3 := Lib.hid (own_below R3.out hb); have P0 := Lib.hid (keep_heap hb P0.out); have R1r := Lib.hid (R1r.out.below hb); have P1 := Lib.hid (keep_heap hb P1.out); have R2r := Lib.hid (R2r.out.below hb); have P2 := Lib.hid (keep_heap hb P2.out); have R3r := Lib.hid (R3r.out.below hb); have P3 := Lib.hid (keep_heap hb P3.out); have R4r := Lib.hid (R4r.out.below hb); have P4 := Lib.hid (keep_heap hb P4.out); have R5r := Lib.hid (R5r.out.below hb); have P5 := Lib.hid (keep_heap hb P5.out); have R6r := Lib.hid hi; clear hb hi)
  clear q
  have ba := alloc_below x6w (.cells #[.slice A6 n2 c6] 24)
  have P6 := Lib.hid (heap_alloc_new x6w (.cells #[.slice A6 n2 c6] 24))
  obtain ⟨b6, hb6⟩ : ∃ b, x6w.heap.size = b := ⟨_, rfl⟩
  rw [hb6] at P6
  try rw [hb6]
  have G6 := Lib.hid (show g < b6 by rw [← hb6]; exact (R3.out.lt g rfl).2)
  generalize x6w.alloc (.cells #[.slice A6 n2 c6] 24) = X6 at *
  have B3 := Lib.hid (below_end B3.out ba)
  have K3 := Lib.hid (keep_heap ba K3.out)
  have R3 := Lib.hid (own_below R3.out ba)
  have P0 := Lib.hid (keep_heap ba P0.out)
  have R1r := Lib.hid (R1r.out.below ba)
  have P1 := Lib.hid (keep_heap ba P1.out)
  have R2r := Lib.hid (R2r.out.below ba)
  have P2 := Lib.hid (keep_heap ba P2.out)
  have R3r := Lib.hid (R3r.out.below ba)
  have P3 := Lib.hid (keep_heap ba P3.out)
  have R4r := Lib.hid (R4r.out.below ba)
  have P4 := Lib.hid (keep_heap ba P4.out)
  have R5r := Lib.hid (R5r.out.below ba)
  have P5 := Lib.hid (keep_heap ba P5.out)
  have R6r := Lib.hid (R6r.out.below ba)
  clear ba hb6
  have q := (one_cell K3.out).1
  have S7 := Lib.hid (show g < X6.heap.size from (R3.out.lt g rfl).2)
  go_upto_region 13 with (go_at_call 36; refine (D3.out _ _ (IV.out _ B3.out)).mono ?_; rintro e x7w ⟨A7, c7, rfl, hi, hb⟩; have B3 := Lib.hid (below_end B3.out hb); have K3 := Lib.hid (keep_heap hb K3.out); have R3 := Lib.hid (own_below R3.out hb); have P0 := Lib.hid (keep_heap hb P0.out); have R1r := Lib.hid (R1r.out.below hb); have P1 := Lib.hid (keep_heap hb P1.out); have R2r := Lib.hid (R2r.out.below hb); have P2 := Lib.hid (keep_heap hb P2.out); have R3r := Lib.hid (R3r.out.below hb); have P3 := Lib.hid (keep_heap hb P3.out); have R4r := Lib.hid (R4r.out.below hb); have P4 := Lib.hid (keep_heap hb P4.out); have R5r := Lib.hid (R5r.out.below hb); have P5 := Lib.hid (keep_heap hb P5.out); have R6r := Lib.hid (R6r.out.below hb); have P6 := Lib.hid (keep_heap hb P6.out); have R7r := Lib.hid hi; clear hb hi)
  clear q
  have ba := alloc_below x7w (.cells #[.slice A7 n3 c7] 24)
  have P7 := Lib.hid (heap_alloc_new x7w (.cells #[.slice A7 n3 c7] 24))
  obtain ⟨b7, hb7⟩ : ∃ b, x7w.heap.size = b := ⟨_, rfl⟩
  rw [hb7] at P7
  try rw [hb7]
  have G7 := Lib.hid (show g < b7 by rw [← hb7]; exact (R3.out.lt g rfl).2)
  generalize x7w.alloc (.cells #[.slice A7 n3 c7] 24) = X7 at *
  have B3 := Lib.hid (below_end B3.out ba)
  have K3 := Lib.hid (keep_heap ba K3.out)
  have R3 := Lib.hid (own_below R3.out ba)
  have P0 := Lib.hid (keep_heap ba P0.out)
  have R1r := Lib.hid (R1r.out.below ba)
  have P1 := Lib.hid (keep_heap ba P1.out)
  have R2r := Lib.hid (R2r.out.below ba)
  have P2 := Lib.hid (keep_heap ba P2.out)
  have R3r := Lib.hid (R3r.out.below ba)
  have P3 := Lib.hid (keep_heap ba P3.out)
  have R4r := Lib.hid (R4r.out.below ba)
  have P4 := Lib.hid (keep_heap ba P4.out)
  have R5r := Lib.hid (R5r.out.below ba)
  have P5 := Lib.hid (keep_heap ba P5.out)
  have R6r := Lib.hid (R6r.out.below ba)
  have P6 := Lib.hid (keep_heap ba P6.out)
  have R7r := Lib.hid (R7r.out.below ba)
  clear ba hb7
  have BG := Lib.hid (show ∀ wr, X7.grownBy wr (some g) → Below w.heap.size w wr from fun wr hg => B3.out.grown hg B3.out.size (fun k hk => by injection hk with hk; have := GZ.out; omega))
  have q := (one_cell P0.out).1
  go_wp2
  go_loopw [26] (fun i wr => ∃ k : Nat, k ≤ n ∧ i = .int .i64 k ∧ Hid (∃ zs : List Int, wr.ownsRow w1.heap.size 3 1 (.slice (some ⟨g, 0, none⟩) n cap2) n (ic zs)) ∧ Hid (X7.grownBy wr (some g))) (fun i _ => n - (intOf i).toNat)
  case atStart => exact ⟨0, by omega, rfl, Lib.hid ⟨_, R3.out⟩, Lib.hid ⟨rfl, rfl, rfl, Nat.le_refl _, fun _ _ _ => rfl⟩⟩
  case round =>
    obtain ⟨k, hk, rfl, HR, HG⟩ := hrel
    have p0 := Lib.hid (box_kept P0.out HG.out (by have := G0.out; omega))
    clear q
    by_cases hlt : k < n
    · have hlt' : (k : Int) < (n : Int) := by omega
      have q := (one_cell p0.out).1
      have hmn := HM.out
      have hz := HR.out
      obtain ⟨zs, hz⟩ := hz
      obtain ⟨c1, f1⟩ := own_cell hz hlt
      have HZ := Lib.hid (own_put hz k (-7))
      have HG2 := Lib.hid (HG.out.trans (grown_set wr g k (.int .i64 (-7))))
      have ad1 : (⟨g, 0, none⟩ : Addr).add k = ⟨g, k, none⟩ := by unfold Addr.add; split <;> simp_all
      clear hz
      go_wp2
      refine ⟨⟨k + 1, by omega, by simp, Lib.hid ⟨_, HZ.out⟩, HG2⟩, ?_⟩
      show n - ((k : Int) + 1).toNat < n - ((k : Int)).toNat
      omega
    · have hlt' : ¬ (k : Int) < (n : Int) := by omega
      have q := (one_cell p0.out).1
      have P1 := Lib.hid (box_kept P1.out HG.out (by have := G1.out; omega))
      have R1r := Lib.hid (row_kept R1r.out HG.out S1.out)
      have P2 := Lib.hid (box_kept P2.out HG.out (by have := G2.out; omega))
      have R2r := Lib.hid (row_kept R2r.out HG.out S2.out)
      have P3 := Lib.hid (box_kept P3.out HG.out (by have := G3.out; omega))
      have R3r := Lib.hid (row_kept R3r.out HG.out S3.out)
      have P4 := Lib.hid (box_kept P4.out HG.out (by have := G4.out; omega))
      have R4r := Lib.hid (row_kept R4r.out HG.out S4.out)
      have P5 := Lib.hid (box_kept P5.out HG.out (by have := G5.out; omega))
      have R5r := Lib.hid (row_kept R5r.out HG.out S5.out)
      have P6 := Lib.hid (box_kept P6.out HG.out (by have := G6.out; omega))
      have R6r := Lib.hid (row_kept R6r.out HG.out S6.out)
      have P7 := Lib.hid (box_kept P7.out HG.out (by have := G7.out; omega))
      have R7r := Lib.hid (row_kept R7r.out HG.out S7.out)
      have K3 := Lib.hid (box_kept K3.out HG.out (by have := GZ.out; omega))
      have B3 := Lib.hid (BG.out _ HG.out)
      clear R3 p0 HR HG BG P0
      have r1 := (one_cell P1.out).1
      have r5 := (one_cell P5.out).1
      have SA := Lib.hid (same_at _ _ L1 _ R1r.out.iat R5r.out.iat (by exact N1.out))
      go_wp2_with fail
      refine SA.out.mono ?_
      rintro e y1 ⟨rfl, hb⟩
      have B3 := Lib.hid (below_end B3.out hb)
      have K3 := Lib.hid (keep_heap hb K3.out)
      have P2 := Lib.hid (keep_heap hb P2.out)
      have P3 := Lib.hid (keep_heap hb P3.out)
      have P4 := Lib.hid (keep_heap hb P4.out)
      have P6 := Lib.hid (keep_heap hb P6.out)
      have P7 := Lib.hid (keep_heap hb P7.out)
      have R2r := Lib.hid (R2r.out.below hb)
      have R3r := Lib.hid (R3r.out.below hb)
      have R4r := Lib.hid (R4r.out.below hb)
      have R6r := Lib.hid (R6r.out.below hb)
      have R7r := Lib.hid (R7r.out.below hb)
      clear hb r1 r5 SA q
      have r2 := (one_cell P2.out).1
      have r6 := (one_cell P6.out).1
      have SA := Lib.hid (same_at _ _ L2 _ R2r.out.iat R6r.out.iat N2.out)
      go_wp2_with fail
      refine SA.out.mono ?_
      rintro e y2 ⟨rfl, hb⟩
      have B3 := Lib.hid (below_end B3.out hb)
      have K3 := Lib.hid (keep_heap hb K3.out)
      have P3 := Lib.hid (keep_heap hb P3.out)
      have P4 := Lib.hid (keep_heap hb P4.out)
      have P7 := Lib.hid (keep_heap hb P7.out)
      have R3r := Lib.hid (R3r.out.below hb)
      have R4r := Lib.hid (R4r.out.below hb)
      have R7r := Lib.hid (R7r.out.below hb)
      clear hb r2 r6 SA
      have r3 := (one_cell P3.out).1
      have r7 := (one_cell P7.out).1
      have SA := Lib.hid (same_at _ _ L3 _ R3r.out.iat R7r.out.iat N3.out)
      go_wp2_with fail
      refine SA.out.mono ?_
      rintro e y3 ⟨rfl, hb⟩
      have B3 := Lib.hid (below_end B3.out hb)
      have K3 := Lib.hid (keep_heap hb K3.out)
      have P4 := Lib.hid (keep_heap hb P4.out)
      have R4r := Lib.hid (R4r.out.below hb)
      clear hb r3 r7 SA
      by_cases he : e2 = 0
      rotate_left
      · have q3 : (e2 == 0) = false := by simpa using he
        have q3b : (e2 != 0) = true := by simpa using he
        go_wp2_with (go_at_call 12; refine (AW.out _).mono ?_; rintro e y4 ⟨rfl, hb⟩; have B4 := Lib.hid (below_end B3.out hb); clear hb)
        refine bodyPost_ret (v := .bool true) (by simp [results, Try.f10, go_sem]) rfl ⟨rfl, B4.out⟩
      subst he
      have ej := Lib.hid (show L4 = cs by rcases EJ.out with h | h; exact absurd rfl h; exact h)
      have r4 := (one_cell P4.out).1
      have r0 := (one_cell K3.out).1
      have SA := Lib.hid (SM.out _ _ _ (by rw [← ej.out]; exact R4r.out.iat) (IV.out _ B3.out))
      go_wp2_with fail
      refine SA.out.mono ?_
      rintro e y4 ⟨rfl, hb⟩
      have B3 := Lib.hid (below_end B3.out hb)
      clear hb r4 r0 SA
      go_wp2_with (go_at_call 12; refine (AW.out _).mono ?_; rintro e y5 ⟨rfl, hb⟩; have B4 := Lib.hid (below_end B3.out hb); clear hb)
      refine bodyPost_ret (v := .bool true) (by simp [results, Try.f10, go_sem]) rfl ⟨rfl, B4.out⟩
end Ytjanicngedkhnaa
end Go.Proofs
