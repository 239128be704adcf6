/- awake: the document's examples hold. -/
import Derived.Test.YtjkphacidpongaaSlCa
namespace Go.Proofs
namespace Ytjkphacidpongaa
open Go.RowKit

theorem lit_at {W : World} {g : Nat} (zs : List Int) (n : Nat) (hn : zs.length = n) (h : W.heap[g]? = some (.cells (ic zs).toArray 3 (0, 0))) : IAt W (.slice (some ⟨g, 0, none⟩) n n) zs := by subst hn; exact IAt.row h
theorem SeAns.form {w w' : World} {L : List Int} {n : Nat} {c : Int} {e : Ending} (hn : L.length = n) (h : SeAns w (L, c) e w') : ∃ A cp, e = .returned (.tuple #[.agg #[.slice A n cp], .int .i64 c]) ∧ IAt w' (.slice A n cp) L ∧ Below w.heap.size w w' := by
  subst hn
  obtain ⟨v, h1, h2, h3⟩ := h
  obtain ⟨A, cp, rfl⟩ := own_form h2
  exact ⟨A, cp, h1, IAt.of_own h2, h3⟩
theorem SbAns.form {w w' : World} {L : List Int} {n : Nat} {b : Bool} {c : Int} {e : Ending} (hn : L.length = n) (h : SbAns w (L, b, c) e w') : ∃ A cp, e = .returned (.tuple #[.agg #[.slice A n cp], .bool b, .int .i64 c]) ∧ IAt w' (.slice A n cp) L ∧ Below w.heap.size w w' := by
  subst hn
  obtain ⟨v, h1, h2, h3⟩ := h
  obtain ⟨A, cp, rfl⟩ := own_form h2
  exact ⟨A, cp, h1, IAt.of_own h2, h3⟩
set_option maxRecDepth 100000 in
set_option maxHeartbeats 1000000 in
theorem awake12 (w : World) : Calls Try.prog 7 #[] w fun e w' => e = .returned (.bool true) ∧ Below w.heap.size w w' := by
  have F1 := Lib.hid (fun W u (h : IAt W u [1, 2]) => (of31 u [1, 2] W h (by decide)).mono fun e w' h => SeAns.form (n := 8) (L := [0, 0, 0, 0, 0, 0, 2, 1]) rfl (by rw [k_1] at h; exact h))
  have F2 := Lib.hid (fun W u (h : IAt W u [1, 9]) => (of31 u [1, 9] W h (by decide)).mono fun e w' h => SeAns.form (n := 8) (L := [9, 0, 0, 0, 0, 0, 0, 1]) rfl (by rw [k_2] at h; exact h))
  have F3 := Lib.hid (fun W u (h : IAt W u [9, 0, 0, 0, 0, 0, 0, 1]) => (drop29 u _ 1 W h (by decide)).mono fun e w' h => SbAns.form (n := 8) (L := [9, 0, 0, 0, 0, 0, 0, -1]) rfl (by rw [k_3] at h; exact h))
  have F4 := Lib.hid (fun W u (h : IAt W u [9, 0, 0, 0, 0, 0, 0, -1]) => (add27 u _ 17 W h (by decide)).mono fun e w' h => SbAns.form (n := 8) (L := [9, 0, 0, 0, 0, 0, 0, 17]) rfl (by rw [k_4] at h; exact h))
  have F5 := Lib.hid (fun W u (h : IAt W u [1, 2, 3, 4, 5, 6, 7]) => (of31 u [1, 2, 3, 4, 5, 6, 7] W h (by decide)).mono fun e w' h => SeAns.form (n := 16) (L := (ofA [1, 2, 3, 4, 5, 6, 7]).1) (c := 0) k_5.1 (by rw [show ofA [1, 2, 3, 4, 5, 6, 7] = ((ofA [1, 2, 3, 4, 5, 6, 7]).1, 0) from Prod.ext rfl k_5.2] at h; exact h))
  have F6 := Lib.hid (fun W u (h : IAt W u [0, 0, 0, 0, 0, 0, 2, 1]) => (add27 u _ 0 W h (by decide)).mono fun e w' h => SbAns.form (n := 0) (L := []) rfl (by rw [k_6] at h; exact h))
  have F7 := Lib.hid (fun W u (h : IAt W u (List.replicate 9 0)) => (check13 u _ W h (by decide)).mono fun e w' h => (show e = Ending.returned (.tuple #[.int .i64 (-1), .int .i64 6]) ∧ Below W.heap.size W w' by rw [k_7] at h; exact h))
  have I1 := Lib.hid (fun W u v (L : List Int) (hl : L.length ≤ 1000000) (h : IAt W u L) (h2 : IAt W v L) => (rints24 u v L L hl W h h2).mono fun e w' h => (show e = Ending.returned (.bool true) ∧ Below W.heap.size W w' by rw [decide_eq_true rfl] at h; exact h))
  have B0 := Lib.hid (Below.refl w.heap.size w)
  go_enter Try.func7, Try.ntmps7
  have ba := alloc_below w (.cells (ic [1, 2]).toArray 3)
  have ha := lit_at [1, 2] _ rfl (heap_alloc_new w (.cells (ic [1, 2]).toArray 3))
  have B1 := Lib.hid (below_end B0.out ba)
  have HA := Lib.hid ha
  clear ha ba
  go_upto_region 2 with (go_at_call 32; refine (F1.out _ _ HA.out).mono ?_; rintro e w1 ⟨A1, c1, rfl, hi, hb⟩; have B2 := Lib.hid (below_end B1.out hb); have R1 := Lib.hid hi; clear hi hb)
  have ba := alloc_below w1 (.cells #[.slice A1 8 c1] 26)
  have K1 := Lib.hid (heap_alloc_new w1 (.cells #[.slice A1 8 c1] 26))
  have B3 := Lib.hid (below_end B2.out ba)
  have R1 := Lib.hid (R1.out.below ba)
  obtain ⟨b1, hb1⟩ : ∃ b, w1.heap.size = b := ⟨_, rfl⟩
  rw [hb1] at K1
  try rw [hb1]
  generalize w1.alloc (.cells #[.slice A1 8 c1] 26) = X1 at *
  clear ba
  have ba := alloc_below X1 (.cells (ic [1, 9]).toArray 3)
  have ha := lit_at [1, 9] _ rfl (heap_alloc_new X1 (.cells (ic [1, 9]).toArray 3))
  have B4 := Lib.hid (below_end B3.out ba); have K1 := Lib.hid (keep_heap ba K1.out); have R1 := Lib.hid (R1.out.below ba)
  have HA := Lib.hid ha
  clear ha ba
  go_upto_region 3 with (go_at_call 32; refine (F2.out _ _ HA.out).mono ?_; rintro e w3 ⟨A3, c3, rfl, hi, hb⟩; have B5 := Lib.hid (below_end B4.out hb); have K1 := Lib.hid (keep_heap hb K1.out); have R1 := Lib.hid (R1.out.below hb); have R3 := Lib.hid hi; clear hi hb)
  have ba := alloc_below w3 (.cells #[.slice A3 8 c3] 26)
  have K3 := Lib.hid (heap_alloc_new w3 (.cells #[.slice A3 8 c3] 26))
  have B6 := Lib.hid (below_end B5.out ba); have K1 := Lib.hid (keep_heap ba K1.out); have R1 := Lib.hid (R1.out.below ba)
  have R3 := Lib.hid (R3.out.below ba)
  obtain ⟨b3, hb3⟩ : ∃ b, w3.heap.size = b := ⟨_, rfl⟩
  rw [hb3] at K3
  try rw [hb3]
  generalize w3.alloc (.cells #[.slice A3 8 c3] 26) = X3 at *
  clear ba
  have q := (one_cell K3.out).1
  go_upto_region 4 with (go_at_call 9; refine (F3.out _ _ R3.out).mono ?_; rintro e w5 ⟨A5, c5, rfl, hi, hb⟩; have B7 := Lib.hid (below_end B6.out hb); have K1 := Lib.hid (keep_heap hb K1.out); have K3 := Lib.hid (keep_heap hb K3.out); have R1 := Lib.hid (R1.out.below hb); have R3 := Lib.hid (R3.out.below hb); have R5 := Lib.hid hi; clear hi hb)
  clear q
  have ba := alloc_below w5 (.cells #[.slice A5 8 c5] 26)
  have K5 := Lib.hid (heap_alloc_new w5 (.cells #[.slice A5 8 c5] 26))
  have B8 := Lib.hid (below_end B7.out ba); have K1 := Lib.hid (keep_heap ba K1.out); have K3 := Lib.hid (keep_heap ba K3.out); have R1 := Lib.hid (R1.out.below ba); have R3 := Lib.hid (R3.out.below ba)
  have R5 := Lib.hid (R5.out.below ba)
  obtain ⟨b5, hb5⟩ : ∃ b, w5.heap.size = b := ⟨_, rfl⟩
  rw [hb5] at K5
  try rw [hb5]
  generalize w5.alloc (.cells #[.slice A5 8 c5] 26) = X5 at *
  clear ba
  have q := (one_cell K5.out).1
  go_upto_region 5 with (go_at_call 10; refine (F4.out _ _ R5.out).mono ?_; rintro e w8 ⟨A8, c8, rfl, hi, hb⟩; have B9 := Lib.hid (below_end B8.out hb); have K1 := Lib.hid (keep_heap hb K1.out); have K3 := Lib.hid (keep_heap hb K3.out); have K5 := Lib.hid (keep_heap hb K5.out); have R1 := Lib.hid (R1.out.below hb); have R3 := Lib.hid (R3.out.below hb); have R5 := Lib.hid (R5.out.below hb); have R8 := Lib.hid hi; clear hi hb)
  clear q
  have ba := alloc_below w8 (.cells #[.slice A8 8 c8] 26)
  have K8 := Lib.hid (heap_alloc_new w8 (.cells #[.slice A8 8 c8] 26))
  have B10 := Lib.hid (below_end B9.out ba); have K1 := Lib.hid (keep_heap ba K1.out); have K3 := Lib.hid (keep_heap ba K3.out); have K5 := Lib.hid (keep_heap ba K5.out); have R1 := Lib.hid (R1.out.below ba); have R3 := Lib.hid (R3.out.below ba); have R5 := Lib.hid (R5.out.below ba)
  have R8 := Lib.hid (R8.out.below ba)
  obtain ⟨b8, hb8⟩ : ∃ b, w8.heap.size = b := ⟨_, rfl⟩
  rw [hb8] at K8
  try rw [hb8]
  generalize w8.alloc (.cells #[.slice A8 8 c8] 26) = X8 at *
  clear ba
  have ba := alloc_below X8 (.cells (ic [1, 2, 3, 4, 5, 6, 7]).toArray 3)
  have ha := lit_at [1, 2, 3, 4, 5, 6, 7] _ rfl (heap_alloc_new X8 (.cells (ic [1, 2, 3, 4, 5, 6, 7]).toArray 3))
  have B11 := Lib.hid (below_end B10.out ba); have K1 := Lib.hid (keep_heap ba K1.out); have K3 := Lib.hid (keep_heap ba K3.out); have K5 := Lib.hid (keep_heap ba K5.out); have K8 := Lib.hid (keep_heap ba K8.out); have R1 := Lib.hid (R1.out.below ba); have R3 := Lib.hid (R3.out.below ba); have R5 := Lib.hid (R5.out.below ba); have R8 := Lib.hid (R8.out.below ba)
  have HA := Lib.hid ha
  clear ha ba
  go_upto_region 6 with (go_at_call 32; refine (F5.out _ _ HA.out).mono ?_; rintro e w11 ⟨A11, c11, rfl, hi, hb⟩; have B12 := Lib.hid (below_end B11.out hb); have K1 := Lib.hid (keep_heap hb K1.out); have K3 := Lib.hid (keep_heap hb K3.out); have K5 := Lib.hid (keep_heap hb K5.out); have K8 := Lib.hid (keep_heap hb K8.out); have R1 := Lib.hid (R1.out.below hb); have R3 := Lib.hid (R3.out.below hb); have R5 := Lib.hid (R5.out.below hb); have R8 := Lib.hid (R8.out.below hb); have R11 := Lib.hid hi; clear hi hb)
  have ba := alloc_below w11 (.cells #[.slice A11 16 c11] 26)
  have K11 := Lib.hid (heap_alloc_new w11 (.cells #[.slice A11 16 c11] 26))
  have B13 := Lib.hid (below_end B12.out ba); have K1 := Lib.hid (keep_heap ba K1.out); have K3 := Lib.hid (keep_heap ba K3.out); have K5 := Lib.hid (keep_heap ba K5.out); have K8 := Lib.hid (keep_heap ba K8.out); have R1 := Lib.hid (R1.out.below ba); have R3 := Lib.hid (R3.out.below ba); have R5 := Lib.hid (R5.out.below ba); have R8 := Lib.hid (R8.out.below ba)
  have R11 := Lib.hid (R11.out.below ba)
  obtain ⟨b11, hb11⟩ : ∃ b, w11.heap.size = b := ⟨_, rfl⟩
  rw [hb11] at K11
  try rw [hb11]
  generalize w11.alloc (.cells #[.slice A11 16 c11] 26) = X11 at *
  clear ba
  have q := (one_cell K1.out).1
  go_upto_region 7 with (go_at_call 10; refine (F6.out _ _ R1.out).mono ?_; rintro e w13 ⟨A13, c13, rfl, hi, hb⟩; have B14 := Lib.hid (below_end B13.out hb); have K1 := Lib.hid (keep_heap hb K1.out); have K3 := Lib.hid (keep_heap hb K3.out); have K5 := Lib.hid (keep_heap hb K5.out); have K8 := Lib.hid (keep_heap hb K8.out); have K11 := Lib.hid (keep_heap hb K11.out); have R1 := Lib.hid (R1.out.below hb); have R3 := Lib.hid (R3.out.below hb); have R5 := Lib.hid (R5.out.below hb); have R8 := Lib.hid (R8.out.below hb); have R11 := Lib.hid (R11.out.below hb); have R13 := Lib.hid hi; clear hi hb)
  clear q
  have ba := alloc_below w13 (.cells #[.slice A13 0 c13] 26)
  have K13 := Lib.hid (heap_alloc_new w13 (.cells #[.slice A13 0 c13] 26))
  have B15 := Lib.hid (below_end B14.out ba); have K1 := Lib.hid (keep_heap ba K1.out); have K3 := Lib.hid (keep_heap ba K3.out); have K5 := Lib.hid (keep_heap ba K5.out); have K8 := Lib.hid (keep_heap ba K8.out); have K11 := Lib.hid (keep_heap ba K11.out); have R1 := Lib.hid (R1.out.below ba); have R3 := Lib.hid (R3.out.below ba); have R5 := Lib.hid (R5.out.below ba); have R8 := Lib.hid (R8.out.below ba); have R11 := Lib.hid (R11.out.below ba)
  have R13 := Lib.hid (R13.out.below ba)
  obtain ⟨b13, hb13⟩ : ∃ b, w13.heap.size = b := ⟨_, rfl⟩
  rw [hb13] at K13
  try rw [hb13]
  generalize w13.alloc (.cells #[.slice A13 0 c13] 26) = X13 at *
  clear ba
  have hmk : (Instr.makeSlice 24 (.int .i64 9) (.int .i64 9)).run Try.prog X13 = .ok (.slice (some ⟨X13.heap.size, 0, none⟩) 9 9) (X13.alloc (.cells (ic (List.replicate 9 0)).toArray 3)) := mk_int Try.underlying24 9 (by omega) X13
  have ba := alloc_below X13 (.cells (ic (List.replicate 9 0)).toArray 3)
  have HA := Lib.hid (lit_at (List.replicate 9 0) 9 rfl (heap_alloc_new X13 (.cells (ic (List.replicate 9 0)).toArray 3)))
  have B16 := Lib.hid (below_end B15.out ba); have K1 := Lib.hid (keep_heap ba K1.out); have K3 := Lib.hid (keep_heap ba K3.out); have K5 := Lib.hid (keep_heap ba K5.out); have K8 := Lib.hid (keep_heap ba K8.out); have K11 := Lib.hid (keep_heap ba K11.out); have K13 := Lib.hid (keep_heap ba K13.out); have R1 := Lib.hid (R1.out.below ba); have R3 := Lib.hid (R3.out.below ba); have R5 := Lib.hid (R5.out.below ba); have R8 := Lib.hid (R8.out.below ba); have R11 := Lib.hid (R11.out.below ba); have R13 := Lib.hid (R13.out.below ba)
  clear ba
  have Z0 := Lib.hid trivial
  go_wp2_with (go_at_call 33; refine (F7.out _ _ HA.out).mono ?_; rintro e y0 ⟨rfl, hb⟩; have B17 := Lib.hid (below_end B16.out hb); have K1 := Lib.hid (keep_heap hb K1.out); have K3 := Lib.hid (keep_heap hb K3.out); have K5 := Lib.hid (keep_heap hb K5.out); have K8 := Lib.hid (keep_heap hb K8.out); have K11 := Lib.hid (keep_heap hb K11.out); have K13 := Lib.hid (keep_heap hb K13.out); have R1 := Lib.hid (R1.out.below hb); have R3 := Lib.hid (R3.out.below hb); have R5 := Lib.hid (R5.out.below hb); have R8 := Lib.hid (R8.out.below hb); have R11 := Lib.hid (R11.out.below hb); have R13 := Lib.hid (R13.out.below hb); have q1 := (one_cell K1.out).1; clear hb)
  have z := Z0.out; have ba := alloc_below y0 (.cells (ic [0, 0, 0, 0, 0, 0, 2, 1]).toArray 3); have h1 := R1.out.below ba; have h2 := lit_at [0, 0, 0, 0, 0, 0, 2, 1] 8 rfl (heap_alloc_new y0 (.cells (ic [0, 0, 0, 0, 0, 0, 2, 1]).toArray 3)); refine (I1.out _ _ _ [0, 0, 0, 0, 0, 0, 2, 1] (by decide) h1 h2).mono ?_; rintro e y1 ⟨rfl, hb⟩; have B18 := Lib.hid (below_end B17.out ba); have K1 := Lib.hid (keep_heap ba K1.out); have K3 := Lib.hid (keep_heap ba K3.out); have K5 := Lib.hid (keep_heap ba K5.out); have K8 := Lib.hid (keep_heap ba K8.out); have K11 := Lib.hid (keep_heap ba K11.out); have K13 := Lib.hid (keep_heap ba K13.out); have R1 := Lib.hid (R1.out.below ba); have R3 := Lib.hid (R3.out.below ba); have R5 := Lib.hid (R5.out.below ba); have R8 := Lib.hid (R8.out.below ba); have R11 := Lib.hid (R11.out.below ba); have R13 := Lib.hid (R13.out.below ba); have B19 := Lib.hid (below_end B18.out hb); have K1 := Lib.hid (keep_heap hb K1.out); have K3 := Lib.hid (keep_heap hb K3.out); have K5 := Lib.hid (keep_heap hb K5.out); have K8 := Lib.hid (keep_heap hb K8.out); have K11 := Lib.hid (keep_heap hb K11.out); have K13 := Lib.hid (keep_heap hb K13.out); have R1 := Lib.hid (R1.out.below hb); have R3 := Lib.hid (R3.out.below hb); have R5 := Lib.hid (R5.out.below hb); have R8 := Lib.hid (R8.out.below hb); have R11 := Lib.hid (R11.out.below hb); have R13 := Lib.hid (R13.out.below hb); have q3 := (one_cell K3.out).1; have Z1 := Lib.hid trivial; clear hb ba h1 h2 Z0 z
  go_wp2_with fail
  have z := Z1.out; have ba := alloc_below y1 (.cells (ic [9, 0, 0, 0, 0, 0, 0, 1]).toArray 3); have h1 := R3.out.below ba; have h2 := lit_at [9, 0, 0, 0, 0, 0, 0, 1] 8 rfl (heap_alloc_new y1 (.cells (ic [9, 0, 0, 0, 0, 0, 0, 1]).toArray 3)); refine (I1.out _ _ _ [9, 0, 0, 0, 0, 0, 0, 1] (by decide) h1 h2).mono ?_; rintro e y2 ⟨rfl, hb⟩; have B20 := Lib.hid (below_end B19.out ba); have K1 := Lib.hid (keep_heap ba K1.out); have K3 := Lib.hid (keep_heap ba K3.out); have K5 := Lib.hid (keep_heap ba K5.out); have K8 := Lib.hid (keep_heap ba K8.out); have K11 := Lib.hid (keep_heap ba K11.out); have K13 := Lib.hid (keep_heap ba K13.out); have R1 := Lib.hid (R1.out.below ba); have R3 := Lib.hid (R3.out.below ba); have R5 := Lib.hid (R5.out.below ba); have R8 := Lib.hid (R8.out.below ba); have R11 := Lib.hid (R11.out.below ba); have R13 := Lib.hid (R13.out.below ba); have B21 := Lib.hid (below_end B20.out hb); have K1 := Lib.hid (keep_heap hb K1.out); have K3 := Lib.hid (keep_heap hb K3.out); have K5 := Lib.hid (keep_heap hb K5.out); have K8 := Lib.hid (keep_heap hb K8.out); have K11 := Lib.hid (keep_heap hb K11.out); have K13 := Lib.hid (keep_heap hb K13.out); have R1 := Lib.hid (R1.out.below hb); have R3 := Lib.hid (R3.out.below hb); have R5 := Lib.hid (R5.out.below hb); have R8 := Lib.hid (R8.out.below hb); have R11 := Lib.hid (R11.out.below hb); have R13 := Lib.hid (R13.out.below hb); have q5 := (one_cell K5.out).1; have Z2 := Lib.hid trivial; clear hb ba h1 h2 Z1 z
  go_wp2_with fail
  have z := Z2.out; have ba := alloc_below y2 (.cells (ic [9, 0, 0, 0, 0, 0, 0, -1]).toArray 3); have h1 := R5.out.below ba; have h2 := lit_at [9, 0, 0, 0, 0, 0, 0, -1] 8 rfl (heap_alloc_new y2 (.cells (ic [9, 0, 0, 0, 0, 0, 0, -1]).toArray 3)); refine (I1.out _ _ _ [9, 0, 0, 0, 0, 0, 0, -1] (by decide) h1 h2).mono ?_; rintro e y3 ⟨rfl, hb⟩; have B22 := Lib.hid (below_end B21.out ba); have K1 := Lib.hid (keep_heap ba K1.out); have K3 := Lib.hid (keep_heap ba K3.out); have K5 := Lib.hid (keep_heap ba K5.out); have K8 := Lib.hid (keep_heap ba K8.out); have K11 := Lib.hid (keep_heap ba K11.out); have K13 := Lib.hid (keep_heap ba K13.out); have R1 := Lib.hid (R1.out.below ba); have R3 := Lib.hid (R3.out.below ba); have R5 := Lib.hid (R5.out.below ba); have R8 := Lib.hid (R8.out.below ba); have R11 := Lib.hid (R11.out.below ba); have R13 := Lib.hid (R13.out.below ba); have B23 := Lib.hid (below_end B22.out hb); have K1 := Lib.hid (keep_heap hb K1.out); have K3 := Lib.hid (keep_heap hb K3.out); have K5 := Lib.hid (keep_heap hb K5.out); have K8 := Lib.hid (keep_heap hb K8.out); have K11 := Lib.hid (keep_heap hb K11.out); have K13 := Lib.hid (keep_heap hb K13.out); have R1 := Lib.hid (R1.out.below hb); have R3 := Lib.hid (R3.out.below hb); have R5 := Lib.hid (R5.out.below hb); have R8 := Lib.hid (R8.out.below hb); have R11 := Lib.hid (R11.out.below hb); have R13 := Lib.hid (R13.out.below hb); have q8 := (one_cell K8.out).1; have Z3 := Lib.hid trivial; clear hb ba h1 h2 Z2 z
  go_wp2_with fail
  have z := Z3.out; have ba := alloc_below y3 (.cells (ic [9, 0, 0, 0, 0, 0, 0, 17]).toArray 3); have h1 := R8.out.below ba; have h2 := lit_at [9, 0, 0, 0, 0, 0, 0, 17] 8 rfl (heap_alloc_new y3 (.cells (ic [9, 0, 0, 0, 0, 0, 0, 17]).toArray 3)); refine (I1.out _ _ _ [9, 0, 0, 0, 0, 0, 0, 17] (by decide) h1 h2).mono ?_; rintro e y4 ⟨rfl, hb⟩; have B24 := Lib.hid (below_end B23.out ba); have K1 := Lib.hid (keep_heap ba K1.out); have K3 := Lib.hid (keep_heap ba K3.out); have K5 := Lib.hid (keep_heap ba K5.out); have K8 := Lib.hid (keep_heap ba K8.out); have K11 := Lib.hid (keep_heap ba K11.out); have K13 := Lib.hid (keep_heap ba K13.out); have R1 := Lib.hid (R1.out.below ba); have R3 := Lib.hid (R3.out.below ba); have R5 := Lib.hid (R5.out.below ba); have R8 := Lib.hid (R8.out.below ba); have R11 := Lib.hid (R11.out.below ba); have R13 := Lib.hid (R13.out.below ba); have B25 := Lib.hid (below_end B24.out hb); have K1 := Lib.hid (keep_heap hb K1.out); have K3 := Lib.hid (keep_heap hb K3.out); have K5 := Lib.hid (keep_heap hb K5.out); have K8 := Lib.hid (keep_heap hb K8.out); have K11 := Lib.hid (keep_heap hb K11.out); have K13 := Lib.hid (keep_heap hb K13.out); have R1 := Lib.hid (R1.out.below hb); have R3 := Lib.hid (R3.out.below hb); have R5 := Lib.hid (R5.out.below hb); have R8 := Lib.hid (R8.out.below hb); have R11 := Lib.hid (R11.out.below hb); have R13 := Lib.hid (R13.out.below hb); have q11 := (one_cell K11.out).1; have Z4 := Lib.hid trivial; clear hb ba h1 h2 Z3 z
  go_wp2_with fail
  refine bodyPost_ret (v := .bool true) (by simp [results, Try.f7, go_sem]) rfl ⟨rfl, B25.out⟩
end Ytjkphacidpongaa
end Go.Proofs
