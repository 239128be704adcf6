/- awake: the document's examples hold. -/
import Derived.Test.YtjkphacidpongaaGreatQRmN
namespace Go.Proofs
namespace YtjkphacidpongaaGreat
open Go.RowKit

theorem lit_one {W : World} {g : Nat} (x : Int) (h : W.heap[g]? = some (.cells #[.int .i64 x] 3 (0, 0))) : IAt W (.slice (some ⟨g, 0, none⟩) 1 1) [x] := IAt.row (zs := [x]) h
theorem LiAns.form1 {w w' : World} {R : List Int × Int} {L : List Int} {c : Int} {e : Ending} (hR : R = (L, c)) (h : LiAns w R e w') : ∃ A cp, e = .returned (.tuple #[.slice A L.length cp, .int .i64 c]) ∧ IAt w' (.slice A L.length cp) L ∧ Below w.heap.size w w' := by
  subst hR
  obtain ⟨v, rfl, ho, hb⟩ := h
  have hi := IAt.of_own ho
  obtain ⟨A, cp, rfl, -⟩ := hi
  exact ⟨A, cp, rfl, IAt.of_own ho, hb⟩
set_option maxRecDepth 100000 in
set_option maxHeartbeats 4000000 in
theorem awake16 (w : World) : Calls Tryz.prog 9 #[] w fun e w' => e = .returned (.bool true) ∧ Below w.heap.size w w' := by
  obtain ⟨n1, n2, n3⟩ := x_new
  obtain ⟨a1, a2, a3, a4⟩ := x_1
  obtain ⟨b1, b2, b3, b4⟩ := x_2
  obtain ⟨c1, c2, c3, c4⟩ := x_3
  obtain ⟨d1, d2, d3, d4⟩ := x_4
  have e1 := x_5
  have hT0 : ∀ j, j ≤ 7 → (T0 j).length ≤ 100000 := fun _ _ => (by decide : newF.length ≤ 100000)
  have CN := Lib.hid (fun W => (show Calls Tryz.prog 10 #[.agg #[.int .i64 8, .int .i64 7, .int .i64 4, .int .i64 1, .int .i64 2]] W fun e w' => RsAns W 7 T0 0 e w' by have := new27 8 7 4 1 2 W; rw [n1, n2, n3] at this; exact this))
  obtain ⟨T3, hT3⟩ : ∃ T, (recF 8 7 4 1 2 7 T0 6 13).2.1 = T := ⟨_, rfl⟩
  obtain ⟨T5, hT5⟩ : ∃ T, (recF 8 7 4 1 2 7 T0 6 7).2.1 = T := ⟨_, rfl⟩
  obtain ⟨T7, hT7⟩ : ∃ T, (recF 8 7 4 1 2 7 T0 6 1).2.1 = T := ⟨_, rfl⟩
  rw [hT3] at a3 a4 d1 d2 d3 d4
  rw [hT5] at b3 b4
  rw [hT7] at c3 c4
  obtain ⟨T9, hT9⟩ : ∃ T, (stoF 8 7 4 1 2 7 T3 6 13 21).2.1 = T := ⟨_, rfl⟩
  rw [hT9] at d3 d4
  obtain ⟨T11, hT11⟩ : ∃ T, (recF 8 7 4 1 2 7 T0 6 61).2.1 = T := ⟨_, rfl⟩
  obtain ⟨n11, hn11⟩ : ∃ n, (recF 8 7 4 1 2 7 T0 6 61).1 = n := ⟨_, rfl⟩
  have CR3 := Lib.hid (fun A nv U W (h : RS W A nv 7 U T0) => (show Calls Tryz.prog 17 #[.agg #[.int .i64 8, .int .i64 7, .int .i64 4, .int .i64 1, .int .i64 2], .agg #[A, nv], .int .i64 6, .int .i64 13] W fun e w' => RsAns W 7 T3 0 e w' by have := record19 8 7 4 1 2 A nv 7 U T0 6 13 W h hT0; rw [a1, a2, hT3] at this; exact this))
  have CR5 := Lib.hid (fun A nv U W (h : RS W A nv 7 U T0) => (show Calls Tryz.prog 17 #[.agg #[.int .i64 8, .int .i64 7, .int .i64 4, .int .i64 1, .int .i64 2], .agg #[A, nv], .int .i64 6, .int .i64 7] W fun e w' => RsAns W 7 T5 0 e w' by have := record19 8 7 4 1 2 A nv 7 U T0 6 7 W h hT0; rw [b1, b2, hT5] at this; exact this))
  have CR7 := Lib.hid (fun A nv U W (h : RS W A nv 7 U T0) => (show Calls Tryz.prog 17 #[.agg #[.int .i64 8, .int .i64 7, .int .i64 4, .int .i64 1, .int .i64 2], .agg #[A, nv], .int .i64 6, .int .i64 1] W fun e w' => RsAns W 7 T7 0 e w' by have := record19 8 7 4 1 2 A nv 7 U T0 6 1 W h hT0; rw [c1, c2, hT7] at this; exact this))
  have CR11 := Lib.hid (fun A nv U W (h : RS W A nv 7 U T0) => (show Calls Tryz.prog 17 #[.agg #[.int .i64 8, .int .i64 7, .int .i64 4, .int .i64 1, .int .i64 2], .agg #[A, nv], .int .i64 6, .int .i64 61] W fun e w' => RsAns W n11 T11 7 e w' by have := record19 8 7 4 1 2 A nv 7 U T0 6 61 W h hT0; rw [e1, hT11, hn11] at this; exact this))
  have CR9 := Lib.hid (fun A nv U W (h : RS W A nv 7 U T3) => (show Calls Tryz.prog 21 #[.agg #[.int .i64 8, .int .i64 7, .int .i64 4, .int .i64 1, .int .i64 2], .agg #[A, nv], .int .i64 6, .int .i64 13, .int .i64 21] W fun e w' => RsAns W 7 T9 0 e w' by have := store22 8 7 4 1 2 A nv 7 U T3 6 13 21 W h (fun j hj => a4 j (by omega)); rw [d1, d2, hT9] at this; exact this))
  have CI4 := Lib.hid (fun A nv U W (h : RS W A nv 7 U T3) => (into24 A nv 7 U T3 1 W h (fun j hj => a4 j (by omega))).mono fun e w' h => h.form1 a3)
  have CI10 := Lib.hid (fun A nv U W (h : RS W A nv 7 U T9) => (into24 A nv 7 U T9 2 W h (fun j hj => d4 j (by omega))).mono fun e w' h => h.form1 d3)
  have CY8 := Lib.hid (fun A nv U W (h : RS W A nv 7 U T7) => (young45 A nv 7 U T7 W h (fun j hj => c4 j (by omega))).mono fun e w' h => h.form1 c3)
  have CC6 := Lib.hid (fun A nv U W (h : RS W A nv 7 U T5) => (show Calls Tryz.prog 15 #[.agg #[A, nv]] W fun e w' => e = .returned (.tuple #[.int .i64 0, .int .i64 0]) ∧ Below W.heap.size W w' by have := count18 A nv 7 U T5 W h (fun j hj => b4 j (by omega)) (by omega); rw [b3] at this; exact this))
  have IS := Lib.hid (fun u1 u2 W h1 h2 => is46 u1 u2 [6] W h1 h2 (by decide))
  have CG := Lib.hid config44
  have B := Lib.hid (Below.refl w.heap.size w)
  simp only [List.length_cons, List.length_nil, Nat.zero_add] at CI4 CI10 CY8
  unfold RsAns at CN CR3 CR5 CR7 CR9 CR11
  clear n1 n2 n3 a1 a2 a3 a4 b1 b2 b3 b4 c1 c2 c3 c4 d1 d2 d3 d4 e1 hT0 hT3 hT5 hT7 hT9 hT11 hn11
  go_enter Tryz.func9, Tryz.ntmps9
  go_upto_region 1 with fail
  go_upto_region 2 with (go_at_call 38; refine (CG.out _).mono ?_; rintro e w1 ⟨rfl, hb⟩; have B := Lib.hid (below_end B.out hb); clear hb)
  have ba := alloc_below w1 (.cells #[.int .i64 8, .int .i64 7, .int .i64 4, .int .i64 1, .int .i64 2] 23)
  have K1 := Lib.hid (heap_alloc_new w1 (.cells #[.int .i64 8, .int .i64 7, .int .i64 4, .int .i64 1, .int .i64 2] 23))
  obtain ⟨b1, hb1⟩ : ∃ b, w1.heap.size = b := ⟨_, rfl⟩
  rw [hb1] at K1
  try rw [hb1]
  have B := Lib.hid (below_end B.out ba)
  generalize w1.alloc (.cells #[.int .i64 8, .int .i64 7, .int .i64 4, .int .i64 1, .int .i64 2] 23) = X1 at *
  clear ba hb1
  obtain ⟨q0, q1, q2, q3, q4⟩ := five_cells K1.out
  go_upto_region 3 with (go_at_call 10; refine (CN.out _).mono ?_; rintro e w2 ⟨A2, v2, U2, rfl, hr, hb, -⟩; obtain ⟨a2, cp2, rfl, -⟩ := hr.form; obtain ⟨m2, l2, k2, e2⟩ := (hr.nur ▸ hr.at_ 7 (Nat.le_refl _)).sl; subst e2; have B := Lib.hid (below_end B.out hb); have K1 := Lib.hid (keep_heap hb K1.out); have R2 := Lib.hid hr; clear hr hb)
  clear q0 q1 q2 q3 q4
  have ba := alloc_below w2 (.cells #[.slice a2 7 cp2, .slice m2 l2 k2] 29)
  have K2 := Lib.hid (heap_alloc_new w2 (.cells #[.slice a2 7 cp2, .slice m2 l2 k2] 29))
  obtain ⟨b2, hb2⟩ : ∃ b, w2.heap.size = b := ⟨_, rfl⟩
  rw [hb2] at K2
  try rw [hb2]
  have B := Lib.hid (below_end B.out ba); have K1 := Lib.hid (keep_heap ba K1.out); have R2 := Lib.hid (R2.out.below ba)
  generalize w2.alloc (.cells #[.slice a2 7 cp2, .slice m2 l2 k2] 29) = X2 at *
  clear ba hb2
  obtain ⟨q0, q1, q2, q3, q4⟩ := five_cells K1.out
  obtain ⟨p0, p1, -, -⟩ := two_cells K2.out
  go_upto_region 4 with (go_at_call 17; refine (CR3.out _ _ _ _ R2.out).mono ?_; rintro e w3 ⟨A3, v3, U3, rfl, hr, hb, -⟩; obtain ⟨a3, cp3, rfl, -⟩ := hr.form; obtain ⟨m3, l3, k3, e3⟩ := (hr.nur ▸ hr.at_ 7 (Nat.le_refl _)).sl; subst e3; have B := Lib.hid (below_end B.out hb); have K1 := Lib.hid (keep_heap hb K1.out); have R2 := Lib.hid (R2.out.below hb); have K2 := Lib.hid (keep_heap hb K2.out); have R3 := Lib.hid hr; clear hr hb)
  clear q0 q1 q2 q3 q4 p0 p1
  have ba := alloc_below w3 (.cells #[.slice a3 7 cp3, .slice m3 l3 k3] 29)
  have K3 := Lib.hid (heap_alloc_new w3 (.cells #[.slice a3 7 cp3, .slice m3 l3 k3] 29))
  obtain ⟨b3, hb3⟩ : ∃ b, w3.heap.size = b := ⟨_, rfl⟩
  rw [hb3] at K3
  try rw [hb3]
  have B := Lib.hid (below_end B.out ba); have K1 := Lib.hid (keep_heap ba K1.out); have R2 := Lib.hid (R2.out.below ba); have K2 := Lib.hid (keep_heap ba K2.out); have R3 := Lib.hid (R3.out.below ba)
  generalize w3.alloc (.cells #[.slice a3 7 cp3, .slice m3 l3 k3] 29) = X3 at *
  clear ba hb3
  obtain ⟨p0, p1, -, -⟩ := two_cells K3.out
  go_upto_region 5 with (go_at_call 23; refine (CI4.out _ _ _ _ R3.out).mono ?_; rintro e w4 ⟨A4, cp4, rfl, hi, hb⟩; have B := Lib.hid (below_end B.out hb); have K1 := Lib.hid (keep_heap hb K1.out); have R2 := Lib.hid (R2.out.below hb); have K2 := Lib.hid (keep_heap hb K2.out); have R3 := Lib.hid (R3.out.below hb); have K3 := Lib.hid (keep_heap hb K3.out); have L4 := Lib.hid hi; clear hi hb)
  clear p0 p1
  obtain ⟨q0, q1, q2, q3, q4⟩ := five_cells K1.out
  obtain ⟨p0, p1, -, -⟩ := two_cells K2.out
  go_upto_region 6 with (go_at_call 17; refine (CR5.out _ _ _ _ R2.out).mono ?_; rintro e w5 ⟨A5, v5, U5, rfl, hr, hb, -⟩; obtain ⟨a5, cp5, rfl, -⟩ := hr.form; obtain ⟨m5, l5, k5, e5⟩ := (hr.nur ▸ hr.at_ 7 (Nat.le_refl _)).sl; subst e5; have B := Lib.hid (below_end B.out hb); have K1 := Lib.hid (keep_heap hb K1.out); have R2 := Lib.hid (R2.out.below hb); have K2 := Lib.hid (keep_heap hb K2.out); have R3 := Lib.hid (R3.out.below hb); have K3 := Lib.hid (keep_heap hb K3.out); have L4 := Lib.hid (L4.out.below hb); have R5 := Lib.hid hr; clear hr hb)
  clear q0 q1 q2 q3 q4 p0 p1
  have ba := alloc_below w5 (.cells #[.slice a5 7 cp5, .slice m5 l5 k5] 29)
  have K5 := Lib.hid (heap_alloc_new w5 (.cells #[.slice a5 7 cp5, .slice m5 l5 k5] 29))
  obtain ⟨b5, hb5⟩ : ∃ b, w5.heap.size = b := ⟨_, rfl⟩
  rw [hb5] at K5
  try rw [hb5]
  have B := Lib.hid (below_end B.out ba); have K1 := Lib.hid (keep_heap ba K1.out); have R2 := Lib.hid (R2.out.below ba); have K2 := Lib.hid (keep_heap ba K2.out); have R3 := Lib.hid (R3.out.below ba); have K3 := Lib.hid (keep_heap ba K3.out); have L4 := Lib.hid (L4.out.below ba); have R5 := Lib.hid (R5.out.below ba)
  generalize w5.alloc (.cells #[.slice a5 7 cp5, .slice m5 l5 k5] 29) = X5 at *
  clear ba hb5
  obtain ⟨p0, p1, -, -⟩ := two_cells K5.out
  go_upto_region 7 with (go_at_call 15; refine (CC6.out _ _ _ _ R5.out).mono ?_; rintro e w6 ⟨rfl, hb⟩; have B := Lib.hid (below_end B.out hb); have K1 := Lib.hid (keep_heap hb K1.out); have R2 := Lib.hid (R2.out.below hb); have K2 := Lib.hid (keep_heap hb K2.out); have R3 := Lib.hid (R3.out.below hb); have K3 := Lib.hid (keep_heap hb K3.out); have L4 := Lib.hid (L4.out.below hb); have R5 := Lib.hid (R5.out.below hb); have K5 := Lib.hid (keep_heap hb K5.out); clear hb)
  clear p0 p1
  obtain ⟨q0, q1, q2, q3, q4⟩ := five_cells K1.out
  obtain ⟨p0, p1, -, -⟩ := two_cells K2.out
  go_upto_region 8 with (go_at_call 17; refine (CR7.out _ _ _ _ R2.out).mono ?_; rintro e w7 ⟨A7, v7, U7, rfl, hr, hb, -⟩; obtain ⟨a7, cp7, rfl, -⟩ := hr.form; obtain ⟨m7, l7, k7, e7⟩ := (hr.nur ▸ hr.at_ 7 (Nat.le_refl _)).sl; subst e7; have B := Lib.hid (below_end B.out hb); have K1 := Lib.hid (keep_heap hb K1.out); have R2 := Lib.hid (R2.out.below hb); have K2 := Lib.hid (keep_heap hb K2.out); have R3 := Lib.hid (R3.out.below hb); have K3 := Lib.hid (keep_heap hb K3.out); have L4 := Lib.hid (L4.out.below hb); have R5 := Lib.hid (R5.out.below hb); have K5 := Lib.hid (keep_heap hb K5.out); have R7 := Lib.hid hr; clear hr hb)
  clear q0 q1 q2 q3 q4 p0 p1
  have ba := alloc_below w7 (.cells #[.slice a7 7 cp7, .slice m7 l7 k7] 29)
  have K7 := Lib.hid (heap_alloc_new w7 (.cells #[.slice a7 7 cp7, .slice m7 l7 k7] 29))
  obtain ⟨b7, hb7⟩ : ∃ b, w7.heap.size = b := ⟨_, rfl⟩
  rw [hb7] at K7
  try rw [hb7]
  have B := Lib.hid (below_end B.out ba); have K1 := Lib.hid (keep_heap ba K1.out); have R2 := Lib.hid (R2.out.below ba); have K2 := Lib.hid (keep_heap ba K2.out); have R3 := Lib.hid (R3.out.below ba); have K3 := Lib.hid (keep_heap ba K3.out); have L4 := Lib.hid (L4.out.below ba); have R5 := Lib.hid (R5.out.below ba); have K5 := Lib.hid (keep_heap ba K5.out); have R7 := Lib.hid (R7.out.below ba)
  generalize w7.alloc (.cells #[.slice a7 7 cp7, .slice m7 l7 k7] 29) = X7 at *
  clear ba hb7
  obtain ⟨p0, p1, -, -⟩ := two_cells K7.out
  go_upto_region 9 with (go_at_call 26; refine (CY8.out _ _ _ _ R7.out).mono ?_; rintro e w8 ⟨A8, cp8, rfl, hi, hb⟩; have B := Lib.hid (below_end B.out hb); have K1 := Lib.hid (keep_heap hb K1.out); have R2 := Lib.hid (R2.out.below hb); have K2 := Lib.hid (keep_heap hb K2.out); have R3 := Lib.hid (R3.out.below hb); have K3 := Lib.hid (keep_heap hb K3.out); have L4 := Lib.hid (L4.out.below hb); have R5 := Lib.hid (R5.out.below hb); have K5 := Lib.hid (keep_heap hb K5.out); have R7 := Lib.hid (R7.out.below hb); have K7 := Lib.hid (keep_heap hb K7.out); have L8 := Lib.hid hi; clear hi hb)
  clear p0 p1
  obtain ⟨q0, q1, q2, q3, q4⟩ := five_cells K1.out
  obtain ⟨p0, p1, -, -⟩ := two_cells K3.out
  go_upto_region 10 with (go_at_call 21; refine (CR9.out _ _ _ _ R3.out).mono ?_; rintro e w9 ⟨A9, v9, U9, rfl, hr, hb, -⟩; obtain ⟨a9, cp9, rfl, -⟩ := hr.form; obtain ⟨m9, l9, k9, e9⟩ := (hr.nur ▸ hr.at_ 7 (Nat.le_refl _)).sl; subst e9; have B := Lib.hid (below_end B.out hb); have K1 := Lib.hid (keep_heap hb K1.out); have R2 := Lib.hid (R2.out.below hb); have K2 := Lib.hid (keep_heap hb K2.out); have R3 := Lib.hid (R3.out.below hb); have K3 := Lib.hid (keep_heap hb K3.out); have L4 := Lib.hid (L4.out.below hb); have R5 := Lib.hid (R5.out.below hb); have K5 := Lib.hid (keep_heap hb K5.out); have R7 := Lib.hid (R7.out.below hb); have K7 := Lib.hid (keep_heap hb K7.out); have L8 := Lib.hid (L8.out.below hb); have R9 := Lib.hid hr; clear hr hb)
  clear q0 q1 q2 q3 q4 p0 p1
  have ba := alloc_below w9 (.cells #[.slice a9 7 cp9, .slice m9 l9 k9] 29)
  have K9 := Lib.hid (heap_alloc_new w9 (.cells #[.slice a9 7 cp9, .slice m9 l9 k9] 29))
  obtain ⟨b9, hb9⟩ : ∃ b, w9.heap.size = b := ⟨_, rfl⟩
  rw [hb9] at K9
  try rw [hb9]
  have B := Lib.hid (below_end B.out ba); have K1 := Lib.hid (keep_heap ba K1.out); have R2 := Lib.hid (R2.out.below ba); have K2 := Lib.hid (keep_heap ba K2.out); have R3 := Lib.hid (R3.out.below ba); have K3 := Lib.hid (keep_heap ba K3.out); have L4 := Lib.hid (L4.out.below ba); have R5 := Lib.hid (R5.out.below ba); have K5 := Lib.hid (keep_heap ba K5.out); have R7 := Lib.hid (R7.out.below ba); have K7 := Lib.hid (keep_heap ba K7.out); have L8 := Lib.hid (L8.out.below ba); have R9 := Lib.hid (R9.out.below ba)
  generalize w9.alloc (.cells #[.slice a9 7 cp9, .slice m9 l9 k9] 29) = X9 at *
  clear ba hb9
  obtain ⟨p0, p1, -, -⟩ := two_cells K9.out
  go_upto_region 11 with (go_at_call 23; refine (CI10.out _ _ _ _ R9.out).mono ?_; rintro e w10 ⟨A10, cp10, rfl, hi, hb⟩; have B := Lib.hid (below_end B.out hb); have K1 := Lib.hid (keep_heap hb K1.out); have R2 := Lib.hid (R2.out.below hb); have K2 := Lib.hid (keep_heap hb K2.out); have R3 := Lib.hid (R3.out.below hb); have K3 := Lib.hid (keep_heap hb K3.out); have L4 := Lib.hid (L4.out.below hb); have R5 := Lib.hid (R5.out.below hb); have K5 := Lib.hid (keep_heap hb K5.out); have R7 := Lib.hid (R7.out.below hb); have K7 := Lib.hid (keep_heap hb K7.out); have L8 := Lib.hid (L8.out.below hb); have R9 := Lib.hid (R9.out.below hb); have K9 := Lib.hid (keep_heap hb K9.out); have L10 := Lib.hid hi; clear hi hb)
  clear p0 p1
  obtain ⟨q0, q1, q2, q3, q4⟩ := five_cells K1.out
  obtain ⟨p0, p1, -, -⟩ := two_cells K2.out
  go_upto_region 12 with (go_at_call 17; refine (CR11.out _ _ _ _ R2.out).mono ?_; rintro e w11 ⟨A11, v11, U11, rfl, hr, hb, -⟩; obtain ⟨a11, cp11, rfl, -⟩ := hr.form; obtain ⟨m11, l11, k11, e11⟩ := (hr.nur ▸ hr.at_ n11 (Nat.le_refl _)).sl; subst e11; have B := Lib.hid (below_end B.out hb); have K1 := Lib.hid (keep_heap hb K1.out); have R2 := Lib.hid (R2.out.below hb); have K2 := Lib.hid (keep_heap hb K2.out); have R3 := Lib.hid (R3.out.below hb); have K3 := Lib.hid (keep_heap hb K3.out); have L4 := Lib.hid (L4.out.below hb); have R5 := Lib.hid (R5.out.below hb); have K5 := Lib.hid (keep_heap hb K5.out); have R7 := Lib.hid (R7.out.below hb); have K7 := Lib.hid (keep_heap hb K7.out); have L8 := Lib.hid (L8.out.below hb); have R9 := Lib.hid (R9.out.below hb); have K9 := Lib.hid (keep_heap hb K9.out); have L10 := Lib.hid (L10.out.below hb); have R11 := Lib.hid hr; clear hr hb)
  clear q0 q1 q2 q3 q4 p0 p1
  have ba := alloc_below w11 (.cells #[.slice a11 n11 cp11, .slice m11 l11 k11] 29)
  have K11 := Lib.hid (heap_alloc_new w11 (.cells #[.slice a11 n11 cp11, .slice m11 l11 k11] 29))
  obtain ⟨b11, hb11⟩ : ∃ b, w11.heap.size = b := ⟨_, rfl⟩
  rw [hb11] at K11
  try rw [hb11]
  have B := Lib.hid (below_end B.out ba); have K1 := Lib.hid (keep_heap ba K1.out); have R2 := Lib.hid (R2.out.below ba); have K2 := Lib.hid (keep_heap ba K2.out); have R3 := Lib.hid (R3.out.below ba); have K3 := Lib.hid (keep_heap ba K3.out); have L4 := Lib.hid (L4.out.below ba); have R5 := Lib.hid (R5.out.below ba); have K5 := Lib.hid (keep_heap ba K5.out); have R7 := Lib.hid (R7.out.below ba); have K7 := Lib.hid (keep_heap ba K7.out); have L8 := Lib.hid (L8.out.below ba); have R9 := Lib.hid (R9.out.below ba); have K9 := Lib.hid (keep_heap ba K9.out); have L10 := Lib.hid (L10.out.below ba); have R11 := Lib.hid (R11.out.below ba)
  generalize w11.alloc (.cells #[.slice a11 n11 cp11, .slice m11 l11 k11] 29) = X11 at *
  clear ba hb11
  go_wp2_with fail
  have ba := alloc_below X11 (.cells #[.int .i64 6] 3)
  refine (IS.out _ _ _ (L4.out.below ba) (lit_one 6 (heap_alloc_new X11 (.cells #[.int .i64 6] 3)))).mono ?_
  rintro e z4 ⟨rfl, hb⟩
  have B := Lib.hid (below_end B.out ba); have L8 := Lib.hid (L8.out.below ba); have L10 := Lib.hid (L10.out.below ba)
  have B := Lib.hid (below_end B.out hb); have L8 := Lib.hid (L8.out.below hb); have L10 := Lib.hid (L10.out.below hb)
  clear ba hb
  go_wp2_with fail
  have ba := alloc_below z4 (.cells #[.int .i64 6] 3)
  refine (IS.out _ _ _ (L8.out.below ba) (lit_one 6 (heap_alloc_new z4 (.cells #[.int .i64 6] 3)))).mono ?_
  rintro e z8 ⟨rfl, hb⟩
  have B := Lib.hid (below_end B.out ba); have L8 := Lib.hid (L8.out.below ba); have L10 := Lib.hid (L10.out.below ba)
  have B := Lib.hid (below_end B.out hb); have L8 := Lib.hid (L8.out.below hb); have L10 := Lib.hid (L10.out.below hb)
  clear ba hb
  go_wp2_with fail
  have ba := alloc_below z8 (.cells #[.int .i64 6] 3)
  refine (IS.out _ _ _ (L10.out.below ba) (lit_one 6 (heap_alloc_new z8 (.cells #[.int .i64 6] 3)))).mono ?_
  rintro e z10 ⟨rfl, hb⟩
  have B := Lib.hid (below_end B.out ba); have L8 := Lib.hid (L8.out.below ba); have L10 := Lib.hid (L10.out.below ba)
  have B := Lib.hid (below_end B.out hb); have L8 := Lib.hid (L8.out.below hb); have L10 := Lib.hid (L10.out.below hb)
  clear ba hb
  go_wp2_with fail
  refine bodyPost_ret (v := .bool true) (by simp [results, Tryz.f9, go_sem]) rfl ⟨rfl, B.out⟩
end YtjkphacidpongaaGreat
end Go.Proofs
