/- The law of New, Check and Count. -/
import Derived.Test.YtjkphacidpongaaGreatQRmS
import Derived.Test.YtjkphacidpongaaGreatQRmU
import Derived.Test.YtjkphacidpongaaGreatG19
import Derived.Test.YtjkphacidpongaaGreatQRmO
namespace Go.Proofs
namespace YtjkphacidpongaaGreat
open Go.RowKit
open Cf (good plC plE chkE)

theorem seven_cells {W : World} {b : Nat} {x0 x1 x2 x3 x4 x5 x6 : Value} {t : TypeId} (h : W.heap[b]? = some (.cells #[x0, x1, x2, x3, x4, x5, x6] t (0, 0))) :
    W.cell? ⟨b, 0, none⟩ = some x0 ∧ W.cell? ⟨b, 1, none⟩ = some x1 ∧ W.cell? ⟨b, 2, none⟩ = some x2 ∧ W.cell? ⟨b, 3, none⟩ = some x3 ∧ W.cell? ⟨b, 4, none⟩ = some x4 ∧ W.cell? ⟨b, 5, none⟩ = some x5 ∧ W.cell? ⟨b, 6, none⟩ = some x6 := by
  refine ⟨?_, ?_, ?_, ?_, ?_, ?_, ?_⟩ <;> (rw [cell_of_row _ _ _ _ _ _ h]; rfl)
theorem newN_le (C N S K Q : Int) : newN C N S K Q ≤ 24 := by
  unfold newN
  by_cases hg : good C N S K Q
  · rw [if_pos hg]; obtain ⟨-, -, n0, n1, -⟩ := hg; omega
  · rw [if_neg hg]; omega
theorem newT_len (C N S K Q : Int) (j : Nat) : (newT C N S K Q j).length ≤ 100000 := by
  unfold newT
  by_cases hg : good C N S K Q
  · rw [if_pos hg]; simp [newF]
  · rw [if_neg hg]; simp
/-- sets whose slices are written out -/
theorem RsAns.out2 {w w' : World} {n : Nat} {T : Nat → List Int} {c : Int} {e : Ending} (h : RsAns w n T c e w') : ∃ (a : Option Addr) (p : Nat) (b : Option Addr) (q : Nat) (U : Nat → Value), e = .returned (.tuple #[.agg #[.slice a n p, .slice b (T n).length q], .int .i64 c]) ∧ RS w' (.slice a n p) (.slice b (T n).length q) n U T ∧ Below w.heap.size w w' := by
  obtain ⟨A, nv, U, rfl, hr, hb, -⟩ := h
  have hr2 := hr
  obtain ⟨a, p, rfl, -⟩ := hr.form
  have hat := hr.at_ n (Nat.le_refl _)
  rw [hr.nur] at hat
  obtain ⟨b, q, rfl, -⟩ := hat
  exact ⟨a, p, b, q, U, rfl, hr2, hb⟩
set_option maxRecDepth 100000 in
set_option maxHeartbeats 1000000 in
theorem rmchecks3_far (C N S K Q : Int) (A nv : Value) (n : Nat) (U : Nat → Value) (T : Nat → List Int) (w : World) (hR : RS w A nv n U T) (hf : farS n T = true) :
    Calls Tryz.prog 3 #[.agg #[.int .i64 C, .int .i64 N, .int .i64 S, .int .i64 K, .int .i64 Q, A, nv]] w fun e w' => e = .returned (.bool true) ∧ Below w.heap.size w w' := by
  have h0 := heap_alloc_new w (.cells #[.int .i64 C, .int .i64 N, .int .i64 S, .int .i64 K, .int .i64 Q, A, nv] 31)
  have hb := alloc_below w (.cells #[.int .i64 C, .int .i64 N, .int .i64 S, .int .i64 K, .int .i64 Q, A, nv] 31)
  obtain ⟨c0, c1, c2, c3, c4, c5, c6⟩ := seven_cells h0
  have FA := Lib.hid (far15 A nv n U T _ (hR.below hb))
  rw [hf] at FA
  obtain ⟨a0, p0, rfl, -⟩ := hR.form
  have hat := hR.at_ n (Nat.le_refl _)
  rw [hR.nur] at hat
  obtain ⟨b0, q0, rfl, -⟩ := hat
  have B := Lib.hid hb
  clear h0 hb hR hf
  go_enter Tryz.func3, Tryz.ntmps3
  go_wp2_with (first
    | (go_at_call 8; refine FA.out.mono ?_; rintro e w1 ⟨rfl, hb1⟩; have B1 := Lib.hid (below_end B.out hb1); clear hb1)
    | (go_at_call 9; refine (awake16 _).mono ?_; rintro e w2 ⟨rfl, hb2⟩; have B2 := Lib.hid (below_end B1.out hb2); clear hb2))
  refine bodyPost_ret (v := .bool true) (by simp [results, Tryz.f3, go_sem]) rfl ⟨rfl, B2.out⟩
set_option maxRecDepth 100000 in
set_option maxHeartbeats 4000000 in
theorem rmchecks3_near (C N S K Q : Int) (A nv : Value) (n : Nat) (U : Nat → Value) (T : Nat → List Int) (w : World) (hR : RS w A nv n U T) (hf : farS n T = false) :
    Calls Tryz.prog 3 #[.agg #[.int .i64 C, .int .i64 N, .int .i64 S, .int .i64 K, .int .i64 Q, A, nv]] w fun e w' => e = .returned (.bool true) ∧ Below w.heap.size w w' := by
  obtain ⟨hn26, hm⟩ := farS_no hf
  have h0 := heap_alloc_new w (.cells #[.int .i64 C, .int .i64 N, .int .i64 S, .int .i64 K, .int .i64 Q, A, nv] 31)
  have hb := alloc_below w (.cells #[.int .i64 C, .int .i64 N, .int .i64 S, .int .i64 K, .int .i64 Q, A, nv] 31)
  obtain ⟨c0, c1, c2, c3, c4, c5, c6⟩ := seven_cells h0
  have FA := Lib.hid (far15 A nv n U T _ (hR.below hb))
  rw [hf] at FA
  have hm2 : ∀ j, j ≤ n → (T j).length ≤ 100000 := fun j hj => by have := hm j hj; omega
  have N1 := Lib.hid (fun W => new27 C N S K Q W)
  have N2 := Lib.hid (fun W => new11 C N S K Q W)
  have C1 := Lib.hid (fun W (hW : Below w.heap.size w W) => check17 C N S K Q A nv n U T W (hR.below hW) hm2)
  have C2 := Lib.hid (fun W (hW : Below w.heap.size w W) => rchk13 C N S K Q A nv n U T W (hR.below hW) hm2)
  have D1 := Lib.hid (fun W (hW : Below w.heap.size w W) => count18 A nv n U T W (hR.below hW) hm2 (by omega))
  have D2 := Lib.hid (fun W (hW : Below w.heap.size w W) => rcount16 A nv n U T W (hR.below hW) hm2 (by omega))
  have hnn := newN_le C N S K Q
  have hnt := newT_len C N S K Q
  have EQ := Lib.hid (fun W A1 n1 A2 n2 U1 U2 h1 h2 => requal14 A1 n1 A2 n2 (newN C N S K Q) U1 U2 (newT C N S K Q) W h1 h2 (fun j _ => hnt j) (by omega))
  generalize newN C N S K Q = nn at *
  generalize newT C N S K Q = TT at *
  generalize chkE C N S K Q = ce at *
  generalize chkS C N S K Q n T = cs at *
  generalize cntF n T = ct at *
  obtain ⟨cs1, cs2⟩ := cs
  obtain ⟨ct1, ct2⟩ := ct
  dsimp only at C1 C2 D1 D2
  have z1 : (ce != ce) = false := by simp
  have z2 : (cs1 != cs1) = false := by simp
  have z3 : (cs2 != cs2) = false := by simp
  have z4 : (ct1 == ct1) = true := by simp
  have z5 : (ct2 == ct2) = true := by simp
  obtain ⟨a0, p0, rfl, -⟩ := hR.form
  have hat := hR.at_ n (Nat.le_refl _)
  rw [hR.nur] at hat
  obtain ⟨b0, q0, rfl, -⟩ := hat
  have B := Lib.hid hb
  have KX := Lib.hid h0
  generalize (T n).length = ln at *
  clear h0 hb hR hf hm hm2 hnn hnt
  go_enter Tryz.func3, Tryz.ntmps3
  go_upto_region 4 with (first
    | (go_at_call 8; refine FA.out.mono ?_; rintro e w1 ⟨rfl, hb1⟩; have B1 := Lib.hid (below_end B.out hb1); have K1 := Lib.hid (keep_heap hb1 KX.out); obtain ⟨c0, c1, c2, c3, c4, c5, c6⟩ := seven_cells K1.out; clear hb1)
    | (go_at_call 10; refine (N1.out _).mono ?_; intro e w2 h; obtain ⟨a1, p1, b1, q1, U1, rfl, hr1, hb2⟩ := h.out2; have B2 := Lib.hid (below_end B1.out hb2); have K2 := Lib.hid (keep_heap hb2 K1.out); have R1 := Lib.hid hr1; clear hb2 h hr1))
  have hq := heap_alloc_new w2 (.cells #[.slice a1 nn p1, .slice b1 (TT nn).length q1] 29)
  have ba := alloc_below w2 (.cells #[.slice a1 nn p1, .slice b1 (TT nn).length q1] 29)
  obtain ⟨x1, hx1⟩ : ∃ x1, w2.heap.size = x1 := ⟨_, rfl⟩
  have B3 := Lib.hid (below_end B2.out ba)
  have K3 := Lib.hid (keep_heap ba K2.out)
  have R3 := Lib.hid (R1.out.below ba)
  rw [hx1] at hq ⊢
  have Q3 := Lib.hid hq
  generalize w2.alloc (.cells #[.slice a1 nn p1, .slice b1 (TT nn).length q1] 29) = w3 at *
  obtain ⟨c0, c1, c2, c3, c4, c5, c6⟩ := seven_cells K3.out
  clear hq ba hx1 B K1 KX FA B1 B2 K2 R1
  go_upto_region 5 with (go_at_call 11; refine (N2.out _).mono ?_; intro e w4 h; obtain ⟨a2, p2, b2, q2, U2, rfl, hr2, hb4⟩ := h.out2; have B4 := Lib.hid (below_end B3.out hb4); have K4 := Lib.hid (keep_heap hb4 K3.out); have Q4 := Lib.hid (keep_heap hb4 Q3.out); have R4 := Lib.hid (R3.out.below hb4); have S4 := Lib.hid hr2; clear hb4 h hr2)
  have hq := heap_alloc_new w4 (.cells #[.slice a2 nn p2, .slice b2 (TT nn).length q2] 29)
  have ba := alloc_below w4 (.cells #[.slice a2 nn p2, .slice b2 (TT nn).length q2] 29)
  obtain ⟨x2, hx2⟩ : ∃ x2, w4.heap.size = x2 := ⟨_, rfl⟩
  have B5 := Lib.hid (below_end B4.out ba)
  have K5 := Lib.hid (keep_heap ba K4.out)
  have Q5 := Lib.hid (keep_heap ba Q4.out)
  have R5 := Lib.hid (R4.out.below ba)
  have S5 := Lib.hid (S4.out.below ba)
  rw [hx2] at hq ⊢
  have P5 := Lib.hid hq
  generalize w4.alloc (.cells #[.slice a2 nn p2, .slice b2 (TT nn).length q2] 29) = w5 at *
  obtain ⟨c0, c1, c2, c3, c4, c5, c6⟩ := seven_cells K5.out
  clear hq ba hx2 B3 K3 Q3 R3 B4 K4 Q4 R4 S4 N1 N2
  go_upto_region 7 with (first
    | (go_at_call 12; refine (C1.out _ B5.out).mono ?_; rintro e w6 ⟨rfl, hb⟩; have B6 := Lib.hid (below_end B5.out hb); have K6 := Lib.hid (keep_heap hb K5.out); have Q6 := Lib.hid (keep_heap hb Q5.out); have P6 := Lib.hid (keep_heap hb P5.out); have R6 := Lib.hid (R5.out.below hb); have S6 := Lib.hid (S5.out.below hb); obtain ⟨c0, c1, c2, c3, c4, c5, c6⟩ := seven_cells K6.out; clear hb)
    | (go_at_call 13; refine (C2.out _ B6.out).mono ?_; rintro e w7 ⟨rfl, hb⟩; have B7 := Lib.hid (below_end B6.out hb); have K7 := Lib.hid (keep_heap hb K6.out); have Q7 := Lib.hid (keep_heap hb Q6.out); have P7 := Lib.hid (keep_heap hb P6.out); have R7 := Lib.hid (R6.out.below hb); have S7 := Lib.hid (S6.out.below hb); clear hb))
  obtain ⟨y0, y1, -, -⟩ := two_cells Q7.out
  obtain ⟨v0, v1, -, -⟩ := two_cells P7.out
  clear B5 K5 Q5 P5 R5 S5 B6 K6 Q6 P6 R6 S6 C1 C2
  go_upto_region 9 with (go_at_call 14; refine (EQ.out _ _ _ _ _ _ _ R7.out S7.out).mono ?_; rintro e w8 ⟨rfl, hb⟩; have B8 := Lib.hid (below_end B7.out hb); have K8 := Lib.hid (keep_heap hb K7.out); obtain ⟨c0, c1, c2, c3, c4, c5, c6⟩ := seven_cells K8.out; clear hb)
  clear y0 y1 v0 v1 Q7 P7 R7 S7 EQ K7
  go_wp2_with (first
    | (go_at_call 15; refine (D1.out _ B8.out).mono ?_; rintro e w9 ⟨rfl, hb⟩; have B9 := Lib.hid (below_end B8.out hb); have K9 := Lib.hid (keep_heap hb K8.out); obtain ⟨c0, c1, c2, c3, c4, c5, c6⟩ := seven_cells K9.out; clear hb)
    | (go_at_call 16; refine (D2.out _ B9.out).mono ?_; rintro e w10 ⟨rfl, hb⟩; have B10 := Lib.hid (below_end B9.out hb); clear hb)
    | (go_at_call 9; refine (awake16 _).mono ?_; rintro e w11 ⟨rfl, hb⟩; have B11 := Lib.hid (below_end B10.out hb); clear hb))
  refine bodyPost_ret (v := .bool true) (by simp [results, Tryz.f3, go_sem]) rfl ⟨rfl, B11.out⟩
theorem rmchecks3 (C N S K Q : Int) (A nv : Value) (n : Nat) (U : Nat → Value) (T : Nat → List Int) (w : World) (hR : RS w A nv n U T) :
    Calls Tryz.prog 3 #[.agg #[.int .i64 C, .int .i64 N, .int .i64 S, .int .i64 K, .int .i64 Q, A, nv]] w fun e w' => e = .returned (.bool true) ∧ Below w.heap.size w w' := by
  cases hf : farS n T with
  | true => exact rmchecks3_far C N S K Q A nv n U T w hR hf
  | false => exact rmchecks3_near C N S K Q A nv n U T w hR hf
end YtjkphacidpongaaGreat
end Go.Proofs
