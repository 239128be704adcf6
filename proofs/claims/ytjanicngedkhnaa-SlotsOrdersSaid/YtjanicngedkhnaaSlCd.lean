/- The law of Has, Add and Drop. -/
import Derived.Test.YtjanicngedkhnaaSlCc
namespace Go.Proofs
namespace Ytjanicngedkhnaa
open Go.RowKit

theorem SbAns.form3 {w w' : World} {R : List Int × Bool × Int} {e : Ending} (h : SbAns w R e w') : ∃ A cp, e = .returned (.tuple #[.agg #[.slice A R.1.length cp], .bool R.2.1, .int .i64 R.2.2]) ∧ Row w w' (.slice A R.1.length cp) R.1 ∧ Below w.heap.size w w' := by
  obtain ⟨v, h1, h2, h3⟩ := h
  obtain ⟨A, cp, rfl⟩ := own_form h2
  exact ⟨A, cp, h1, h2, h3⟩
theorem add_len2 (cs : List Int) (a : Int) : (addA cs a).1.length ≤ 1000000 := by
  unfold addA
  by_cases h : askE cs a = 0
  · rw [if_neg (by simp [h])]
    obtain ⟨hG, ha⟩ := ask_zero h
    have := (add_ok hG ha).good.tab.hi
    dsimp only
    omega
  · rw [if_pos h]; exact Nat.zero_le _
theorem drop_len2 (cs : List Int) (a : Int) : (dropA cs a).1.length ≤ cs.length := by
  unfold dropA
  by_cases h : askE cs a = 0
  · rw [if_neg (by simp [h])]; exact Nat.le_of_eq (drop_len cs a)
  · rw [if_pos h]; exact Nat.zero_le _
set_option maxRecDepth 100000 in
set_option maxHeartbeats 400000 in
theorem adds4 (v : Value) (cs : List Int) (a : Int) (w : World) (h : IAt w v cs) :
    Calls Try.prog 4 #[.agg #[v], .int .i64 a] w fun e w' => e = .returned (.bool true) ∧ Below w.heap.size w w' := by
  have h0 := heap_alloc_new w (.cells #[v] 24)
  have hb := alloc_below w (.cells #[v] 24)
  have FA := Lib.hid (far_at h)
  have AW := Lib.hid awake12
  by_cases hf : farB cs.length = true
  · rw [hf] at FA
    obtain ⟨A, cap, rfl, -⟩ := h
    have q := (one_cell h0).1
    have B0 := Lib.hid hb
    unfold sv at *
    clear h0 hb hf
    go_enter Try.func4, Try.ntmps4
    go_wp2_with (first
      | (go_at_call 11; refine (FA.out _ B0.out).mono ?_; rintro e w1 ⟨rfl, hb⟩; have B1 := Lib.hid (below_end B0.out hb); clear hb)
      | (go_at_call 12; refine (AW.out _).mono ?_; rintro e w2 ⟨rfl, hb⟩; have B2 := Lib.hid (below_end B1.out hb); clear hb))
    refine bodyPost_ret (v := .bool true) (by simp [results, Try.f4, go_sem]) rfl ⟨rfl, B2.out⟩
  have hfn : farB cs.length = false := by simpa using hf
  have hm := far_no hfn
  have hm1 : cs.length ≤ 100000 := by omega
  rw [hfn] at FA
  have C1 := Lib.hid (fun W (hb : Below w.heap.size w W) => has25 v cs a W (h.below hb) hm1)
  have C2 := Lib.hid (fun W (hb : Below w.heap.size w W) => rhas26 v cs a W (h.below hb) hm1)
  have C3 := Lib.hid (fun W (hb : Below w.heap.size w W) => (add27 v cs a W (h.below hb) hm1).mono fun e w' h => h.form2)
  have C4 := Lib.hid (fun W (hb : Below w.heap.size w W) => (radd28 v cs a W (h.below hb) hm1).mono fun e w' h => h.form2)
  have C5 := Lib.hid (fun W (hb : Below w.heap.size w W) => (drop29 v cs a W (h.below hb) hm1).mono fun e w' h => h.form3)
  have C6 := Lib.hid (fun W (hb : Below w.heap.size w W) => (rdrop30 v cs a W (h.below hb) hm1).mono fun e w' h => h.form3)
  have LA := Lib.hid (add_len2 cs a)
  have LD := Lib.hid (show (dropA cs a).1.length ≤ 1000000 by have := drop_len2 cs a; omega)
  obtain ⟨A, cap, rfl, -⟩ := h
  have B0 := Lib.hid hb
  have K0 := Lib.hid h0
  unfold sv at *
  generalize hasA cs a = r0 at *
  generalize addA cs a = r1 at *
  generalize dropA cs a = r2 at *
  obtain ⟨hx, hy⟩ := r0
  obtain ⟨L, z, e0⟩ := r1
  obtain ⟨M, y, e1⟩ := r2
  dsimp only at *
  generalize hN : L.length = N at *
  generalize hN2 : M.length = N2 at *
  have HN := Lib.hid hN
  have HN2 := Lib.hid hN2
  generalize cs.length = n at *
  have q := (one_cell K0.out).1
  clear h0 hb hf hfn hm hm1 hN hN2
  go_enter Try.func4, Try.ntmps4
  go_upto_region 6 with (first
    | (go_at_call 11; refine (FA.out _ B0.out).mono ?_; rintro e w1 ⟨rfl, hb⟩; have B1 := Lib.hid (below_end B0.out hb); have K1 := Lib.hid (keep_heap hb K0.out); have q1 := (one_cell K1.out).1; clear hb)
    | (go_at_call 25; refine (C1.out _ B1.out).mono ?_; rintro e w2 ⟨rfl, hb⟩; have B2 := Lib.hid (below_end B1.out hb); have K2 := Lib.hid (keep_heap hb K1.out); have q2 := (one_cell K2.out).1; clear hb)
    | (go_at_call 26; refine (C2.out _ B2.out).mono ?_; rintro e w3 ⟨rfl, hb⟩; have B3 := Lib.hid (below_end B2.out hb); have K3 := Lib.hid (keep_heap hb K2.out); have q3 := (one_cell K3.out).1; clear hb)
    | (go_at_call 27; refine (C3.out _ B3.out).mono ?_; rintro e w4 ⟨A2, c2, rfl, hi, hb⟩; have B4 := Lib.hid (below_end B3.out hb); have K4 := Lib.hid (keep_heap hb K3.out); have K4w := K4; have I2 := Lib.hid hi; clear hb hi))
  clear q q1 q2 q3
  have ba := alloc_below w4 (.cells #[.slice A2 N c2] 24)
  have P := Lib.hid (heap_alloc_new w4 (.cells #[.slice A2 N c2] 24))
  obtain ⟨b2, hb2⟩ : ∃ b, w4.heap.size = b := ⟨_, rfl⟩
  rw [hb2] at P
  try rw [hb2]
  generalize w4.alloc (.cells #[.slice A2 N c2] 24) = X2 at *
  have B4 := Lib.hid (below_end B4.out ba)
  have K4 := Lib.hid (keep_heap ba K4.out)
  have I2 := Lib.hid (I2.out.below ba)
  have q2 := (one_cell K4.out).1
  clear ba
  go_upto_region 7 with (go_at_call 28; refine (C4.out _ B4.out).mono ?_; rintro e w5 ⟨A3, c3, rfl, hi, hb⟩; have B5 := Lib.hid (below_end B4.out hb); have K5 := Lib.hid (keep_heap hb K4.out); have P5 := Lib.hid (keep_heap hb P.out); have P5w := P5; have I3 := Lib.hid hi; have J3 := Lib.hid (I2.out.below hb); clear hb hi)
  clear q2
  have ba := alloc_below w5 (.cells #[.slice A3 N c3] 24)
  have Q := Lib.hid (heap_alloc_new w5 (.cells #[.slice A3 N c3] 24))
  obtain ⟨b3, hb3⟩ : ∃ b, w5.heap.size = b := ⟨_, rfl⟩
  rw [hb3] at Q
  try rw [hb3]
  generalize w5.alloc (.cells #[.slice A3 N c3] 24) = X3 at *
  have B5 := Lib.hid (below_end B5.out ba)
  have K5 := Lib.hid (keep_heap ba K5.out)
  have P5 := Lib.hid (keep_heap ba P5.out)
  have S := Lib.hid (same_at _ _ L X3 (J3.out.below ba) (I3.out.below ba) (by rw [HN.out]; exact LA.out))
  have q3 := (one_cell P5.out).1
  have q4 := (one_cell Q.out).1
  clear ba
  have G2 := Lib.hid (show w.heap.size < b2 by rw [← hb2]; have := box_lt K4w.out; omega)
  have G3 := Lib.hid (show b2 < b3 by rw [← hb3]; exact box_lt P5w.out)
  go_upto_region 9 with (go_at_call 17; refine S.out.mono ?_; rintro e w6 ⟨rfl, hb⟩; have B6 := Lib.hid (below_end B5.out hb); have K6 := Lib.hid (keep_heap hb K5.out); have P6 := Lib.hid (keep_heap hb P5.out); have Q6 := Lib.hid (keep_heap hb Q.out); have q6 := (one_cell K6.out).1; clear hb)
  clear q3 q4
  obtain ⟨q7, f7⟩ := one_cell P6.out
  go_upto_region 10 with (go_at_call 29; refine (C5.out _ B6.out).mono ?_; rintro e w7 ⟨A7, c7, rfl, hr, hb⟩; have B7 := Lib.hid (below_end B6.out hb); have K7 := Lib.hid (keep_heap hb K6.out); have P7 := Lib.hid (keep_heap hb P6.out); have Q7 := Lib.hid (keep_heap hb Q6.out); have R7 := Lib.hid (row_set hr (Nat.le_refl _) b2 0 (.slice A7 N2 c7) (box_lt P6.out)); obtain ⟨d7, g7⟩ := one_cell P7.out; clear hb hr)
  have K8 := Lib.hid (set_far (i := 0) (.slice A7 N2 c7) (show w.heap.size ≠ b2 by have := G2.out; omega) K7.out)
  have Q8 := Lib.hid (set_far (i := 0) (.slice A7 N2 c7) (show b3 ≠ b2 by have := G3.out; omega) Q7.out)
  have P8 := Lib.hid (set_row P7.out 0 (.slice A7 N2 c7))
  have B8 := Lib.hid (B7.out.setCell (p := ⟨b2, 0, none⟩) (by have := G2.out; dsimp only; omega) (.slice A7 N2 c7))
  clear d7 g7 q7 f7 q6 P7 K7 Q7 B7
  generalize w7.setCell ⟨b2, 0, none⟩ (.slice A7 N2 c7) = X8 at *
  have q8 := (one_cell K8.out).1
  go_upto_region 11 with (go_at_call 30; refine (C6.out _ B8.out).mono ?_; rintro e w9 ⟨A9, c9, rfl, hr, hb⟩; have B9 := Lib.hid (below_end B8.out hb); have P9 := Lib.hid (keep_heap hb P8.out); have Q9 := Lib.hid (keep_heap hb Q8.out); have R8 := Lib.hid (R7.out.below hb); have R9 := Lib.hid (row_set hr (Nat.le_refl _) b3 0 (.slice A9 N2 c9) (box_lt Q8.out)); obtain ⟨d9, g9⟩ := one_cell Q9.out; clear hb hr)
  have P10 := Lib.hid (set_far (i := 0) (.slice A9 N2 c9) (show b2 ≠ b3 by have := G3.out; omega) P9.out)
  have R10 := Lib.hid (row_set R8.out (Nat.le_refl _) b3 0 (.slice A9 N2 c9) (box_lt Q6.out))
  have Q10 := Lib.hid (set_row Q9.out 0 (.slice A9 N2 c9))
  have B10 := Lib.hid (B9.out.setCell (p := ⟨b3, 0, none⟩) (by have := G2.out; have := G3.out; dsimp only; omega) (.slice A9 N2 c9))
  clear d9 g9 q8
  generalize w9.setCell ⟨b3, 0, none⟩ (.slice A9 N2 c9) = X10 at *
  have S2 := Lib.hid (same_at _ _ M X10 R10.out.iat R9.out.iat (by rw [HN2.out]; exact LD.out))
  have q10 := (one_cell P10.out).1
  have q11 : X10.cell? ⟨b3, 0, none⟩ = some (.slice A9 N2 c9) := (one_cell Q10.out).1
  go_wp2_with (first
    | (go_at_call 17; refine S2.out.mono ?_; rintro e w11 ⟨rfl, hb⟩; have B11 := Lib.hid (below_end B10.out hb); clear hb)
    | (go_at_call 12; refine (AW.out _).mono ?_; rintro e w12 ⟨rfl, hb⟩; have B12 := Lib.hid (below_end B11.out hb); clear hb))
  refine bodyPost_ret (v := .bool true) (by simp [results, Try.f4, go_sem]) rfl ⟨rfl, B12.out⟩
end Ytjanicngedkhnaa
end Go.Proofs
