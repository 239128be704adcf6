/- The law of Check, Len, List, Range and New. -/
import Derived.Test.YtjanicngedkhnaaSlCb
namespace Go.Proofs
namespace Ytjanicngedkhnaa
open Go.RowKit

theorem far_at {v : Value} {cs : List Int} {w : World} (h : IAt w v cs) : ∀ W, Below w.heap.size w W → Calls Try.prog 11 #[sv v] W fun e w' => e = .returned (.bool (farB cs.length)) ∧ Below W.heap.size W w' := fun W hb => far11 v cs W (h.below hb)
theorem LiAns.form {w w' : World} {R : List Int × Int} {e : Ending} (h : LiAns w R e w') : ∃ A cp, e = .returned (.tuple #[.slice A R.1.length cp, .int .i64 R.2]) ∧ IAt w' (.slice A R.1.length cp) R.1 ∧ Below w.heap.size w w' := by
  obtain ⟨v, h1, h2, h3⟩ := h
  obtain ⟨A, cp, rfl⟩ := own_form h2
  exact ⟨A, cp, h1, IAt.of_own h2, h3⟩
theorem SbAns.form2 {w w' : World} {R : List Int × Bool × Int} {e : Ending} (h : SbAns w R e w') : ∃ A cp, e = .returned (.tuple #[.agg #[.slice A R.1.length cp], .bool R.2.1, .int .i64 R.2.2]) ∧ IAt w' (.slice A R.1.length cp) R.1 ∧ Below w.heap.size w w' := by
  obtain ⟨v, h1, h2, h3⟩ := h
  obtain ⟨A, cp, rfl⟩ := own_form h2
  exact ⟨A, cp, h1, IAt.of_own h2, h3⟩
theorem SnAns.form2 {w w' : World} {R : List Int × Int × Int} {e : Ending} (h : SnAns w R e w') : ∃ A cp, e = .returned (.tuple #[.agg #[.slice A R.1.length cp], .int .i64 R.2.1, .int .i64 R.2.2]) ∧ IAt w' (.slice A R.1.length cp) R.1 ∧ Below w.heap.size w w' := by
  obtain ⟨v, h1, h2, h3⟩ := h
  obtain ⟨A, cp, rfl⟩ := own_form h2
  exact ⟨A, cp, h1, IAt.of_own h2, h3⟩
theorem SeAns.form2 {w w' : World} {R : List Int × Int} {e : Ending} (h : SeAns w R e w') : ∃ A cp, e = .returned (.tuple #[.agg #[.slice A R.1.length cp], .int .i64 R.2]) ∧ IAt w' (.slice A R.1.length cp) R.1 ∧ Below w.heap.size w w' := by
  obtain ⟨v, h1, h2, h3⟩ := h
  obtain ⟨A, cp, rfl⟩ := own_form h2
  exact ⟨A, cp, h1, IAt.of_own h2, h3⟩
/-- Ints of two slices with the same numbers -/
theorem ints_same (u v : Value) (l : List Int) (W : World) (h : IAt W u l) (h2 : IAt W v l) (hl : l.length ≤ 1000000) : Calls Try.prog 24 #[u, v] W fun e w' => e = .returned (.bool true) ∧ Below W.heap.size W w' := by
  have := rints24 u v l l hl W h h2
  rwa [decide_eq_true rfl] at this
theorem same_at (u v : Value) (l : List Int) (W : World) (h : IAt W u l) (h2 : IAt W v l) (hl : l.length ≤ 1000000) : Calls Try.prog 17 #[.agg #[u], .agg #[v]] W fun e w' => e = .returned (.bool true) ∧ Below W.heap.size W w' := same17 u v l W h h2 hl
set_option maxRecDepth 100000 in
set_option maxHeartbeats 400000 in
theorem checks3 (v : Value) (cs : List Int) (f t : Int) (w : World) (h : IAt w v cs) :
    Calls Try.prog 3 #[.agg #[v], .int .i64 f, .int .i64 t] w fun e w' => e = .returned (.bool true) ∧ Below w.heap.size w w' := by
  have h0 := heap_alloc_new w (.cells #[v] 24)
  have hb := alloc_below w (.cells #[v] 24)
  have FA := Lib.hid (far_at h)
  have AW := Lib.hid awake12
  by_cases hf : farB cs.length = true
  · rw [hf] at FA
    obtain ⟨A, cap, rfl, -⟩ := h
    have q := (one_cell h0).1
    have B0 := Lib.hid hb
    unfold sv at *
    clear h0 hb hf
    go_enter Try.func3, Try.ntmps3
    go_wp2_with (first
      | (go_at_call 11; refine (FA.out _ B0.out).mono ?_; rintro e w1 ⟨rfl, hb⟩; have B1 := Lib.hid (below_end B0.out hb); clear hb)
      | (go_at_call 12; refine (AW.out _).mono ?_; rintro e w2 ⟨rfl, hb⟩; have B2 := Lib.hid (below_end B1.out hb); clear hb))
    refine bodyPost_ret (v := .bool true) (by simp [results, Try.f3, go_sem]) rfl ⟨rfl, B2.out⟩
  have hfn : farB cs.length = false := by simpa using hf
  have hm := far_no hfn
  have hm1 : cs.length ≤ 100000 := by omega
  rw [hfn] at FA
  have C1 := Lib.hid (fun W (hb : Below w.heap.size w W) => check13 v cs W (h.below hb) hm1)
  have C2 := Lib.hid (fun W (hb : Below w.heap.size w W) => rcheck14 v cs W (h.below hb) hm1)
  have C3 := Lib.hid (fun W (hb : Below w.heap.size w W) => len15 v cs W (h.below hb) hm1)
  have C4 := Lib.hid (fun W (hb : Below w.heap.size w W) => rlen16 v cs W (h.below hb) hm1)
  have C5 := Lib.hid (fun W (hb : Below w.heap.size w W) => (list20 v cs W (h.below hb) hm1).mono fun e w' h => h.form)
  have C6 := Lib.hid (fun W (hb : Below w.heap.size w W) => (rlist21 v cs W (h.below hb) hm1).mono fun e w' h => h.form)
  have C7 := Lib.hid (fun W (hb : Below w.heap.size w W) => (range22 v cs f t W (h.below hb) hm1).mono fun e w' h => h.form)
  have C8 := Lib.hid (fun W (hb : Below w.heap.size w W) => (rrange23 v cs f t W (h.below hb) hm1).mono fun e w' h => h.form)
  have N1 := Lib.hid (fun W => (new18 W).mono fun e w' ⟨x, h1, h2⟩ => (show ∃ u, e = Ending.returned (.agg #[u]) ∧ IAt w' u newF ∧ Below W.heap.size W w' from by
    obtain ⟨u, rfl, h3, h4⟩ := h2.row (by decide)
    exact ⟨u, h1, h3.iat, h4⟩))
  have N2 := Lib.hid (fun W => (rnew19 W).mono fun e w' ⟨x, h1, h2⟩ => (show ∃ u, e = Ending.returned (.agg #[u]) ∧ IAt w' u newF ∧ Below W.heap.size W w' from by
    obtain ⟨u, rfl, h3, h4⟩ := h2.row (by decide)
    exact ⟨u, h1, h3.iat, h4⟩))
  have NL := Lib.hid (show newF.length ≤ 1000000 by decide)
  have LL := Lib.hid (show (listA cs).1.length ≤ 1000000 by have := range_len cs 1 1601; unfold listA; omega)
  have LR := Lib.hid (show (rangeA cs f t).1.length ≤ 1000000 by have := range_len cs f t; omega)
  obtain ⟨A, cap, rfl, -⟩ := h
  have B0 := Lib.hid hb
  have K0 := Lib.hid h0
  unfold sv at *
  generalize newF = nf at *
  generalize chkF cs = r1 at *
  generalize lenA cs = r2 at *
  generalize listA cs = r3 at *
  generalize rangeA cs f t = r4 at *
  obtain ⟨r1a, r1b⟩ := r1
  obtain ⟨r2a, r2b⟩ := r2
  obtain ⟨L3, e3⟩ := r3
  obtain ⟨L4, e4⟩ := r4
  dsimp only at *
  generalize cs.length = n at *
  have q := (one_cell K0.out).1
  clear h0 hb hf hfn hm hm1
  go_enter Try.func3, Try.ntmps3
  go_upto_region 7 with (first
    | (go_at_call 11; refine (FA.out _ B0.out).mono ?_; rintro e w1 ⟨rfl, hb⟩; have B1 := Lib.hid (below_end B0.out hb); have K1 := Lib.hid (keep_heap hb K0.out); have q1 := (one_cell K1.out).1; clear hb)
    | (go_at_call 13; refine (C1.out _ B1.out).mono ?_; rintro e w2 ⟨rfl, hb⟩; have B2 := Lib.hid (below_end B1.out hb); have K2 := Lib.hid (keep_heap hb K1.out); have q2 := (one_cell K2.out).1; clear hb)
    | (go_at_call 14; refine (C2.out _ B2.out).mono ?_; rintro e w3 ⟨rfl, hb⟩; have B3 := Lib.hid (below_end B2.out hb); have K3 := Lib.hid (keep_heap hb K2.out); have q3 := (one_cell K3.out).1; clear hb)
    | (go_at_call 15; refine (C3.out _ B3.out).mono ?_; rintro e w4 ⟨rfl, hb⟩; have B4 := Lib.hid (below_end B3.out hb); have K4 := Lib.hid (keep_heap hb K3.out); have q4 := (one_cell K4.out).1; clear hb)
    | (go_at_call 16; refine (C4.out _ B4.out).mono ?_; rintro e w5 ⟨rfl, hb⟩; have B5 := Lib.hid (below_end B4.out hb); have K5 := Lib.hid (keep_heap hb K4.out); have q5 := (one_cell K5.out).1; clear hb))
  clear q q1 q2 q3 q4
  go_upto_region 9 with (first
    | (go_at_call 18; refine (N1.out _).mono ?_; rintro e w6 ⟨u6, rfl, hi, hb⟩; have B6 := Lib.hid (below_end B5.out hb); have K6 := Lib.hid (keep_heap hb K5.out); have I6 := Lib.hid hi; obtain ⟨A6, c6, rfl, -⟩ := hi; clear hb)
    | (go_at_call 19; refine (N2.out _).mono ?_; rintro e w7 ⟨u7, rfl, hi, hb⟩; have B7 := Lib.hid (below_end B6.out hb); have K7 := Lib.hid (keep_heap hb K6.out); have S7 := Lib.hid (same_at _ _ nf w7 (I6.out.below hb) hi NL.out); obtain ⟨A7, c7, rfl, -⟩ := hi; clear hb)
    | (go_at_call 17; refine S7.out.mono ?_; rintro e w8 ⟨rfl, hb⟩; have B8 := Lib.hid (below_end B7.out hb); have K8 := Lib.hid (keep_heap hb K7.out); have q8 := (one_cell K8.out).1; clear hb))
  clear q5
  go_upto_region 13 with (first
    | (go_at_call 20; refine (C5.out _ B8.out).mono ?_; rintro e w9 ⟨A9, c9, rfl, hi, hb⟩; have B9 := Lib.hid (below_end B8.out hb); have K9 := Lib.hid (keep_heap hb K8.out); have q9 := (one_cell K9.out).1; have I9 := Lib.hid hi; clear hb hi)
    | (go_at_call 21; refine (C6.out _ B9.out).mono ?_; rintro e w10 ⟨A10, c10, rfl, hi, hb⟩; have B10 := Lib.hid (below_end B9.out hb); have K10 := Lib.hid (keep_heap hb K9.out); have q10 := (one_cell K10.out).1; have I10 := Lib.hid hi; have J10 := Lib.hid (I9.out.below hb); clear hb hi)
    | (go_at_call 22; refine (C7.out _ B10.out).mono ?_; rintro e w11 ⟨A11, c11, rfl, hi, hb⟩; have B11 := Lib.hid (below_end B10.out hb); have K11 := Lib.hid (keep_heap hb K10.out); have q11 := (one_cell K11.out).1; have I11 := Lib.hid hi; have M11 := Lib.hid (I10.out.below hb); have J11 := Lib.hid (J10.out.below hb); clear hb hi)
    | (go_at_call 23; refine (C8.out _ B11.out).mono ?_; rintro e w12 ⟨A12, c12, rfl, hi, hb⟩; have B12 := Lib.hid (below_end B11.out hb); have S12 := Lib.hid (ints_same _ _ L3 w12 (J11.out.below hb) (M11.out.below hb) LL.out); have P12 := Lib.hid hi; have Q12 := Lib.hid (I11.out.below hb); clear hb hi))
  clear q8 q9 q10 q11
  go_wp2_with fail
  refine S12.out.mono ?_
  rintro e w13 ⟨rfl, hb⟩
  have B13 := Lib.hid (below_end B12.out hb)
  have S13 := Lib.hid (ints_same _ _ L4 w13 (Q12.out.below hb) (P12.out.below hb) LR.out)
  clear hb
  go_wp2_with fail
  refine S13.out.mono ?_
  rintro e w14 ⟨rfl, hb⟩
  have B14 := Lib.hid (below_end B13.out hb)
  clear hb
  go_wp2_with (go_at_call 12; refine (AW.out _).mono ?_; rintro e w15 ⟨rfl, hb⟩; have B15 := Lib.hid (below_end B14.out hb); clear hb)
  refine bodyPost_ret (v := .bool true) (by simp [results, Try.f3, go_sem]) rfl ⟨rfl, B15.out⟩
end Ytjanicngedkhnaa
end Go.Proofs
