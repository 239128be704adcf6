/- The law of Of and Join. -/
import Derived.Test.YtjanicngedkhnaaSlCc
namespace Go.Proofs
namespace Ytjanicngedkhnaa
open Go.RowKit

theorem of_len2 (l : List Int) : (ofA l).1.length ≤ 1000000 := by
  unfold ofA
  by_cases h : 4000 < l.length
  · rw [if_pos h]; exact Nat.zero_le _
  · rw [if_neg h]
    by_cases h2 : l.all isA = true
    · rw [if_pos h2]
      have := adds_len new_good (all_isA.1 h2)
      dsimp only
      omega
    · rw [if_neg h2]; exact Nat.zero_le _
theorem join_len2 (cs ts : List Int) : (joinA cs ts).1.length ≤ 1000000 := by
  by_cases hg : (chkF cs).2 ≠ 0
  · rw [join_1 hg]; exact Nat.zero_le _
  · by_cases hg2 : (chkF ts).2 ≠ 0
    · rw [join_2 hg hg2]; exact Nat.zero_le _
    · rw [join_3 hg hg2]
      have := adds_len (good_of_chk (Classical.byContradiction hg)) (fun x hx => (mem_srt.1 hx).1 : ∀ x ∈ srt ts, 1 ≤ x ∧ x ≤ 1600)
      dsimp only
      omega
set_option maxRecDepth 100000 in
set_option maxHeartbeats 400000 in
theorem makes5_far (v : Value) (cs : List Int) (u : Value) (ts : List Int) (x : Value) (l : List Int) (w : World) (h : IAt w v cs) (hu : IAt w u ts) (hx : IAt w x l)
    (hf : farB cs.length = true ∨ farB ts.length = true ∨ (300 < l.length ∧ l.length ≤ 4000) ∨ 4005 < l.length) :
    Calls Try.prog 5 #[.agg #[v], .agg #[u], x] w fun e w' => e = .returned (.bool true) ∧ Below w.heap.size w w' := by
  obtain ⟨h0, h1, hs, hb⟩ := two_boxes w (.cells #[v] 24) (.cells #[u] 24)
  have FA := Lib.hid (far_at h)
  have FB := Lib.hid (far_at hu)
  have AW := Lib.hid awake12
  have Z0 := Lib.hid trivial
  obtain ⟨A, cap, rfl, -⟩ := h
  obtain ⟨A2, cap2, rfl, -⟩ := hu
  obtain ⟨A3, cap3, rfl, -⟩ := hx
  have q := (one_cell h0).1
  have B0 := Lib.hid hb
  have K1 := Lib.hid h1
  unfold sv at *
  generalize cs.length = n at *
  generalize ts.length = n2 at *
  generalize l.length = m at *
  generalize hfa : farB n = fa at *
  generalize hfb : farB n2 = fb at *
  clear h0 h1 hs hb hfa hfb
  cases fa with
  | true =>
    clear hf
    go_enter Try.func5, Try.ntmps5
    go_wp2_with (first
      | (go_at_call 11; have z := Z0.out; refine (FA.out _ B0.out).mono ?_; rintro e w1 ⟨rfl, hb⟩; have B1 := Lib.hid (below_end B0.out hb); have q1 := (one_cell (keep_heap hb K1.out)).1; clear hb Z0 z)
      | (go_at_call 11; refine (FB.out _ B1.out).mono ?_; rintro e w2 ⟨rfl, hb⟩; have B2 := Lib.hid (below_end B1.out hb); clear hb)
      | (go_at_call 12; refine (AW.out _).mono ?_; rintro e w3 ⟨rfl, hb⟩; have B3 := Lib.hid (below_end B1.out hb); clear hb))
    refine bodyPost_ret (v := .bool true) (by simp [results, Try.f5, go_sem]) rfl ⟨rfl, B3.out⟩
  | false =>
  cases fb with
  | true =>
    clear hf
    go_enter Try.func5, Try.ntmps5
    go_wp2_with (first
      | (go_at_call 11; have z := Z0.out; refine (FA.out _ B0.out).mono ?_; rintro e w1 ⟨rfl, hb⟩; have B1 := Lib.hid (below_end B0.out hb); have q1 := (one_cell (keep_heap hb K1.out)).1; clear hb Z0 z)
      | (go_at_call 11; refine (FB.out _ B1.out).mono ?_; rintro e w2 ⟨rfl, hb⟩; have B2 := Lib.hid (below_end B1.out hb); clear hb)
      | (go_at_call 12; refine (AW.out _).mono ?_; rintro e w3 ⟨rfl, hb⟩; have B3 := Lib.hid (below_end B2.out hb); clear hb))
    refine bodyPost_ret (v := .bool true) (by simp [results, Try.f5, go_sem]) rfl ⟨rfl, B3.out⟩
  | false =>
  have hf : (300 < m ∧ m ≤ 4000) ∨ 4005 < m := by simpa using hf
  by_cases h5 : 4005 < m
  · have q3 : decide ((300 : Int) < (m : Int)) = true := decide_eq_true (by omega)
    have q3' : (300 : Int) < (m : Int) := by omega
    have q4 : decide ((m : Int) ≤ 4000) = false := decide_eq_false (by omega)
    have q4' : ¬ (m : Int) ≤ 4000 := by omega
    have q5 : decide ((4005 : Int) < (m : Int)) = true := decide_eq_true (by omega)
    have q5' : (4005 : Int) < (m : Int) := by omega
    clear hf h5
    go_enter Try.func5, Try.ntmps5
    go_wp2_with (first
      | (go_at_call 11; have z := Z0.out; refine (FA.out _ B0.out).mono ?_; rintro e w1 ⟨rfl, hb⟩; have B1 := Lib.hid (below_end B0.out hb); have q1 := (one_cell (keep_heap hb K1.out)).1; clear hb Z0 z)
      | (go_at_call 11; refine (FB.out _ B1.out).mono ?_; rintro e w2 ⟨rfl, hb⟩; have B2 := Lib.hid (below_end B1.out hb); clear hb)
      | (go_at_call 12; refine (AW.out _).mono ?_; rintro e w3 ⟨rfl, hb⟩; have B3 := Lib.hid (below_end B2.out hb); clear hb))
    refine bodyPost_ret (v := .bool true) (by simp [results, Try.f5, go_sem]) rfl ⟨rfl, B3.out⟩
  · have q3 : decide ((300 : Int) < (m : Int)) = true := decide_eq_true (by omega)
    have q3' : (300 : Int) < (m : Int) := by omega
    have q4 : decide ((m : Int) ≤ 4000) = true := decide_eq_true (by omega)
    have q4' : (m : Int) ≤ 4000 := by omega
    clear hf h5
    go_enter Try.func5, Try.ntmps5
    go_wp2_with (first
      | (go_at_call 11; have z := Z0.out; refine (FA.out _ B0.out).mono ?_; rintro e w1 ⟨rfl, hb⟩; have B1 := Lib.hid (below_end B0.out hb); have q1 := (one_cell (keep_heap hb K1.out)).1; clear hb Z0 z)
      | (go_at_call 11; refine (FB.out _ B1.out).mono ?_; rintro e w2 ⟨rfl, hb⟩; have B2 := Lib.hid (below_end B1.out hb); clear hb)
      | (go_at_call 12; refine (AW.out _).mono ?_; rintro e w3 ⟨rfl, hb⟩; have B3 := Lib.hid (below_end B2.out hb); clear hb))
    refine bodyPost_ret (v := .bool true) (by simp [results, Try.f5, go_sem]) rfl ⟨rfl, B3.out⟩
set_option maxRecDepth 100000 in
set_option maxHeartbeats 400000 in
theorem makes5 (v : Value) (cs : List Int) (u : Value) (ts : List Int) (x : Value) (l : List Int) (w : World) (h : IAt w v cs) (hu : IAt w u ts) (hx : IAt w x l) :
    Calls Try.prog 5 #[.agg #[v], .agg #[u], x] w fun e w' => e = .returned (.bool true) ∧ Below w.heap.size w w' := by
  by_cases hf : farB cs.length = true ∨ farB ts.length = true ∨ (300 < l.length ∧ l.length ≤ 4000) ∨ 4005 < l.length
  · exact makes5_far v cs u ts x l w h hu hx hf
  obtain ⟨f1, f2, f3, f4⟩ : farB cs.length = false ∧ farB ts.length = false ∧ ¬ (300 < l.length ∧ l.length ≤ 4000) ∧ ¬ 4005 < l.length := by
    simp only [not_or, Bool.not_eq_true] at hf; exact hf
  have m1 := far_no f1
  have m2 := far_no f2
  obtain ⟨h0, h1, hs, hb⟩ := two_boxes w (.cells #[v] 24) (.cells #[u] 24)
  have FA := Lib.hid (far_at h)
  have FB := Lib.hid (far_at hu)
  rw [f1] at FA
  rw [f2] at FB
  have AW := Lib.hid awake12
  have Z0 := Lib.hid trivial
  have C1 := Lib.hid (fun W (hb : Below w.heap.size w W) => (of31 x l W (hx.below hb) (by omega)).mono fun e w' h => h.form2)
  have C2 := Lib.hid (fun W (hb : Below w.heap.size w W) => (rof32 x l W (hx.below hb) (by omega)).mono fun e w' h => h.form2)
  have C3 := Lib.hid (fun W (hb : Below w.heap.size w W) => (join33 v cs u ts W (h.below hb) (hu.below hb) (by omega) (by omega)).mono fun e w' h => h.form2)
  have C4 := Lib.hid (fun W (hb : Below w.heap.size w W) => (rjoin34 v cs u ts W (h.below hb) (hu.below hb) (by omega) (by omega)).mono fun e w' h => h.form2)
  have LO := Lib.hid (of_len2 l)
  have LJ := Lib.hid (join_len2 cs ts)
  obtain ⟨A, cap, rfl, -⟩ := h
  obtain ⟨A2, cap2, rfl, -⟩ := hu
  obtain ⟨A3, cap3, rfl, -⟩ := hx
  have q := (one_cell h0).1
  have B0 := Lib.hid hb
  have K0 := Lib.hid h0
  have M0 := Lib.hid h1
  unfold sv at *
  generalize ofA l = r1 at *
  generalize joinA cs ts = r2 at *
  obtain ⟨L, e1⟩ := r1
  obtain ⟨M, e2⟩ := r2
  dsimp only at *
  generalize hN : L.length = N at *
  generalize hN2 : M.length = N2 at *
  have HN := Lib.hid hN
  have HN2 := Lib.hid hN2
  generalize cs.length = n at *
  generalize ts.length = n2 at *
  generalize l.length = m at *
  clear h0 h1 hs hb hN hN2 hf f1 f2 m1 m2
  have G : ∀ b3 : Bool, b3 = decide ((300 : Int) < (m : Int)) → True := fun _ _ => trivial
  clear G
  by_cases h3 : 300 < m
  · have q3 : decide ((300 : Int) < (m : Int)) = true := decide_eq_true (by omega)
    have q3' : (300 : Int) < (m : Int) := by omega
    have q4 : decide ((m : Int) ≤ 4000) = false := decide_eq_false (by omega)
    have q4' : ¬ (m : Int) ≤ 4000 := by omega
    have q5 : decide ((4005 : Int) < (m : Int)) = false := decide_eq_false (by omega)
    have q5' : ¬ (4005 : Int) < (m : Int) := by omega
    clear h3 f3 f4
    go_enter Try.func5, Try.ntmps5
    go_upto_region 4 with (first
      | (go_at_call 11; have z := Z0.out; refine (FA.out _ B0.out).mono ?_; rintro e w1 ⟨rfl, hb⟩; have B1 := Lib.hid (below_end B0.out hb); have K1 := Lib.hid (keep_heap hb K0.out); have M1 := Lib.hid (keep_heap hb M0.out); have q1 := (one_cell M1.out).1; clear hb Z0 z)
      | (go_at_call 11; refine (FB.out _ B1.out).mono ?_; rintro e w2 ⟨rfl, hb⟩; have B2 := Lib.hid (below_end B1.out hb); have K2 := Lib.hid (keep_heap hb K1.out); have M2 := Lib.hid (keep_heap hb M1.out); clear hb)
      | (go_at_call 31; refine (C1.out _ B2.out).mono ?_; rintro e w3 ⟨A4, c4, rfl, hi, hb⟩; have B3 := Lib.hid (below_end B2.out hb); have K3 := Lib.hid (keep_heap hb K2.out); have M3 := Lib.hid (keep_heap hb M2.out); have I1 := Lib.hid hi; clear hb hi))
    clear q q1
    have ba := alloc_below w3 (.cells #[.slice A4 N c4] 24)
    have P1 := Lib.hid (heap_alloc_new w3 (.cells #[.slice A4 N c4] 24))
    obtain ⟨b1, hb1⟩ : ∃ b, w3.heap.size = b := ⟨_, rfl⟩
    rw [hb1] at P1
    try rw [hb1]
    generalize w3.alloc (.cells #[.slice A4 N c4] 24) = X1 at *
    have B3 := Lib.hid (below_end B3.out ba)
    have K3 := Lib.hid (keep_heap ba K3.out)
    have M3 := Lib.hid (keep_heap ba M3.out)
    have I1 := Lib.hid (I1.out.below ba)
    clear ba
    go_upto_region 5 with (go_at_call 32; refine (C2.out _ B3.out).mono ?_; rintro e w4 ⟨A5, c5, rfl, hi, hb⟩; have B4 := Lib.hid (below_end B3.out hb); have K4 := Lib.hid (keep_heap hb K3.out); have M4 := Lib.hid (keep_heap hb M3.out); have P1 := Lib.hid (keep_heap hb P1.out); have I1 := Lib.hid (I1.out.below hb); have I2 := Lib.hid hi; clear hb hi)
    have ba := alloc_below w4 (.cells #[.slice A5 N c5] 24)
    have P2 := Lib.hid (heap_alloc_new w4 (.cells #[.slice A5 N c5] 24))
    obtain ⟨b2, hb2⟩ : ∃ b, w4.heap.size = b := ⟨_, rfl⟩
    rw [hb2] at P2
    try rw [hb2]
    generalize w4.alloc (.cells #[.slice A5 N c5] 24) = X2 at *
    have B4 := Lib.hid (below_end B4.out ba)
    have K4 := Lib.hid (keep_heap ba K4.out)
    have M4 := Lib.hid (keep_heap ba M4.out)
    have P1 := Lib.hid (keep_heap ba P1.out)
    have I1 := Lib.hid (I1.out.below ba)
    have I2 := Lib.hid (I2.out.below ba)
    have q6 := (one_cell K4.out).1
    have q7 := (one_cell M4.out).1
    clear ba
    go_upto_region 6 with (go_at_call 33; refine (C3.out _ B4.out).mono ?_; rintro e w5 ⟨A6, c6, rfl, hi, hb⟩; have B5 := Lib.hid (below_end B4.out hb); have K5 := Lib.hid (keep_heap hb K4.out); have M5 := Lib.hid (keep_heap hb M4.out); have P1 := Lib.hid (keep_heap hb P1.out); have P2 := Lib.hid (keep_heap hb P2.out); have I1 := Lib.hid (I1.out.below hb); have I2 := Lib.hid (I2.out.below hb); have I3 := Lib.hid hi; clear hb hi)
    clear q6 q7
    have ba := alloc_below w5 (.cells #[.slice A6 N2 c6] 24)
    have P3 := Lib.hid (heap_alloc_new w5 (.cells #[.slice A6 N2 c6] 24))
    obtain ⟨b3, hb3⟩ : ∃ b, w5.heap.size = b := ⟨_, rfl⟩
    rw [hb3] at P3
    try rw [hb3]
    generalize w5.alloc (.cells #[.slice A6 N2 c6] 24) = X3 at *
    have B5 := Lib.hid (below_end B5.out ba)
    have K5 := Lib.hid (keep_heap ba K5.out)
    have M5 := Lib.hid (keep_heap ba M5.out)
    have P1 := Lib.hid (keep_heap ba P1.out)
    have P2 := Lib.hid (keep_heap ba P2.out)
    have I1 := Lib.hid (I1.out.below ba)
    have I2 := Lib.hid (I2.out.below ba)
    have I3 := Lib.hid (I3.out.below ba)
    have q8 := (one_cell K5.out).1
    have q9 := (one_cell M5.out).1
    clear ba
    go_upto_region 7 with (go_at_call 34; refine (C4.out _ B5.out).mono ?_; rintro e w6 ⟨A7, c7, rfl, hi, hb⟩; have B6 := Lib.hid (below_end B5.out hb); have P1 := Lib.hid (keep_heap hb P1.out); have P2 := Lib.hid (keep_heap hb P2.out); have P3 := Lib.hid (keep_heap hb P3.out); have I1 := Lib.hid (I1.out.below hb); have I2 := Lib.hid (I2.out.below hb); have I3 := Lib.hid (I3.out.below hb); have I4 := Lib.hid hi; clear hb hi)
    clear q8 q9
    have ba := alloc_below w6 (.cells #[.slice A7 N2 c7] 24)
    have P4 := Lib.hid (heap_alloc_new w6 (.cells #[.slice A7 N2 c7] 24))
    obtain ⟨b4, hb4⟩ : ∃ b, w6.heap.size = b := ⟨_, rfl⟩
    rw [hb4] at P4
    try rw [hb4]
    generalize w6.alloc (.cells #[.slice A7 N2 c7] 24) = X4 at *
    have B6 := Lib.hid (below_end B6.out ba)
    have P1 := Lib.hid (keep_heap ba P1.out)
    have P2 := Lib.hid (keep_heap ba P2.out)
    have P3 := Lib.hid (keep_heap ba P3.out)
    have I3 := Lib.hid (I3.out.below ba)
    have I4 := Lib.hid (I4.out.below ba)
    have S := Lib.hid (same_at _ _ L X4 (I1.out.below ba) (I2.out.below ba) (by rw [HN.out]; exact LO.out))
    have r1 := (one_cell P1.out).1
    have r2 := (one_cell P2.out).1
    clear ba
    go_wp2_with fail
    refine S.out.mono ?_
    rintro e w7 ⟨rfl, hb⟩
    have B7 := Lib.hid (below_end B6.out hb)
    have S2 := Lib.hid (same_at _ _ M w7 (I3.out.below hb) (I4.out.below hb) (by rw [HN2.out]; exact LJ.out))
    have r3 := (one_cell (keep_heap hb P3.out)).1
    have r4 := (one_cell (keep_heap hb P4.out)).1
    clear hb r1 r2
    go_wp2_with fail
    refine S2.out.mono ?_
    rintro e w8 ⟨rfl, hb⟩
    have B8 := Lib.hid (below_end B7.out hb)
    clear hb
    go_wp2_with (go_at_call 12; refine (AW.out _).mono ?_; rintro e w9 ⟨rfl, hb⟩; have B9 := Lib.hid (below_end B8.out hb); clear hb)
    refine bodyPost_ret (v := .bool true) (by simp [results, Try.f5, go_sem]) rfl ⟨rfl, B9.out⟩
  · have q3 : decide ((300 : Int) < (m : Int)) = false := decide_eq_false (by omega)
    have q3' : ¬ (300 : Int) < (m : Int) := by omega
    have q5 : decide ((4005 : Int) < (m : Int)) = false := decide_eq_false (by omega)
    have q5' : ¬ (4005 : Int) < (m : Int) := by omega
    clear h3 f3 f4
    go_enter Try.func5, Try.ntmps5
    go_upto_region 4 with (first
      | (go_at_call 11; have z := Z0.out; refine (FA.out _ B0.out).mono ?_; rintro e w1 ⟨rfl, hb⟩; have B1 := Lib.hid (below_end B0.out hb); have K1 := Lib.hid (keep_heap hb K0.out); have M1 := Lib.hid (keep_heap hb M0.out); have q1 := (one_cell M1.out).1; clear hb Z0 z)
      | (go_at_call 11; refine (FB.out _ B1.out).mono ?_; rintro e w2 ⟨rfl, hb⟩; have B2 := Lib.hid (below_end B1.out hb); have K2 := Lib.hid (keep_heap hb K1.out); have M2 := Lib.hid (keep_heap hb M1.out); clear hb)
      | (go_at_call 31; refine (C1.out _ B2.out).mono ?_; rintro e w3 ⟨A4, c4, rfl, hi, hb⟩; have B3 := Lib.hid (below_end B2.out hb); have K3 := Lib.hid (keep_heap hb K2.out); have M3 := Lib.hid (keep_heap hb M2.out); have I1 := Lib.hid hi; clear hb hi))
    clear q q1
    have ba := alloc_below w3 (.cells #[.slice A4 N c4] 24)
    have P1 := Lib.hid (heap_alloc_new w3 (.cells #[.slice A4 N c4] 24))
    obtain ⟨b1, hb1⟩ : ∃ b, w3.heap.size = b := ⟨_, rfl⟩
    rw [hb1] at P1
    try rw [hb1]
    generalize w3.alloc (.cells #[.slice A4 N c4] 24) = X1 at *
    have B3 := Lib.hid (below_end B3.out ba)
    have K3 := Lib.hid (keep_heap ba K3.out)
    have M3 := Lib.hid (keep_heap ba M3.out)
    have I1 := Lib.hid (I1.out.below ba)
    clear ba
    go_upto_region 5 with (go_at_call 32; refine (C2.out _ B3.out).mono ?_; rintro e w4 ⟨A5, c5, rfl, hi, hb⟩; have B4 := Lib.hid (below_end B3.out hb); have K4 := Lib.hid (keep_heap hb K3.out); have M4 := Lib.hid (keep_heap hb M3.out); have P1 := Lib.hid (keep_heap hb P1.out); have I1 := Lib.hid (I1.out.below hb); have I2 := Lib.hid hi; clear hb hi)
    have ba := alloc_below w4 (.cells #[.slice A5 N c5] 24)
    have P2 := Lib.hid (heap_alloc_new w4 (.cells #[.slice A5 N c5] 24))
    obtain ⟨b2, hb2⟩ : ∃ b, w4.heap.size = b := ⟨_, rfl⟩
    rw [hb2] at P2
    try rw [hb2]
    generalize w4.alloc (.cells #[.slice A5 N c5] 24) = X2 at *
    have B4 := Lib.hid (below_end B4.out ba)
    have K4 := Lib.hid (keep_heap ba K4.out)
    have M4 := Lib.hid (keep_heap ba M4.out)
    have P1 := Lib.hid (keep_heap ba P1.out)
    have I1 := Lib.hid (I1.out.below ba)
    have I2 := Lib.hid (I2.out.below ba)
    have q6 := (one_cell K4.out).1
    have q7 := (one_cell M4.out).1
    clear ba
    go_upto_region 6 with (go_at_call 33; refine (C3.out _ B4.out).mono ?_; rintro e w5 ⟨A6, c6, rfl, hi, hb⟩; have B5 := Lib.hid (below_end B4.out hb); have K5 := Lib.hid (keep_heap hb K4.out); have M5 := Lib.hid (keep_heap hb M4.out); have P1 := Lib.hid (keep_heap hb P1.out); have P2 := Lib.hid (keep_heap hb P2.out); have I1 := Lib.hid (I1.out.below hb); have I2 := Lib.hid (I2.out.below hb); have I3 := Lib.hid hi; clear hb hi)
    clear q6 q7
    have ba := alloc_below w5 (.cells #[.slice A6 N2 c6] 24)
    have P3 := Lib.hid (heap_alloc_new w5 (.cells #[.slice A6 N2 c6] 24))
    obtain ⟨b3, hb3⟩ : ∃ b, w5.heap.size = b := ⟨_, rfl⟩
    rw [hb3] at P3
    try rw [hb3]
    generalize w5.alloc (.cells #[.slice A6 N2 c6] 24) = X3 at *
    have B5 := Lib.hid (below_end B5.out ba)
    have K5 := Lib.hid (keep_heap ba K5.out)
    have M5 := Lib.hid (keep_heap ba M5.out)
    have P1 := Lib.hid (keep_heap ba P1.out)
    have P2 := Lib.hid (keep_heap ba P2.out)
    have I1 := Lib.hid (I1.out.below ba)
    have I2 := Lib.hid (I2.out.below ba)
    have I3 := Lib.hid (I3.out.below ba)
    have q8 := (one_cell K5.out).1
    have q9 := (one_cell M5.out).1
    clear ba
    go_upto_region 7 with (go_at_call 34; refine (C4.out _ B5.out).mono ?_; rintro e w6 ⟨A7, c7, rfl, hi, hb⟩; have B6 := Lib.hid (below_end B5.out hb); have P1 := Lib.hid (keep_heap hb P1.out); have P2 := Lib.hid (keep_heap hb P2.out); have P3 := Lib.hid (keep_heap hb P3.out); have I1 := Lib.hid (I1.out.below hb); have I2 := Lib.hid (I2.out.below hb); have I3 := Lib.hid (I3.out.below hb); have I4 := Lib.hid hi; clear hb hi)
    clear q8 q9
    have ba := alloc_below w6 (.cells #[.slice A7 N2 c7] 24)
    have P4 := Lib.hid (heap_alloc_new w6 (.cells #[.slice A7 N2 c7] 24))
    obtain ⟨b4, hb4⟩ : ∃ b, w6.heap.size = b := ⟨_, rfl⟩
    rw [hb4] at P4
    try rw [hb4]
    generalize w6.alloc (.cells #[.slice A7 N2 c7] 24) = X4 at *
    have B6 := Lib.hid (below_end B6.out ba)
    have P1 := Lib.hid (keep_heap ba P1.out)
    have P2 := Lib.hid (keep_heap ba P2.out)
    have P3 := Lib.hid (keep_heap ba P3.out)
    have I3 := Lib.hid (I3.out.below ba)
    have I4 := Lib.hid (I4.out.below ba)
    have S := Lib.hid (same_at _ _ L X4 (I1.out.below ba) (I2.out.below ba) (by rw [HN.out]; exact LO.out))
    have r1 := (one_cell P1.out).1
    have r2 := (one_cell P2.out).1
    clear ba
    go_wp2_with fail
    refine S.out.mono ?_
    rintro e w7 ⟨rfl, hb⟩
    have B7 := Lib.hid (below_end B6.out hb)
    have S2 := Lib.hid (same_at _ _ M w7 (I3.out.below hb) (I4.out.below hb) (by rw [HN2.out]; exact LJ.out))
    have r3 := (one_cell (keep_heap hb P3.out)).1
    have r4 := (one_cell (keep_heap hb P4.out)).1
    clear hb r1 r2
    go_wp2_with fail
    refine S2.out.mono ?_
    rintro e w8 ⟨rfl, hb⟩
    have B8 := Lib.hid (below_end B7.out hb)
    clear hb
    go_wp2_with (go_at_call 12; refine (AW.out _).mono ?_; rintro e w9 ⟨rfl, hb⟩; have B9 := Lib.hid (below_end B8.out hb); clear hb)
    refine bodyPost_ret (v := .bool true) (by simp [results, Try.f5, go_sem]) rfl ⟨rfl, B9.out⟩
end Ytjanicngedkhnaa
end Go.Proofs
