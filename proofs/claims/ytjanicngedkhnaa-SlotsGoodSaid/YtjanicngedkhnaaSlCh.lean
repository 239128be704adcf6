/- The law of good tables. -/
import Derived.Test.YtjanicngedkhnaaSlChA
import Derived.Deep.Cut
namespace Go.Proofs
namespace Ytjanicngedkhnaa
open Go.RowKit

set_option maxRecDepth 100000 in
set_option maxHeartbeats 400000 in
theorem good8_far (v : Value) (cs : List Int) (u : Value) (ts : List Int) (x : Value) (l : List Int) (w : World) (h : IAt w v cs) (hu : IAt w u ts) (hx : IAt w x l)
    (hf : farB cs.length = true ∨ farB ts.length = true ∨ 300 < l.length) :
    Calls Try.prog 8 #[.agg #[v], .agg #[u], x] w fun e w' => e = .returned (.bool true) ∧ Below w.heap.size w w' := by
  obtain ⟨h0, h1, hs, hb⟩ := two_boxes w (.cells #[v] 24) (.cells #[u] 24)
  have FA := Lib.hid (far_at h)
  have FB := Lib.hid (far_at hu)
  have AW := Lib.hid awake12
  have Z0 := Lib.hid trivial
  obtain ⟨A, cap, rfl, -⟩ := h
  obtain ⟨A2, cap2, rfl, -⟩ := hu
  obtain ⟨A3, cap3, rfl, -⟩ := hx
  have q := (one_cell h0).1
  have B0 := Lib.hid hb
  have K1 := Lib.hid h1
  unfold sv at *
  generalize cs.length = n at *
  generalize ts.length = n2 at *
  generalize l.length = m at *
  generalize hfa : farB n = fa at *
  generalize hfb : farB n2 = fb at *
  clear h0 h1 hs hb hfa hfb
  cases fa with
  | true =>
    clear hf
    go_enter Try.func8, Try.ntmps8
    go_wp2_with (first
      | (go_at_call 11; have z := Z0.out; refine (FA.out _ B0.out).mono ?_; rintro e w1 ⟨rfl, hb⟩; have B1 := Lib.hid (below_end B0.out hb); have q1 := (one_cell (keep_heap hb K1.out)).1; clear hb Z0 z)
      | (go_at_call 11; refine (FB.out _ B1.out).mono ?_; rintro e w2 ⟨rfl, hb⟩; have B2 := Lib.hid (below_end B1.out hb); clear hb)
      | (go_at_call 12; refine (AW.out _).mono ?_; rintro e w3 ⟨rfl, hb⟩; have B3 := Lib.hid (below_end B1.out hb); clear hb))
    refine bodyPost_ret (v := .bool true) (by simp [results, Try.f8, go_sem]) rfl ⟨rfl, B3.out⟩
  | false =>
  cases fb with
  | true =>
    clear hf
    go_enter Try.func8, Try.ntmps8
    go_wp2_with (first
      | (go_at_call 11; have z := Z0.out; refine (FA.out _ B0.out).mono ?_; rintro e w1 ⟨rfl, hb⟩; have B1 := Lib.hid (below_end B0.out hb); have q1 := (one_cell (keep_heap hb K1.out)).1; clear hb Z0 z)
      | (go_at_call 11; refine (FB.out _ B1.out).mono ?_; rintro e w2 ⟨rfl, hb⟩; have B2 := Lib.hid (below_end B1.out hb); clear hb)
      | (go_at_call 12; refine (AW.out _).mono ?_; rintro e w3 ⟨rfl, hb⟩; have B3 := Lib.hid (below_end B2.out hb); clear hb))
    refine bodyPost_ret (v := .bool true) (by simp [results, Try.f8, go_sem]) rfl ⟨rfl, B3.out⟩
  | false =>
  have hf : 300 < m := by simpa using hf
  have q3 : decide ((300 : Int) < (m : Int)) = true := decide_eq_true (by omega)
  have q3' : (300 : Int) < (m : Int) := by omega
  clear hf
  go_enter Try.func8, Try.ntmps8
  go_wp2_with (first
    | (go_at_call 11; have z := Z0.out; refine (FA.out _ B0.out).mono ?_; rintro e w1 ⟨rfl, hb⟩; have B1 := Lib.hid (below_end B0.out hb); have q1 := (one_cell (keep_heap hb K1.out)).1; clear hb Z0 z)
    | (go_at_call 11; refine (FB.out _ B1.out).mono ?_; rintro e w2 ⟨rfl, hb⟩; have B2 := Lib.hid (below_end B1.out hb); clear hb)
    | (go_at_call 12; refine (AW.out _).mono ?_; rintro e w3 ⟨rfl, hb⟩; have B3 := Lib.hid (below_end B2.out hb); clear hb))
  refine bodyPost_ret (v := .bool true) (by simp [results, Try.f8, go_sem]) rfl ⟨rfl, B3.out⟩
set_option maxRecDepth 100000 in
set_option maxHeartbeats 2000000 in
theorem good8 (v : Value) (cs : List Int) (u : Value) (ts : List Int) (x : Value) (l : List Int) (w : World) (h : IAt w v cs) (hu : IAt w u ts) (hx : IAt w x l) :
    Calls Try.prog 8 #[.agg #[v], .agg #[u], x] w fun e w' => e = .returned (.bool true) ∧ Below w.heap.size w w' := by
  by_cases hf : farB cs.length = true ∨ farB ts.length = true ∨ 300 < l.length
  · exact good8_far v cs u ts x l w h hu hx hf
  obtain ⟨f1, f2, f3⟩ : farB cs.length = false ∧ farB ts.length = false ∧ ¬ 300 < l.length := by
    simp only [not_or, Bool.not_eq_true] at hf; exact hf
  have m1 := far_no f1
  have m2 := far_no f2
  obtain ⟨h0, h1, hs, hb⟩ := two_boxes w (.cells #[v] 24) (.cells #[u] 24)
  have FA := Lib.hid (far_at h)
  have FB := Lib.hid (far_at hu)
  rw [f1] at FA
  rw [f2] at FB
  have AW := Lib.hid awake12
  have Z0 := Lib.hid trivial
  have CO := Lib.hid (fun W (hb : Below w.heap.size w W) => (of31 x l W (hx.below hb) (by omega)).mono fun e w' h => h.form2)
  have CL := Lib.hid (fun y W (h : IAt W y (ofA l).1) (hm : (ofA l).1.length ≤ 8192) => len15 y _ W h (by omega))
  have CC := Lib.hid (fun y W (h : IAt W y (ofA l).1) (hm : (ofA l).1.length ≤ 8192) => rcheck14 y _ W h (by omega))
  have CJ := Lib.hid (fun W (hb : Below w.heap.size w W) => (join33 v cs u ts W (h.below hb) (hu.below hb) (by omega) (by omega)).mono fun e w' h => h.form2)
  have CK := Lib.hid (fun y W (h : IAt W y (joinA cs ts).1) (hm : (joinA cs ts).1.length ≤ 8192) => rcheck14 y _ W h (by omega))
  have CS := Lib.hid (fun W (hb : Below w.heap.size w W) => check13 v cs W (h.below hb) (by omega))
  have CP := Lib.hid (fun W (hb : Below w.heap.size w W) => (purge35 v cs 1 1601 W (h.below hb) (by omega)).mono fun e w' h => h.form3)
  have PF := Lib.hid (fun h => purge_facts (cs := cs) h)
  have OF := Lib.hid (of_facts l)
  have JF := Lib.hid (join_facts cs ts)
  have CA := Lib.hid (fun y c a W (h : IAt W y c) (hm : c.length ≤ 8200) => (add27 y c a W h (by omega)).mono fun e w' h => h.form3)
  have CD := Lib.hid (fun y c a W (h : IAt W y c) (hm : c.length ≤ 8200) => (drop29 y c a W h (by omega)).mono fun e w' h => h.form3)
  have CN := Lib.hid (fun y c W (h : IAt W y c) (hm : c.length ≤ 8200) => len15 y c W h (by omega))
  obtain ⟨A, cap, rfl, -⟩ := h
  obtain ⟨A2, cap2, rfl, -⟩ := hu
  obtain ⟨A3, cap3, rfl, -⟩ := hx
  have q := (one_cell h0).1
  have B0 := Lib.hid hb
  have K0 := Lib.hid h0
  have M0 := Lib.hid h1
  unfold sv at *
  generalize ofA l = r1 at *
  generalize joinA cs ts = r2 at *
  generalize purgeA cs 1 1601 = r3 at *
  obtain ⟨L, e1⟩ := r1
  obtain ⟨M, e2⟩ := r2
  obtain ⟨P, z3, e3⟩ := r3
  obtain ⟨ck, ce⟩ : ∃ c, chkF cs = c := ⟨_, rfl⟩
  rw [ce] at CS PF
  obtain ⟨c1, c2⟩ := ck
  dsimp only at *
  obtain ⟨N, hN⟩ : ∃ N, L.length = N := ⟨_, rfl⟩
  obtain ⟨N2, hN2⟩ : ∃ N, M.length = N := ⟨_, rfl⟩
  obtain ⟨N3, hN3⟩ : ∃ N, P.length = N := ⟨_, rfl⟩
  have HN := Lib.hid hN
  have HN2 := Lib.hid hN2
  have HN3 := Lib.hid hN3
  have HM := Lib.hid (show cs.length ≤ 8200 by omega)
  rw [hN] at CO
  rw [hN2] at CJ
  rw [hN3] at CP
  generalize cs.length = n at *
  generalize ts.length = n2 at *
  generalize l.length = m at *
  have q3 : decide ((300 : Int) < (m : Int)) = false := decide_eq_false (by omega)
  have q3' : ¬ (300 : Int) < (m : Int) := by omega
  clear h0 h1 hs hb hN hN2 hN3 hf f1 f2 f3 m1 m2 ce
  go_enter Try.func8, Try.ntmps8
  go_upto_if 42 with (first
    | (go_at_call 11; have z := Z0.out; refine (FA.out _ B0.out).mono ?_; rintro e w1 ⟨rfl, hb⟩; have B1 := Lib.hid (below_end B0.out hb); have K1 := Lib.hid (keep_heap hb K0.out); have M1 := Lib.hid (keep_heap hb M0.out); have q1 := (one_cell M1.out).1; clear hb Z0 z)
    | (go_at_call 11; refine (FB.out _ B1.out).mono ?_; rintro e w2 ⟨rfl, hb⟩; have B2 := Lib.hid (below_end B1.out hb); have K2 := Lib.hid (keep_heap hb K1.out); have M2 := Lib.hid (keep_heap hb M1.out); clear hb)
    | (go_at_call 31; refine (CO.out _ B2.out).mono ?_; rintro e w3 ⟨A4, c4, rfl, hi, hb⟩; have B3 := Lib.hid (below_end B2.out hb); have K3 := Lib.hid (keep_heap hb K2.out); have M3 := Lib.hid (keep_heap hb M2.out); have I1 := Lib.hid hi; clear hb hi))
  clear q q1
  have ba := alloc_below w3 (.cells #[.slice A4 N c4] 24)
  have P1 := Lib.hid (heap_alloc_new w3 (.cells #[.slice A4 N c4] 24))
  obtain ⟨b1, hb1⟩ : ∃ b, w3.heap.size = b := ⟨_, rfl⟩
  rw [hb1] at P1
  try rw [hb1]
  generalize w3.alloc (.cells #[.slice A4 N c4] 24) = X1 at *
  have B3 := Lib.hid (below_end B3.out ba)
  have K3 := Lib.hid (keep_heap ba K3.out)
  have M3 := Lib.hid (keep_heap ba M3.out)
  have I1 := Lib.hid (I1.out.below ba)
  clear ba hb1
  go_cut [9, 10, 11, 12] from 41 (fun s9 s10 s11 s12 wc => Hid (Below X1.heap.size X1 wc))
  case first =>
    rcases OF.out with ⟨L', h1, h2, h3, h4, h5, h6⟩ | ⟨L', e', h1, h2, h3⟩
    · obtain ⟨rfl, rfl⟩ : L = L' ∧ e1 = 0 := by simpa using h1
      have C1 := Lib.hid (CL.out (.slice A4 N c4) X1 I1.out h6)
      have C2 := Lib.hid (fun W (hb : Below X1.heap.size X1 W) => CC.out (.slice A4 N c4) W (I1.out.below hb) h6)
      rw [h2] at C1
      rw [h3] at C2
      rw [HN.out] at h4 h6
      have q := (one_cell P1.out).1
      have HG := Lib.hid h4
      have HB := Lib.hid (And.intro h5 h6)
      clear h1 h2 h3 h4 h5 h6
      dsimp only at C1 C2
      generalize addrN L = z at *
      by_cases h8 : N = 8
      · obtain rfl := h8
        have K8 : ((8 : Nat) : Int) = 8 := rfl
        have q8 : (((8 : Nat) : Int) != 8) = false := rfl
        go_wp2_with (first
          | (go_at_call 15; refine C1.out.mono ?_; rintro e y1 ⟨rfl, hb⟩; have D1 := Lib.hid hb; have q2 := (one_cell (keep_heap hb P1.out)).1; clear hb q)
          | (go_at_call 14; refine (C2.out _ D1.out).mono ?_; rintro e y2 ⟨rfl, hb⟩; have D2 := Lib.hid (below_end D1.out hb); have q4 := (one_cell (keep_heap (below_end D1.out hb) P1.out)).1; clear hb q2))
        go_meet
        case rel => exact D2
      · have q8 : ((N : Int) != 8) = true := by simpa using (show ¬ (N : Int) = 8 by omega)
        have hlt : 3 * N < 8 * z := HG.out.resolve_left h8
        have hw1 : IntKind.i64.wrap (3 * (N : Int)) = 3 * (N : Int) := IntWalk.i64_in _ (by have := HB.out; omega)
        have hw2 : IntKind.i64.wrap (8 * (z : Int)) = 8 * (z : Int) := IntWalk.i64_in _ (by have := HB.out; omega)
        have q9 : decide (8 * (z : Int) ≤ 3 * (N : Int)) = false := decide_eq_false (by omega)
        have q9' : ¬ 8 * (z : Int) ≤ 3 * (N : Int) := by omega
        clear h8 hlt
        go_wp2_with (first
          | (go_at_call 15; refine C1.out.mono ?_; rintro e y1 ⟨rfl, hb⟩; have D1 := Lib.hid hb; have q2 := (one_cell (keep_heap hb P1.out)).1; clear hb q)
          | (go_at_call 14; refine (C2.out _ D1.out).mono ?_; rintro e y2 ⟨rfl, hb⟩; have D2 := Lib.hid (below_end D1.out hb); have q4 := (one_cell (keep_heap (below_end D1.out hb) P1.out)).1; clear hb q2))
        go_meet
        case rel => exact D2
    · obtain ⟨rfl, rfl⟩ : L = L' ∧ e1 = e' := by simpa using h1
      have q8 : (e1 == 0) = false := by simpa using h2
      clear h1 h2 h3
      go_wp2_with fail
      go_meet
      case rel => exact Lib.hid (Below.refl _ _)
  case rest =>
  have B4 := Lib.hid (below_end B3.out hcut.out)
  have K4 := Lib.hid (keep_heap hcut.out K3.out)
  have M4 := Lib.hid (keep_heap hcut.out M3.out)
  have q := (one_cell K4.out).1
  have q1 := (one_cell M4.out).1
  clear hcut I1 P1
  go_upto_if 81 with (go_at_call 33; refine (CJ.out _ B4.out).mono ?_; rintro e w5 ⟨A6, c6, rfl, hi, hb⟩; have B5 := Lib.hid (below_end B4.out hb); have K5 := Lib.hid (keep_heap hb K4.out); have I3 := Lib.hid hi; clear hb hi)
  clear q q1
  have ba := alloc_below w5 (.cells #[.slice A6 N2 c6] 24)
  have P3 := Lib.hid (heap_alloc_new w5 (.cells #[.slice A6 N2 c6] 24))
  obtain ⟨b3, hb3⟩ : ∃ b, w5.heap.size = b := ⟨_, rfl⟩
  rw [hb3] at P3
  try rw [hb3]
  generalize w5.alloc (.cells #[.slice A6 N2 c6] 24) = X3 at *
  have B5 := Lib.hid (below_end B5.out ba)
  have K5 := Lib.hid (keep_heap ba K5.out)
  have I3 := Lib.hid (I3.out.below ba)
  clear ba hb3
  go_cut [14, 15] from 80 (fun s14 s15 wd => Hid (Below X3.heap.size X3 wd))
  case first =>
    rcases JF.out with ⟨L', h1, h2, h3⟩ | ⟨L', e', h1, h2, h3⟩
    · obtain ⟨rfl, rfl⟩ : M = L' ∧ e2 = 0 := by simpa using h1
      have C1 := Lib.hid (CK.out (.slice A6 N2 c6) X3 I3.out h3)
      rw [h2] at C1
      have q := (one_cell P3.out).1
      clear h1 h2 h3
      dsimp only at C1
      go_wp2_with (go_at_call 14; refine C1.out.mono ?_; rintro e y1 ⟨rfl, hb⟩; have D1 := Lib.hid hb; clear hb q)
      go_meet
      case rel => exact D1
    · obtain ⟨rfl, rfl⟩ : M = L' ∧ e2 = e' := by simpa using h1
      have q8 : (e2 == 0) = false := by simpa using h2
      clear h1 h2 h3
      go_wp2_with fail
      go_meet
      case rel => exact Lib.hid (Below.refl _ _)
  case rest =>
  have B6 := Lib.hid (below_end B5.out hcut.out)
  have K6 := Lib.hid (keep_heap hcut.out K5.out)
  have q := (one_cell K6.out).1
  clear hcut I3 P3
  by_cases hc : c2 = 0
  rotate_left
  · have q8 : (c2 != 0) = true := by simpa using hc
    go_wp2_with (first
      | (go_at_call 13; refine (CS.out _ B6.out).mono ?_; rintro e y1 ⟨rfl, hb⟩; have B7 := Lib.hid (below_end B6.out hb); clear hb q)
      | (go_at_call 12; refine (AW.out _).mono ?_; rintro e y2 ⟨rfl, hb⟩; have B8 := Lib.hid (below_end B7.out hb); clear hb))
    refine bodyPost_ret (v := .bool true) (by simp [results, Try.f8, go_sem]) rfl ⟨rfl, B8.out⟩
  subst hc
  obtain ⟨c0, z0, e0, hcl⟩ := PF.out rfl
  obtain ⟨rfl, rfl, rfl⟩ : P = c0 ∧ z3 = z0 ∧ e3 = 0 := by simpa using e0
  have CL0 := Lib.hid hcl
  obtain rfl : N3 = n := by rw [← HN3.out]; exact hcl.len
  clear e0 hcl
  go_upto_region 18 with (first
    | (go_at_call 13; refine (CS.out _ B6.out).mono ?_; rintro e y1 ⟨rfl, hb⟩; have B7 := Lib.hid (below_end B6.out hb); have K7 := Lib.hid (keep_heap hb K6.out); have q2 := (one_cell K7.out).1; clear hb q)
    | (go_at_call 35; refine (CP.out _ B7.out).mono ?_; rintro e y2 ⟨A8, c8, rfl, hi, hb⟩; have B8 := Lib.hid (below_end B7.out hb); have K8 := Lib.hid (keep_heap hb K7.out); have I8 := Lib.hid hi; clear hb hi q2))
  have ba := alloc_below y2 (.cells #[.slice A8 N3 c8] 24)
  have P8 := Lib.hid (heap_alloc_new y2 (.cells #[.slice A8 N3 c8] 24))
  obtain ⟨b8, hb8⟩ : ∃ b, y2.heap.size = b := ⟨_, rfl⟩
  rw [hb8] at P8
  try rw [hb8]
  have G8 := Lib.hid (show w.heap.size < b8 by rw [← hb8]; exact box_lt K8.out)
  generalize y2.alloc (.cells #[.slice A8 N3 c8] 24) = X8 at *
  have B8 := Lib.hid (below_end B8.out ba)
  have K8 := Lib.hid (keep_heap ba K8.out)
  have I8 := Lib.hid (I8.out.below ba).iat
  clear ba hb8
  go_wp2
  go_loopw [20, 21] (fun er i wr => ∃ k : Nat, k ≤ 40 ∧ i = .int .i64 k ∧ er = .int .i64 0 ∧ Hid (∃ c A cp, Clear N3 c ∧ IAt wr (.slice A N3 cp) c ∧ wr.heap[b8]? = some (.cells #[.slice A N3 cp] 24 (0, 0))) ∧ Hid (wr.heap[w.heap.size]? = some (.cells #[.slice A N3 cap] 24 (0, 0))) ∧ Hid (Below w.heap.size w wr)) (fun _ i _ => 40 - (intOf i).toNat)
  case atStart => exact ⟨0, by omega, rfl, rfl, Lib.hid ⟨_, _, _, CL0.out, I8.out, P8.out⟩, K8, B8⟩
  case round =>
    obtain ⟨k, hk, rfl, rfl, HR, KR, BR⟩ := hrel
    have hmn := HM.out
    have hr := HR.out
    obtain ⟨c, Ac, cpc, h1, h2, h3⟩ := hr
    by_cases hlt : k < 40
    · have hlt' : (k : Int) < 40 := by omega
      have q20 : decide ((k : Int) < 40) = true := decide_eq_true hlt'
      obtain ⟨d1, d2, c1', c2', E1, E2, hcl, hl⟩ := clear_round h1 (show 1 ≤ (k : Int) * 17 % 50 + 1 ∧ (k : Int) * 17 % 50 + 1 ≤ 1600 by omega)
      have C1 := Lib.hid (CA.out (.slice Ac N3 cpc) c ((k : Int) * 17 % 50 + 1) wr h2 (by rw [h1.len]; omega))
      rw [E1] at C1
      dsimp only at C1
      rw [hl] at C1
      have C2 := Lib.hid (fun y W (h : IAt W y c1') => CD.out y c1' ((k : Int) * 17 % 50 + 1) W h (by rw [hl]; omega))
      rw [E2] at C2
      dsimp only at C2
      rw [hcl.len] at C2
      have HCL := Lib.hid hcl
      have q := (one_cell h3).1
      have H3 := Lib.hid h3
      clear h1 h2 h3 E1 E2 hcl hl
      go_upto_region 22 with (go_at_call 27; refine C1.out.mono ?_; rintro e y1 ⟨A9, c9, rfl, hr, hb⟩; have P9 := Lib.hid (keep_heap hb H3.out); have K9 := Lib.hid (keep_heap hb KR.out); have B9 := Lib.hid (below_end BR.out hb); have R9 := Lib.hid (row_set hr (Nat.le_refl _) b8 0 (.slice A9 N3 c9) (box_lt H3.out)); obtain ⟨d9, g9⟩ := one_cell P9.out; clear hb hr)
      have K10 := Lib.hid (set_far (i := 0) (.slice A9 N3 c9) (show w.heap.size ≠ b8 by have := G8.out; omega) K9.out)
      have P10 := Lib.hid (set_row P9.out 0 (.slice A9 N3 c9))
      have B10 := Lib.hid (B9.out.setCell (p := ⟨b8, 0, none⟩) (by have := G8.out; dsimp only; omega) (.slice A9 N3 c9))
      have I10 := Lib.hid R9.out.iat
      clear d9 g9 q P9 K9 B9 R9
      generalize y1.setCell ⟨b8, 0, none⟩ (.slice A9 N3 c9) = X10 at *
      have q10 : X10.cell? ⟨b8, 0, none⟩ = some (.slice A9 N3 c9) := (one_cell P10.out).1
      go_wp2_with (go_at_call 29; refine (C2.out _ _ I10.out).mono ?_; rintro e y2 ⟨A11, c11, rfl, hr, hb⟩; have P11 := Lib.hid (keep_heap hb P10.out); have K11 := Lib.hid (keep_heap hb K10.out); have B11 := Lib.hid (below_end B10.out hb); have R11 := Lib.hid (row_set hr (Nat.le_refl _) b8 0 (.slice A11 N3 c11) (box_lt P10.out)); obtain ⟨d11, g11⟩ := one_cell P11.out; clear hb hr q10)
      refine ⟨⟨k + 1, by omega, by simp, rfl, Lib.hid ⟨c2', A11, c11, HCL.out, R11.out.iat, set_row P11.out 0 (.slice A11 N3 c11)⟩, Lib.hid (set_far (i := 0) (.slice A11 N3 c11) (show w.heap.size ≠ b8 by have := G8.out; omega) K11.out), Lib.hid (B11.out.setCell (p := ⟨b8, 0, none⟩) (by have := G8.out; dsimp only; omega) (.slice A11 N3 c11))⟩, ?_⟩
      show 40 - ((k : Int) + 1).toNat < 40 - ((k : Int)).toNat
      omega
    · obtain rfl : k = 40 := by omega
      have C1 := Lib.hid (CN.out _ c wr h2 (by rw [h1.len]; omega))
      rw [clear_len h1] at C1
      dsimp only at C1
      have q := (one_cell h3).1
      have K40 : ((40 : Nat) : Int) = 40 := rfl
      have H3 := Lib.hid h3
      clear h1 h2 h3
      go_wp2_with (first
        | (go_at_call 15; refine C1.out.mono ?_; rintro e y3 ⟨rfl, hb⟩; have B9 := Lib.hid (below_end BR.out hb); have q1 := (one_cell (keep_heap hb KR.out)).1; have q2 := (one_cell (keep_heap hb H3.out)).1; clear hb q)
        | (go_at_call 12; refine (AW.out _).mono ?_; rintro e y4 ⟨rfl, hb⟩; have B10 := Lib.hid (below_end B9.out hb); clear hb))
      refine bodyPost_ret (v := .bool true) (by simp [results, Try.f8, go_sem]) rfl ⟨rfl, B10.out⟩
end Ytjanicngedkhnaa
end Go.Proofs
