/- checkSet and setFor. -/
import Derived.Test.YtjkphacidpongaaGreatQRmP
namespace Go.Proofs
namespace YtjkphacidpongaaGreat
open Go.RowKit
open Cf (good plC plE chkE)

theorem five_cells {W : World} {b : Nat} {x0 x1 x2 x3 x4 : Value} {t : TypeId} (h : W.heap[b]? = some (.cells #[x0, x1, x2, x3, x4] t (0, 0))) :
    W.cell? ⟨b, 0, none⟩ = some x0 ∧ W.cell? ⟨b, 1, none⟩ = some x1 ∧ W.cell? ⟨b, 2, none⟩ = some x2 ∧ W.cell? ⟨b, 3, none⟩ = some x3 ∧ W.cell? ⟨b, 4, none⟩ = some x4 := by
  refine ⟨?_, ?_, ?_, ?_, ?_⟩ <;> (rw [cell_of_row _ _ _ _ _ _ h]; rfl)
theorem list_len (cs : List Int) : (listA cs).1.length ≤ 1600 := range_len cs 1 1601
set_option maxRecDepth 100000 in
set_option maxHeartbeats 1000000 in
theorem checkSet49 (C N S K Q k : Int) (v : Value) (cs : List Int) (w : World) (h : IAt w v cs) (hm : cs.length ≤ 100000) :
    Calls Tryz.prog 45 #[.agg #[.int .i64 C, .int .i64 N, .int .i64 S, .int .i64 K, .int .i64 Q], .int .i64 k, sv v] w fun e w' => e = .returned (.int .i64 (wrongF C N S K Q k cs)) ∧ Below w.heap.size w w' := by
  obtain ⟨h0, h1, hs, hb⟩ := two_boxes w (.cells #[.int .i64 C, .int .i64 N, .int .i64 S, .int .i64 K, .int .i64 Q] 23) (.cells #[v] 27)
  have LI := Lib.hid (list20 v cs _ (h.below hb) hm)
  have B := Lib.hid hb
  have H0 := Lib.hid h0
  by_cases hg : (chkF cs).2 ≠ 0
  · rw [wrong_1 hg]
    rw [list_err hg] at LI
    obtain ⟨A, cap, rfl, -⟩ := h
    have c0 := (one_cell h1).1
    unfold LiAns sv at *
    dsimp only at LI
    generalize cs.length = n at *
    generalize (chkF cs).2 = r at *
    have q : (r != 0) = true := by simpa using hg
    clear h0 h1 hb hs hg hm
    go_enter Tryz.func45, Tryz.ntmps45
    go_upto_region 1 with fail
    generalize (w.alloc (.cells #[.int .i64 C, .int .i64 N, .int .i64 S, .int .i64 K, .int .i64 Q] 23)).alloc (.cells #[.slice A n cap] 27) = W0 at *
    go_wp2_with (go_at_call 57; refine LI.out.mono ?_; rintro e w1 ⟨x, rfl, ho, hb1⟩; have B1 := Lib.hid (below_end B.out hb1); obtain ⟨A', c', rfl⟩ := own_form ho; clear hb1 ho)
    refine bodyPost_ret (v := .int .i64 r) (by simp [results, Tryz.f45, go_sem]) rfl ⟨rfl, B1.out⟩
  rw [list_ok hg] at LI
  have hll := srt_len cs
  have WB := Lib.hid (fun j (hj : j < (srt cs).length) (hx : badS C N S K Q k ((srt cs).getD j 0) = true) => wrong_2 hg (any_at hj hx))
  have WG := Lib.hid (fun (hx : ∀ j, j < (srt cs).length → badS C N S K Q k ((srt cs).getD j 0) = false) => wrong_3 hg (any_none hx))
  obtain ⟨A, cap, rfl, -⟩ := h
  have c0 := (one_cell h1).1
  unfold LiAns sv at *
  dsimp only at LI
  obtain ⟨R, hR⟩ : ∃ R, wrongF C N S K Q k cs = R := ⟨_, rfl⟩
  rw [hR] at WB WG ⊢
  generalize srt cs = L at *
  generalize cs.length = n at *
  obtain ⟨m, hm2⟩ : ∃ m, L.length = m := ⟨_, rfl⟩
  have HM := Lib.hid hm2
  rw [hm2] at hll WB WG
  clear h0 h1 hb hs hg hR hm hm2
  go_enter Tryz.func45, Tryz.ntmps45
  go_upto_region 1 with fail
  generalize (w.alloc (.cells #[.int .i64 C, .int .i64 N, .int .i64 S, .int .i64 K, .int .i64 Q] 23)).alloc (.cells #[.slice A n cap] 27) = W0 at *
  go_upto_region 4 with (go_at_call 57; refine LI.out.mono ?_; rintro e w1 ⟨x, rfl, ho, hb1⟩; have B1 := Lib.hid (below_end B.out hb1); have K1 := Lib.hid (keep_heap hb1 H0.out); have O1 := Lib.hid (IAt.of_own ho); obtain ⟨A', c', rfl⟩ := own_form ho; clear hb1 ho)
  have VX := Lib.hid (fun X (hx : Below w1.heap.size w1 X) k (hk : k < m) => (show ∃ b off, A' = some ⟨b, off, none⟩ ∧ X.cell? ⟨b, off + k, none⟩ = some (.int .i64 (L.getD k 0)) by
    obtain ⟨A1, cap', e, hc⟩ := O1.out.below hx
    cases e
    obtain ⟨b, off, h1, h2⟩ := hc (by rw [HM.out]; omega)
    exact ⟨b, off, h1, h2 k (by rw [HM.out]; omega)⟩))
  rw [HM.out]
  clear LI c0
  go_wp2
  go_loopw [6, 10, 11, 12, 23] (fun r x y z i wr => ∃ j : Nat, j ≤ m ∧ i = .int .i64 j ∧ Hid (∀ i, i < j → badS C N S K Q k (L.getD i 0) = false) ∧ Hid (Below w1.heap.size w1 wr)) (fun _ _ _ _ i _ => m - (intOf i).toNat)
  case atStart => exact ⟨0, by omega, rfl, Lib.hid (fun i hi => by omega), Lib.hid (Below.refl _ _)⟩
  case round =>
    obtain ⟨j, hj, rfl, HN, HB⟩ := hrel
    by_cases hlt : j < m
    rotate_left
    · have hlt' : ¬ (j : Int) < (m : Int) := by omega
      have q : decide ((j : Int) < (m : Int)) = false := decide_eq_false hlt'
      have e0 := Lib.hid (WG.out (fun i hi => HN.out i (by omega)))
      have BB := Lib.hid (below_end B1.out HB.out)
      clear WB WG VX HN
      go_wp2
      refine bodyPost_ret (v := .int .i64 0) (by simp [results, Tryz.f45, go_sem]) rfl ⟨by rw [e0.out], BB.out⟩
    have hlt' : (j : Int) < (m : Int) := by omega
    have q : decide ((j : Int) < (m : Int)) = true := decide_eq_true hlt'
    obtain ⟨b1, o1, rfl, ca⟩ := VX.out _ HB.out j hlt
    have ad1 : (⟨b1, o1, none⟩ : Addr).add j = ⟨b1, o1 + j, none⟩ := by unfold Addr.add; split <;> simp_all
    have WBj := Lib.hid (WB.out j hlt)
    have CA := Lib.hid (car26 C N S K Q (L.getD j 0))
    have hb : badS C N S K Q k (L.getD j 0) = (plE C N S K Q (L.getD j 0) != 0 || (plC C N S K Q (L.getD j 0) == -1 || plC C N S K Q (L.getD j 0) == k)) := rfl
    obtain ⟨bv, hbv⟩ : ∃ bv, badS C N S K Q k (L.getD j 0) = bv := ⟨_, rfl⟩
    have HBX := Lib.hid (fun i (e : i = j) (hf : bv = false) => (show badS C N S K Q k (L.getD i 0) = false by rw [e, hbv, hf]))
    rw [hbv] at WBj hb
    clear hbv
    obtain ⟨c0, c1, c2, c3, c4⟩ := five_cells (keep_heap HB.out K1.out)
    generalize plE C N S K Q (L.getD j 0) = pe at *
    generalize plC C N S K Q (L.getD j 0) = pc at *
    generalize L.getD j 0 = x at *
    have FIN := Lib.hid (fun (W' : World) (hw : Below wr.heap.size wr W') (hf : bv = false) => (show (∃ j_1 : Nat, j_1 ≤ m ∧ Value.int .i64 ((j : Int) + 1) = .int .i64 (j_1 : Int) ∧ Hid (∀ i, i < j_1 → badS C N S K Q k (L.getD i 0) = false) ∧ Hid (Below w1.heap.size w1 W')) ∧ m - (intOf (.int .i64 ((j : Int) + 1))).toNat < m - (intOf (.int .i64 (j : Int))).toNat by
      refine ⟨⟨j + 1, by omega, by simp, Lib.hid (fun i hi => ?_), Lib.hid (below_end HB.out hw)⟩, ?_⟩
      · rcases Nat.lt_or_ge i j with h | h
        · exact HN.out i h
        · exact HBX.out i (by omega) hf
      · show m - ((j : Int) + 1).toNat < m - ((j : Int)).toNat
        omega))
    by_cases h1 : pe = 0
    · have q1 : (pe != 0) = false := by simpa using h1
      by_cases h2 : pc = -1
      · have q2 : (pc == -1) = true := by simpa using h2
        have e7 := Lib.hid (WBj.out (by rw [hb, q2]; simp))
        clear hb h1 h2 FIN WBj
        go_wp2_with (go_at_call 81; refine (CA.out _).mono ?_; rintro e w2 ⟨rfl, hb2⟩; have B2 := Lib.hid (below_end HB.out hb2); clear hb2)
        refine bodyPost_ret (v := .int .i64 7) (by simp [results, Tryz.f45, go_sem]) rfl ⟨by rw [e7.out], below_end B1.out B2.out⟩
      have q2 : (pc == -1) = false := by simpa using h2
      by_cases h3 : pc = k
      · have q3 : (pc == k) = true := by simpa using h3
        have e7 := Lib.hid (WBj.out (by rw [hb, q3]; simp))
        clear hb h1 h2 h3 FIN WBj
        go_wp2_with (go_at_call 81; refine (CA.out _).mono ?_; rintro e w2 ⟨rfl, hb2⟩; have B2 := Lib.hid (below_end HB.out hb2); clear hb2)
        refine bodyPost_ret (v := .int .i64 7) (by simp [results, Tryz.f45, go_sem]) rfl ⟨by rw [e7.out], below_end B1.out B2.out⟩
      · have q3 : (pc == k) = false := by simpa using h3
        have e7 := Lib.hid (show bv = false by rw [hb, q1, q2, q3]; rfl)
        clear hb h1 h2 h3 WBj
        go_wp2_with (go_at_call 81; refine (CA.out _).mono ?_; rintro e w2 ⟨rfl, hb2⟩; have B2 := Lib.hid hb2; clear hb2)
        exact FIN.out _ B2.out e7.out
    · have q1 : (pe != 0) = true := by simpa using h1
      have e7 := Lib.hid (WBj.out (by rw [hb, q1]; simp))
      clear hb h1 FIN WBj
      go_wp2_with (go_at_call 81; refine (CA.out _).mono ?_; rintro e w2 ⟨rfl, hb2⟩; have B2 := Lib.hid (below_end HB.out hb2); clear hb2)
      refine bodyPost_ret (v := .int .i64 7) (by simp [results, Tryz.f45, go_sem]) rfl ⟨by rw [e7.out], below_end B1.out B2.out⟩
/-- setFor, by its cases -/
theorem set_1 {C N S K Q slot target : Int} (h : plE C N S K Q slot ≠ 0) : setF C N S K Q slot target = (-2, plE C N S K Q slot) := by unfold setF; rw [if_pos h]
theorem set_2 {C N S K Q slot : Int} (h : ¬ plE C N S K Q slot ≠ 0) : setF C N S K Q slot 0 = (-2, 0) := by unfold setF; rw [if_neg h, if_pos rfl]
theorem set_3 {C N S K Q slot target : Int} (h : ¬ plE C N S K Q slot ≠ 0) (h2 : target ≠ 0) (h3 : plE C N S K Q target ≠ 0) : setF C N S K Q slot target = (-2, plE C N S K Q target) := by unfold setF; rw [if_neg h, if_neg h2, if_pos h3]
theorem set_4 {C N S K Q slot target : Int} (h : ¬ plE C N S K Q slot ≠ 0) (h2 : target ≠ 0) (h3 : ¬ plE C N S K Q target ≠ 0) (h4 : plC C N S K Q slot = -1 ∨ plC C N S K Q slot = plC C N S K Q target) : setF C N S K Q slot target = (-2, 0) := by
  unfold setF; rw [if_neg h, if_neg h2, if_neg h3, if_pos h4]
theorem set_5 {C N S K Q slot target : Int} (h : ¬ plE C N S K Q slot ≠ 0) (h2 : target ≠ 0) (h3 : ¬ plE C N S K Q target ≠ 0) (h4 : ¬ (plC C N S K Q slot = -1 ∨ plC C N S K Q slot = plC C N S K Q target)) : setF C N S K Q slot target = (plC C N S K Q target, 0) := by
  unfold setF; rw [if_neg h, if_neg h2, if_neg h3, if_neg h4]
set_option maxRecDepth 100000 in
set_option maxHeartbeats 1000000 in
theorem setFor50 (C N S K Q slot target : Int) (w : World) :
    Calls Tryz.prog 50 #[.agg #[.int .i64 C, .int .i64 N, .int .i64 S, .int .i64 K, .int .i64 Q], .int .i64 slot, .int .i64 target] w fun e w' => e = .returned (.tuple #[.int .i64 (setF C N S K Q slot target).1, .int .i64 (setF C N S K Q slot target).2]) ∧ Below w.heap.size w w' := by
  have h0 := heap_alloc_new w (.cells #[.int .i64 C, .int .i64 N, .int .i64 S, .int .i64 K, .int .i64 Q] 23)
  have hb := alloc_below w (.cells #[.int .i64 C, .int .i64 N, .int .i64 S, .int .i64 K, .int .i64 Q] 23)
  have B := Lib.hid hb
  have H0 := Lib.hid h0
  obtain ⟨c0, c1, c2, c3, c4⟩ := five_cells h0
  have C1 := Lib.hid (car26 C N S K Q slot)
  have C2 := Lib.hid (car26 C N S K Q target)
  clear hb h0
  by_cases h1 : plE C N S K Q slot ≠ 0
  · rw [set_1 h1]
    generalize plE C N S K Q slot = e1 at *
    generalize plC C N S K Q slot = p1 at *
    have q1 : (e1 != 0) = true := by simpa using h1
    clear h1 C2
    go_enter Tryz.func50, Tryz.ntmps50
    go_wp2_with (go_at_call 81; refine (C1.out _).mono ?_; rintro e w1 ⟨rfl, hb1⟩; have B1 := Lib.hid (below_end B.out hb1); have K1 := Lib.hid (keep_heap hb1 H0.out); obtain ⟨d0, d1, d2, d3, d4⟩ := five_cells K1.out; clear hb1 C1 c0 c1 c2 c3 c4)
    refine bodyPost_ret (v := .tuple #[.int .i64 (-2), .int .i64 e1]) (by simp [results, Tryz.f50, go_sem]) rfl ⟨rfl, B1.out⟩
  by_cases h2 : target = 0
  · subst h2
    rw [set_2 h1]
    have e0 : plE C N S K Q slot = 0 := by omega
    rw [e0] at C1
    generalize plC C N S K Q slot = p1 at *
    clear h1 C2 e0
    go_enter Tryz.func50, Tryz.ntmps50
    go_wp2_with (go_at_call 81; refine (C1.out _).mono ?_; rintro e w1 ⟨rfl, hb1⟩; have B1 := Lib.hid (below_end B.out hb1); have K1 := Lib.hid (keep_heap hb1 H0.out); obtain ⟨d0, d1, d2, d3, d4⟩ := five_cells K1.out; clear hb1 C1 c0 c1 c2 c3 c4)
    refine bodyPost_ret (v := .tuple #[.int .i64 (-2), .int .i64 0]) (by simp [results, Tryz.f50, go_sem]) rfl ⟨rfl, B1.out⟩
  have q2 : (target == 0) = false := by simpa using h2
  by_cases h3 : plE C N S K Q target ≠ 0
  · rw [set_3 h1 h2 h3]
    have e0 : plE C N S K Q slot = 0 := by omega
    rw [e0] at C1
    generalize plE C N S K Q target = e2 at *
    generalize plC C N S K Q target = p2 at *
    generalize plC C N S K Q slot = p1 at *
    have q3 : (e2 != 0) = true := by simpa using h3
    clear h1 h3 e0 h2
    go_enter Tryz.func50, Tryz.ntmps50
    go_upto_region 4 with (go_at_call 81; refine (C1.out _).mono ?_; rintro e w1 ⟨rfl, hb1⟩; have B1 := Lib.hid (below_end B.out hb1); have K1 := Lib.hid (keep_heap hb1 H0.out); obtain ⟨d0, d1, d2, d3, d4⟩ := five_cells K1.out; clear hb1 C1 c0 c1 c2 c3 c4)
    go_wp2_with (go_at_call 81; refine (C2.out _).mono ?_; rintro e w2 ⟨rfl, hb2⟩; have B2 := Lib.hid (below_end B1.out hb2); clear hb2)
    refine bodyPost_ret (v := .tuple #[.int .i64 (-2), .int .i64 e2]) (by simp [results, Tryz.f50, go_sem]) rfl ⟨rfl, B2.out⟩
  have e0 : plE C N S K Q slot = 0 := by omega
  have e2 : plE C N S K Q target = 0 := by omega
  by_cases h4 : plC C N S K Q slot = -1
  · rw [set_4 h1 h2 h3 (.inl h4)]
    rw [e0] at C1
    rw [e2] at C2
    generalize plC C N S K Q target = p2 at *
    generalize plC C N S K Q slot = p1 at *
    have q3 : (p1 == -1) = true := by simpa using h4
    clear h1 h3 e0 e2 h2 h4
    go_enter Tryz.func50, Tryz.ntmps50
    go_upto_region 4 with (go_at_call 81; refine (C1.out _).mono ?_; rintro e w1 ⟨rfl, hb1⟩; have B1 := Lib.hid (below_end B.out hb1); have K1 := Lib.hid (keep_heap hb1 H0.out); obtain ⟨d0, d1, d2, d3, d4⟩ := five_cells K1.out; clear hb1 C1 c0 c1 c2 c3 c4)
    go_wp2_with (go_at_call 81; refine (C2.out _).mono ?_; rintro e w2 ⟨rfl, hb2⟩; have B2 := Lib.hid (below_end B1.out hb2); clear hb2)
    refine bodyPost_ret (v := .tuple #[.int .i64 (-2), .int .i64 0]) (by simp [results, Tryz.f50, go_sem]) rfl ⟨rfl, B2.out⟩
  have q3 : (plC C N S K Q slot == -1) = false := by simpa using h4
  by_cases h5 : plC C N S K Q slot = plC C N S K Q target
  · rw [set_4 h1 h2 h3 (.inr h5)]
    have q4 : (plC C N S K Q slot == plC C N S K Q target) = true := by simpa using h5
    rw [e0] at C1
    rw [e2] at C2
    generalize plC C N S K Q target = p2 at *
    generalize plC C N S K Q slot = p1 at *
    clear h1 h3 e0 e2 h2 h4 h5
    go_enter Tryz.func50, Tryz.ntmps50
    go_upto_region 4 with (go_at_call 81; refine (C1.out _).mono ?_; rintro e w1 ⟨rfl, hb1⟩; have B1 := Lib.hid (below_end B.out hb1); have K1 := Lib.hid (keep_heap hb1 H0.out); obtain ⟨d0, d1, d2, d3, d4⟩ := five_cells K1.out; clear hb1 C1 c0 c1 c2 c3 c4)
    go_wp2_with (go_at_call 81; refine (C2.out _).mono ?_; rintro e w2 ⟨rfl, hb2⟩; have B2 := Lib.hid (below_end B1.out hb2); clear hb2)
    refine bodyPost_ret (v := .tuple #[.int .i64 (-2), .int .i64 0]) (by simp [results, Tryz.f50, go_sem]) rfl ⟨rfl, B2.out⟩
  · rw [set_5 h1 h2 h3 (fun h => h.elim h4 h5)]
    have q4 : (plC C N S K Q slot == plC C N S K Q target) = false := by simpa using h5
    rw [e0] at C1
    rw [e2] at C2
    generalize plC C N S K Q target = p2 at *
    generalize plC C N S K Q slot = p1 at *
    clear h1 h3 e0 e2 h2 h4 h5
    go_enter Tryz.func50, Tryz.ntmps50
    go_upto_region 4 with (go_at_call 81; refine (C1.out _).mono ?_; rintro e w1 ⟨rfl, hb1⟩; have B1 := Lib.hid (below_end B.out hb1); have K1 := Lib.hid (keep_heap hb1 H0.out); obtain ⟨d0, d1, d2, d3, d4⟩ := five_cells K1.out; clear hb1 C1 c0 c1 c2 c3 c4)
    go_wp2_with (go_at_call 81; refine (C2.out _).mono ?_; rintro e w2 ⟨rfl, hb2⟩; have B2 := Lib.hid (below_end B1.out hb2); clear hb2)
    refine bodyPost_ret (v := .tuple #[.int .i64 p2, .int .i64 0]) (by simp [results, Tryz.f50, go_sem]) rfl ⟨rfl, B2.out⟩
end YtjkphacidpongaaGreat
end Go.Proofs
