/- wrong, the reference's. -/
import Derived.Test.YtjkphacidpongaaGreatQRmI
import Derived.Test.YtjkphacidpongaaGreatQSlBj
namespace Go.Proofs
namespace YtjkphacidpongaaGreat
open Go.RowKit
open Cf (good plC plE chkE)

set_option maxRecDepth 100000 in
set_option maxHeartbeats 1000000 in
theorem wrong46 (C N S K Q k : Int) (v : Value) (cs : List Int) (w : World) (h : IAt w v cs) (hm : cs.length ≤ 100000) :
    Calls Tryz.prog 46 #[.agg #[.int .i64 C, .int .i64 N, .int .i64 S, .int .i64 K, .int .i64 Q], sv v, .int .i64 k] w fun e w' => e = .returned (.int .i64 (wrongF C N S K Q k cs)) ∧ Below w.heap.size w w' := by
  obtain ⟨h0, h1, hs, hb⟩ := two_boxes w (.cells #[.int .i64 C, .int .i64 N, .int .i64 S, .int .i64 K, .int .i64 Q] 23) (.cells #[v] 27)
  have LI := Lib.hid (rlist21 v cs _ (h.below hb) hm)
  have B := Lib.hid hb
  have H0 := Lib.hid h0
  by_cases hg : (chkF cs).2 ≠ 0
  · rw [wrong_1 hg]
    rw [list_err hg] at LI
    obtain ⟨A, cap, rfl, -⟩ := h
    have c0 := (one_cell h1).1
    unfold LiAns sv at *
    dsimp only at LI
    generalize cs.length = n at *
    generalize (chkF cs).2 = r at *
    have q : (r != 0) = true := by simpa using hg
    clear h0 h1 hb hs hg hm
    go_enter Tryz.func46, Tryz.ntmps46
    go_upto_region 1 with fail
    generalize (w.alloc (.cells #[.int .i64 C, .int .i64 N, .int .i64 S, .int .i64 K, .int .i64 Q] 23)).alloc (.cells #[.slice A n cap] 27) = W0 at *
    go_wp2_with (go_at_call 58; refine LI.out.mono ?_; rintro e w1 ⟨x, rfl, ho, hb1⟩; have B1 := Lib.hid (below_end B.out hb1); obtain ⟨A', c', rfl⟩ := own_form ho; clear hb1 ho)
    refine bodyPost_ret (v := .int .i64 r) (by simp [results, Tryz.f46, go_sem]) rfl ⟨rfl, B1.out⟩
  rw [list_ok hg] at LI
  have hll := srt_len cs
  have WB := Lib.hid (fun j (hj : j < (srt cs).length) (hx : badS C N S K Q k ((srt cs).getD j 0) = true) => wrong_2 hg (any_at hj hx))
  have WG := Lib.hid (fun (hx : ∀ j, j < (srt cs).length → badS C N S K Q k ((srt cs).getD j 0) = false) => wrong_3 hg (any_none hx))
  obtain ⟨A, cap, rfl, -⟩ := h
  have c0 := (one_cell h1).1
  unfold LiAns sv at *
  dsimp only at LI
  obtain ⟨R, hR⟩ : ∃ R, wrongF C N S K Q k cs = R := ⟨_, rfl⟩
  rw [hR] at WB WG ⊢
  generalize srt cs = L at *
  generalize cs.length = n at *
  obtain ⟨m, hm2⟩ : ∃ m, L.length = m := ⟨_, rfl⟩
  have HM := Lib.hid hm2
  rw [hm2] at hll WB WG
  clear h0 h1 hb hs hg hR hm hm2
  go_enter Tryz.func46, Tryz.ntmps46
  go_upto_region 1 with fail
  generalize (w.alloc (.cells #[.int .i64 C, .int .i64 N, .int .i64 S, .int .i64 K, .int .i64 Q] 23)).alloc (.cells #[.slice A n cap] 27) = W0 at *
  go_upto_region 4 with (go_at_call 58; refine LI.out.mono ?_; rintro e w1 ⟨x, rfl, ho, hb1⟩; have B1 := Lib.hid (below_end B.out hb1); have K1 := Lib.hid (keep_heap hb1 H0.out); have O1 := Lib.hid (IAt.of_own ho); obtain ⟨A', c', rfl⟩ := own_form ho; clear hb1 ho)
  have VX := Lib.hid (fun X (hx : Below w1.heap.size w1 X) k (hk : k < m) => (show ∃ b off, A' = some ⟨b, off, none⟩ ∧ X.cell? ⟨b, off + k, none⟩ = some (.int .i64 (L.getD k 0)) by
    obtain ⟨A1, cap', e, hc⟩ := O1.out.below hx
    cases e
    obtain ⟨b, off, h1, h2⟩ := hc (by rw [HM.out]; omega)
    exact ⟨b, off, h1, h2 k (by rw [HM.out]; omega)⟩))
  rw [HM.out]
  clear LI c0
  go_wp2
  go_loopw [6, 9, 10, 11] (fun r i x y wr => ∃ j : Nat, j ≤ m ∧ i = .int .i64 j ∧ Hid (∀ i, i < j → badS C N S K Q k (L.getD i 0) = false) ∧ Hid (Below w1.heap.size w1 wr)) (fun _ i _ _ _ => m - (intOf i).toNat)
  case atStart => exact ⟨0, by omega, rfl, Lib.hid (fun i hi => by omega), Lib.hid (Below.refl _ _)⟩
  case round =>
    obtain ⟨j, hj, rfl, HN, HB⟩ := hrel
    by_cases hlt : j < m
    rotate_left
    · have hlt' : ¬ (j : Int) < (m : Int) := by omega
      have q : decide ((j : Int) < (m : Int)) = false := decide_eq_false hlt'
      have e0 := Lib.hid (WG.out (fun i hi => HN.out i (by omega)))
      have BB := Lib.hid (below_end B1.out HB.out)
      clear WB WG VX HN
      go_wp2
      refine bodyPost_ret (v := .int .i64 0) (by simp [results, Tryz.f46, go_sem]) rfl ⟨by rw [e0.out], BB.out⟩
    have hlt' : (j : Int) < (m : Int) := by omega
    have q : decide ((j : Int) < (m : Int)) = true := decide_eq_true hlt'
    obtain ⟨b1, o1, rfl, ca⟩ := VX.out _ HB.out j hlt
    have ad1 : (⟨b1, o1, none⟩ : Addr).add j = ⟨b1, o1 + j, none⟩ := by unfold Addr.add; split <;> simp_all
    have WBj := Lib.hid (WB.out j hlt)
    have CA := Lib.hid (car27 C N S K Q (L.getD j 0))
    have hb : badS C N S K Q k (L.getD j 0) = (plE C N S K Q (L.getD j 0) != 0 || (plC C N S K Q (L.getD j 0) == -1 || plC C N S K Q (L.getD j 0) == k)) := rfl
    obtain ⟨bv, hbv⟩ : ∃ bv, badS C N S K Q k (L.getD j 0) = bv := ⟨_, rfl⟩
    have HBX := Lib.hid (fun i (e : i = j) (hf : bv = false) => (show badS C N S K Q k (L.getD i 0) = false by rw [e, hbv, hf]))
    rw [hbv] at WBj hb
    clear hbv
    obtain ⟨c0, c1, c2, c3, c4⟩ := five_cells (keep_heap HB.out K1.out)
    have hge := plC_ge C N S K Q (L.getD j 0)
    generalize plE C N S K Q (L.getD j 0) = pe at *
    generalize plC C N S K Q (L.getD j 0) = pc at *
    generalize L.getD j 0 = x at *
    have FIN := Lib.hid (fun (W' : World) (hw : Below wr.heap.size wr W') (hf : bv = false) => (show (∃ j_1 : Nat, j_1 ≤ m ∧ Value.int .i64 ((j : Int) + 1) = .int .i64 (j_1 : Int) ∧ Hid (∀ i, i < j_1 → badS C N S K Q k (L.getD i 0) = false) ∧ Hid (Below w1.heap.size w1 W')) ∧ m - (intOf (.int .i64 ((j : Int) + 1))).toNat < m - (intOf (.int .i64 (j : Int))).toNat by
      refine ⟨⟨j + 1, by omega, by simp, Lib.hid (fun i hi => ?_), Lib.hid (below_end HB.out hw)⟩, ?_⟩
      · rcases Nat.lt_or_ge i j with h | h
        · exact HN.out i h
        · exact HBX.out i (by omega) hf
      · show m - ((j : Int) + 1).toNat < m - ((j : Int)).toNat
        omega))
    by_cases h1 : pe = 0
    · have q1 : (pe != 0) = false := by simpa using h1
      by_cases h2 : pc = -1
      · have q2 : (pc == -1) = true := by simpa using h2
        have q2'' : pc < 0 := by omega
        have q2' : decide (pc < 0) = true := decide_eq_true q2''
        have e7 := Lib.hid (WBj.out (by rw [hb, q2]; simp))
        clear hb h1 h2 FIN WBj
        go_upto_region 7 with fail
        go_region_with (go_at_call 35; refine (CA.out _).mono ?_; rintro e w2 ⟨rfl, hb2⟩; have B2 := Lib.hid (below_end HB.out (Cf.below_drew_l hb2)); clear hb2)
        all_goals
          go_wp2
          refine bodyPost_ret (v := .int .i64 7) (by simp [results, Tryz.f46, go_sem]) rfl ⟨by rw [e7.out], below_end B1.out B2.out⟩
      have q2 : (pc == -1) = false := by simpa using h2
      have q2'' : ¬ pc < 0 := by omega
      have q2' : decide (pc < 0) = false := decide_eq_false q2''
      by_cases h3 : pc = k
      · have q3 : (pc == k) = true := by simpa using h3
        have e7 := Lib.hid (WBj.out (by rw [hb, q3]; simp))
        clear hb h1 h2 h3 FIN WBj
        go_upto_region 7 with fail
        go_region_with (go_at_call 35; refine (CA.out _).mono ?_; rintro e w2 ⟨rfl, hb2⟩; have B2 := Lib.hid (below_end HB.out (Cf.below_drew_l hb2)); clear hb2)
        all_goals
          go_wp2
          refine bodyPost_ret (v := .int .i64 7) (by simp [results, Tryz.f46, go_sem]) rfl ⟨by rw [e7.out], below_end B1.out B2.out⟩
      · have q3 : (pc == k) = false := by simpa using h3
        have e7 := Lib.hid (show bv = false by rw [hb, q1, q2, q3]; rfl)
        clear hb h1 h2 h3 WBj
        go_upto_region 7 with fail
        go_region_with (go_at_call 35; refine (CA.out _).mono ?_; rintro e w2 ⟨rfl, hb2⟩; have B2 := Lib.hid (Cf.below_drew_l hb2); clear hb2)
        all_goals
          go_wp2
          exact FIN.out _ B2.out e7.out
    · have q1 : (pe != 0) = true := by simpa using h1
      have e7 := Lib.hid (WBj.out (by rw [hb, q1]; simp))
      clear hb h1 FIN WBj
      go_upto_region 7 with fail
      go_region_with (go_at_call 35; refine (CA.out _).mono ?_; rintro e w2 ⟨rfl, hb2⟩; have B2 := Lib.hid (below_end HB.out (Cf.below_drew_l hb2)); clear hb2)
      all_goals
        go_wp2
        refine bodyPost_ret (v := .int .i64 7) (by simp [results, Tryz.f46, go_sem]) rfl ⟨by rw [e7.out], below_end B1.out B2.out⟩
end YtjkphacidpongaaGreat
end Go.Proofs
