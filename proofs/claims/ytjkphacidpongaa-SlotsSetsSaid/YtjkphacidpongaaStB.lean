/- The law of acts on a set. -/
import Derived.Test.YtjkphacidpongaaStA
namespace Go.Proofs
namespace Ytjkphacidpongaa
open Go.RowKit

set_option maxRecDepth 100000 in
set_option maxHeartbeats 4000000 in
theorem sets3 (v : Value) (l : List (Int × Bool)) (w : World) (h : ActAt w v l) (hl : ∀ o ∈ l, 0 ≤ o.1 ∧ o.1 ≤ 65535) :
    Calls Try.prog 3 #[v] w fun e w' => e = .returned (.bool true) ∧ Below w.heap.size w w' := by
  have AW := Lib.hid awake12
  obtain ⟨A, cap, rfl, hA⟩ := h
  by_cases hb : 300 < l.length
  · have q : decide ((300 : Int) < (l.length : Int)) = true := decide_eq_true (by omega)
    generalize l.length = m at *
    clear hA hb
    go_enter Try.func3, Try.ntmps3
    go_wp2_with (go_at_call 7; refine (AW.out _).mono ?_; rintro e w1 ⟨rfl, hb⟩)
    refine bodyPost_ret (v := .bool true) (by simp [results, Try.f3, go_sem]) rfl ⟨rfl, hb⟩
  have q : decide ((300 : Int) < (l.length : Int)) = false := decide_eq_false (by omega)
  have NW := Lib.hid new18v
  have HA := Lib.hid hA
  have OK := Lib.hid (ok_acts hl)
  have ST := Lib.hid (fun k (hk : k < l.length) => csA_step (l := l) hk)
  have HL := Lib.hid (fun k (hk : k < l.length) => (show 0 ≤ (l.getD k (0, false)).1 ∧ (l.getD k (0, false)).1 ≤ 65535 from hl _ (by rw [List.getD_eq_getElem?_getD, List.getElem?_eq_getElem hk]; exact List.getElem_mem _)))
  have C0 := Lib.hid (show csA l 0 = newF from rfl)
  generalize csA l = CS at *
  obtain ⟨m, hm⟩ : ∃ m, l.length = m := ⟨_, rfl⟩
  rw [hm] at q HA OK ST HL hb
  rw [hm]
  clear hA hl hm
  go_enter Try.func3, Try.ntmps3
  go_upto_region 4 with (go_at_call 8; refine (NW.out _).mono ?_; rintro e w1 ⟨g, rfl, hgs, ht, hb1⟩; have B1 := Lib.hid hb1; have T1 := Lib.hid ht; clear hgs ht hb1)
  have ba := alloc_below w1 (.cells #[.slice (some ⟨g, 0, none⟩) 8 8] 26)
  have K1 := Lib.hid (heap_alloc_new w1 (.cells #[.slice (some ⟨g, 0, none⟩) 8 8] 26))
  obtain ⟨b, hbb⟩ : ∃ b, w1.heap.size = b := ⟨_, rfl⟩
  have LB := Lib.hid (show w.heap.size ≤ b by rw [← hbb]; exact B1.out.size)
  rw [hbb] at K1 ⊢
  have B2 := Lib.hid (below_end B1.out ba)
  have T2 := Lib.hid (T1.out.below ba)
  have ZB := Lib.hid (show b < (w1.alloc (.cells #[.slice (some ⟨g, 0, none⟩) 8 8] 26)).heap.size by simp [hbb])
  generalize w1.alloc (.cells #[.slice (some ⟨g, 0, none⟩) 8 8] 26) = X1 at *
  have mk := mk61 X1
  have bc := alloc_below X1 (.cells (metG 61 []) 4)
  have G1 := Lib.hid (heap_alloc_new X1 (.cells (metG 61 []) 4))
  clear ba hbb B1 T1
  go_upto_region 5 with fail
  obtain ⟨c, hcc⟩ : ∃ c, X1.heap.size = c := ⟨_, rfl⟩
  rw [hcc] at G1 ZB ⊢
  have K2 := Lib.hid (keep_heap bc K1.out)
  have B3 := Lib.hid (below_end B2.out bc)
  have T3 := Lib.hid (T2.out.below bc)
  generalize X1.alloc (.cells (metG 61 []) 4) = X2 at *
  clear bc mk hcc B2 T2 K1
  have M0 := Lib.hid (show metG 61 [] = metG 61 newF by
    apply Array.ext_getElem?
    intro j
    by_cases hj : j < 61
    · rw [metG_get _ _ hj, metG_get _ _ hj]
      congr 2
      rw [Bool.eq_iff_iff]
      simp only [decide_eq_true_eq]
      constructor
      · rintro ⟨_, h⟩; simp at h
      · rintro ⟨h0, h⟩; exact absurd h (not_new (by omega))
    · rw [Array.getElem?_eq_none (by rw [metG_size]; omega), Array.getElem?_eq_none (by rw [metG_size]; omega)])
  go_wp2
  go_loopw [2, 5, 6, 7, 8, 9, 10, 11, 12] (fun r n i a was ch e x f wr => ∃ k : Nat, k ≤ m ∧ i = .int .i64 k ∧ n = .int .i64 ((srt (CS k)).length : Int) ∧ Hid (∃ A cp, wr.heap[b]? = some (.cells #[.slice A (CS k).length cp] 26 (0, 0)) ∧ IAt wr (.slice A (CS k).length cp) (CS k)) ∧ Hid (wr.heap[c]? = some (.cells (metG 61 (CS k)) 4 (0, 0))) ∧ Hid (Below w.heap.size w wr)) (fun _ _ i _ _ _ _ _ _ _ => m - (intOf i).toNat)
  case atStart =>
    refine ⟨0, by omega, rfl, ?_, Lib.hid ⟨_, _, by rw [C0.out]; exact K2.out, by rw [C0.out]; exact T3.out⟩, Lib.hid (by rw [C0.out, ← M0.out]; exact G1.out), B3⟩
    rw [C0.out, show (srt newF).length = 0 by decide +kernel]; rfl
  case round =>
    obtain ⟨k, hk, rfl, rfl, HS, HM, HB⟩ := hrel
    obtain ⟨A1, cp1, hs1, hs2⟩ := HS.out
    obtain ⟨k1, f1⟩ := one_cell hs1
    have hOk := OK.out k (by omega)
    have hsl := srt_len (CS k)
    by_cases hlt : k < m
    rotate_left
    · have hlt' : ¬ (k : Int) < (m : Int) := by omega
      have q2 : decide ((k : Int) < (m : Int)) = false := decide_eq_false hlt'
      obtain rfl : k = m := by omega
      have hsm : (CS k).length ≤ 100000 := by have := hOk.good.tab.hi; omega
      have LI := Lib.hid (list20 _ (CS k) wr hs2 hsm)
      rw [list_ok (by rw [chk_of_good hOk.good]; simp)] at LI
      have LE := Lib.hid (fun W (hb : Below wr.heap.size wr W) => len15 _ (CS k) W (hs2.below hb) hsm)
      rw [len_ans hOk.good] at LE
      have HH := Lib.hid (fun W (hb : Below wr.heap.size wr W) (j : Nat) (hj : j < 60) => (has25 _ (CS k) ((j : Int) + 1) W (hs2.below hb) hsm))
      have HQ := Lib.hid (fun (j : Nat) (hj : j < 60) => has_ans hOk.good (a := (j : Int) + 1) (by omega))
      have UA := Lib.hid (srtU_all (CS k))
      have US := Lib.hid (fun (j : Nat) (hj : j < 60) => srtU_snoc (CS k) (k := j) (by omega))
      have SA := Lib.hid (fun (j : Nat) (hj : j < 60) (hm : (j : Int) + 1 ∈ CS k) => srt_at (cs := CS k) (k := j) (by omega) hm)
      have U0 := Lib.hid (srtU_zero (CS k))
      have UL := Lib.hid (srtU_len (CS k))
      have MM := Lib.hid (fun W (hb : Below wr.heap.size wr W) (j : Nat) (hj : j < 60) => (show W.cell? ⟨c, j + 1, none⟩ = some (.bool (decide ((j : Int) + 1 ∈ CS k))) by
        have h1 := met_at (n := 61) (l := CS k) (x := (j : Int) + 1) (by omega)
        rw [show ((j : Int) + 1).toNat = j + 1 by omega] at h1
        rw [cell_of_row _ _ _ _ _ _ (keep_heap hb HM.out), h1]))
      have KK := Lib.hid (fun W (hb : Below wr.heap.size wr W) => (one_cell (keep_heap hb hs1)).1)
      unfold LiAns sv at LI
      unfold sv at LE HH
      dsimp only at LI LE
      obtain ⟨L, hL⟩ : ∃ L, srt (CS k) = L := ⟨_, rfl⟩
      rw [hL] at LI LE SA hsl ⊢
      obtain ⟨nL, hnL⟩ : ∃ n, L.length = n := ⟨_, rfl⟩
      have HNL := Lib.hid hnL
      rw [hnL] at LE SA hsl ⊢
      clear hs1 hs2 hOk hL hnL hlt hsm OK ST HL HA
      generalize (CS k).length = lc at *
      have qn : ((nL : Int) != (nL : Int)) = false := by simp
      go_upto_region 27 with (go_at_call 12; refine LI.out.mono ?_; rintro e w2 ⟨v2, rfl, ho, hb2⟩; have B2 := Lib.hid hb2; have O2 := Lib.hid (IAt.of_own ho); obtain ⟨A2, c2, rfl⟩ := own_form ho; have kk := KK.out _ hb2; clear ho hb2)
      rw [HNL.out]
      go_upto_region 30 with (go_at_call 13; refine (LE.out _ B2.out).mono ?_; rintro e w3 ⟨rfl, hb3⟩; have B3n := Lib.hid (below_end B2.out hb3); have O3 := Lib.hid (O2.out.below hb3); clear hb3 kk)
      have VX := Lib.hid (fun X (hx : Below w3.heap.size w3 X) i (hi : i < nL) => (show ∃ b off, A2 = some ⟨b, off, none⟩ ∧ X.cell? ⟨b, off + i, none⟩ = some (.int .i64 (L.getD i 0)) by
        obtain ⟨A3, cap', e, hc⟩ := O3.out.below hx
        cases e
        obtain ⟨b, off, h1, h2⟩ := hc (by rw [HNL.out]; omega)
        exact ⟨b, off, h1, h2 i (by rw [HNL.out]; omega)⟩))
      clear k1 f1
      go_wp2
      go_loopw [2, 17, 18, 19, 20] (fun r p a x y wq => ∃ j : Nat, j ≤ 60 ∧ a = .int .i64 ((j : Int) + 1) ∧ p = .int .i64 ((srtU (CS k) j).length : Int) ∧ Hid (Below w3.heap.size w3 wq)) (fun _ _ a _ _ _ => 100 - (intOf a).toNat)
      case atStart => exact ⟨0, by omega, rfl, by rw [U0.out]; rfl, Lib.hid (Below.refl _ _)⟩
      case round =>
        obtain ⟨j, hj, rfl, rfl, HQB⟩ := hrel
        have bw := below_end B3n.out HQB.out
        by_cases hlj : j < 60
        · have q3 : decide ((j : Int) + 1 ≤ 60) = true := decide_eq_true (by omega)
          have q3' : (j : Int) + 1 ≤ 60 := by omega
          have e1 : ((j : Int) + 1).toNat = j + 1 := by omega
          have adc : (⟨c, 0, none⟩ : Addr).add (j + 1) = ⟨c, j + 1, none⟩ := by simp [Addr.add]
          have kk := KK.out _ bw
          have H1 := Lib.hid (HH.out _ bw j hlj)
          rw [HQ.out j hlj] at H1
          have CM := Lib.hid (fun W' (hb : Below wr.heap.size wr W') => MM.out _ (below_end bw hb) j hlj)
          have hus := US.out j hlj
          have hul := UL.out j
          have hjw : IntKind.i64.wrap ((j : Int) + 1 + 1) = (j : Int) + 1 + 1 := IntWalk.i64_in _ (by omega)
          by_cases hm : (j : Int) + 1 ∈ CS k
          · obtain ⟨s1, s2⟩ := SA.out j hlj hm
            rw [if_pos hm] at hus
            have hus2 := Lib.hid (show (srtU (CS k) (j + 1)).length = (srtU (CS k) j).length + 1 by rw [hus]; simp)
            have VV := Lib.hid (fun W' (hb : Below wr.heap.size wr W') => VX.out W' (below_end HQB.out hb) _ s1)
            rw [s2] at VV
            rw [decide_eq_true hm] at H1 CM
            generalize (srtU (CS k) j).length = u at *
            have q4 : decide ((nL : Int) ≤ (u : Int)) = false := decide_eq_false (by omega)
            have q4' : (u : Int) < (nL : Int) := by omega
            clear hus hm s2
            obtain ⟨b5, o5, rfl, -⟩ := VV.out wr (Below.refl _ _)
            have ad5 : (⟨b5, o5, none⟩ : Addr).add u = ⟨b5, o5 + u, none⟩ := by unfold Addr.add; split <;> simp_all
            go_wp2_with (go_at_call 14; refine H1.out.mono ?_; rintro e w5 ⟨rfl, hb5⟩; have B5 := Lib.hid (below_end HQB.out hb5); have cm := CM.out _ hb5; obtain ⟨b6, o6, e6, c6⟩ := VV.out _ hb5; cases e6; clear hb5 kk)
            refine ⟨⟨j + 1, by omega, by simp, by rw [hus2.out]; simp, B5⟩, ?_⟩
            show 100 - ((j : Int) + 1 + 1).toNat < 100 - ((j : Int) + 1).toNat
            omega
          · rw [if_neg hm] at hus
            rw [decide_eq_false hm] at H1 CM
            have hus2 := Lib.hid hus
            generalize hgu : (srtU (CS k) j).length = u at *
            have HGU := Lib.hid hgu
            clear hus hm hgu
            go_wp2_with (go_at_call 14; refine H1.out.mono ?_; rintro e w5 ⟨rfl, hb5⟩; have B5 := Lib.hid (below_end HQB.out hb5); have cm := CM.out _ hb5; clear hb5 kk)
            refine ⟨⟨j + 1, by omega, by simp, by rw [hus2.out, HGU.out], B5⟩, ?_⟩
            show 100 - ((j : Int) + 1 + 1).toNat < 100 - ((j : Int) + 1).toNat
            omega
        · have q3 : decide ((j : Int) + 1 ≤ 60) = false := decide_eq_false (by omega)
          have q3' : ¬ (j : Int) + 1 ≤ 60 := by omega
          have BW := Lib.hid (below_end HB.out bw)
          clear bw
          go_wp2_with (go_at_call 7; refine (AW.out _).mono ?_; rintro e w5 ⟨rfl, hb5⟩; have B5 := Lib.hid (below_end BW.out hb5); clear hb5)
          refine bodyPost_ret (v := .bool true) (by simp [results, Try.f3, go_sem]) rfl ⟨rfl, B5.out⟩
    have hlt' : (k : Int) < (m : Int) := by omega
    have q2 : decide ((k : Int) < (m : Int)) = true := decide_eq_true hlt'
    obtain ⟨b1, o1, rfl, ca⟩ := HA.out (by omega)
    obtain ⟨ca1, ca2⟩ := ca k hlt
    have cb1 := HB.out.cell (cell_lt ca1) |>.trans ca1
    have cb2 := HB.out.cell (cell_lt ca2) |>.trans ca2
    have ad1 : (⟨b1, o1, none⟩ : Addr).add (k * 2) = ⟨b1, o1 + k * 2, none⟩ := by unfold Addr.add; split <;> simp_all
    have hx := HL.out k hlt
    have hS := ST.out k hlt
    unfold stepA at hS
    have ha := a_range hx.1
    generalize hA0 : l.getD k (0, false) = ob at *
    obtain ⟨x, gn⟩ := ob
    dsimp only at *
    have hax : x % 60 + 1 = aOf x := rfl
    have hnn : (0 : Int) ≤ x := hx.1
    have hcv : IntKind.i64.wrap x = x := IntWalk.i64_in _ (by omega)
    have hw1 : IntKind.i64.wrap (x % 60 + 1) = aOf x := by rw [hax]; exact IntWalk.i64_in _ (by omega)
    have hw2 : IntKind.i64.wrap (x % 60) = x % 60 := IntWalk.i64_in _ (by omega)
    have adc : (⟨c, 0, none⟩ : Addr).add (aOf x).toNat = ⟨c, (aOf x).toNat, none⟩ := by simp [Addr.add]; omega
    have cm : wr.cell? ⟨c, (aOf x).toNat, none⟩ = some (.bool (decide (aOf x ∈ CS k))) := by rw [cell_of_row _ _ _ _ _ _ HM.out, met_at (by omega)]

    cases gn with
    | true =>
      by_cases hm : aOf x ∈ CS k
      · have hd : decide (aOf x ∈ CS k) = true := decide_eq_true hm
        rw [hd] at cm
        have hB0 : hasB (CS k) (aOf x) = true := (hOk.good.tab.has hOk.good.zero (by omega)).2 hm
        have DR := Lib.hid (drop29 _ _ (aOf x) wr hs2 (by have := hOk.good.tab.hi; omega))
        rw [drop_ans hOk.good (by omega), hB0] at DR
        have e1 : CS (k + 1) = dropF (CS k) (aOf x) := by rw [hS]; simp
        have hOk2 := OK.out (k + 1) (by omega)
        have hct : ((srt (CS k)).length : Int) - 1 = ((srt (CS (k + 1))).length : Int) := by rw [e1]; have := len_drop1 hOk.good (a := aOf x) (by omega) hm; omega
        have hsl2 := srt_len (CS (k + 1))
        have MP := Lib.hid (show (metG 61 (CS k)).setIfInBounds (aOf x).toNat (.bool false) = metG 61 (CS (k + 1)) from met_put (by omega) (by rw [e1]; exact ⟨fun h => absurd rfl ((drop_mem1 hOk.good (by omega) (by omega)).1 h).2, fun h => by cases h⟩) (fun j h0 hj => by rw [e1, drop_mem1 hOk.good (by omega) h0]; exact ⟨fun h => h.1, fun h => ⟨h, hj⟩⟩))
        rw [← e1] at DR
        have CK := Lib.hid (fun u W (h : IAt W u (CS (k + 1))) => rcheck14 u (CS (k + 1)) W h (by have := hOk2.good.tab.hi; omega))
        rw [chk_of_good hOk2.good] at CK
        unfold SbAns sv at DR
        unfold sv at CK
        dsimp only at DR CK
        have WAS := Lib.hid (show decide (aOf x ∈ CS k) = true from hd)
        have CB2 := Lib.hid (fun W (hb : Below wr.heap.size wr W) => keep_cell hb cb2)
        have MM := Lib.hid (fun W (hb : Below wr.heap.size wr W) => keep_heap hb HM.out)
        have KK := Lib.hid (fun W (hb : Below wr.heap.size wr W) => keep_heap hb hs1)
        have HX := Lib.hid ha
        have NB := Lib.hid (show b1 ≠ b ∧ b1 ≠ c by have := cell_lt ca2; have := LB.out; have := ZB.out; dsimp only at *; omega)
        obtain ⟨N1, hN1⟩ : ∃ n, (srt (CS k)).length = n := ⟨_, rfl⟩
        obtain ⟨N2, hN2⟩ : ∃ n, (srt (CS (k + 1))).length = n := ⟨_, rfl⟩
        have HN2 := Lib.hid hN2
        rw [hN1, hN2] at hct
        rw [hN1] at hsl
        rw [hN2] at hsl2
        rw [hN1]
        have hwn : IntKind.i64.wrap ((N1 : Int) - 1) = (N2 : Int) := by rw [hct]; exact IntWalk.i64_in _ (by omega)
        obtain ⟨lk, hlk⟩ : ∃ n, (CS k).length = n := ⟨_, rfl⟩
        obtain ⟨lk2, hlk2⟩ : ∃ n, (CS (k + 1)).length = n := ⟨_, rfl⟩
        have HL2 := Lib.hid hlk2
        rw [hlk] at k1 DR KK hs1 hs2
        generalize aOf x = a at *
        have ha1 : 1 ≤ a := HX.out.1
        have ha2 : a ≤ 60 := HX.out.2
        have ha3 : a < 61 := by omega
        have ha4 : 0 ≤ a := by omega
        have HCT := Lib.hid hct
        clear hS hd hB0 e1 hOk hOk2 hsl2 hsl hct hm hs1 hs2 ca ca1 ca2 hx ha hax hN1 hN2 hlk hlk2 HS cb2
        have fm : wr.frozen? ⟨c, a.toNat, none⟩ = false := frozen_of_row _ _ _ _ _ HM.out
        have cb2 := CB2.out wr (Below.refl _ _)
        go_upto_region 16 with (go_at_call 9; refine DR.out.mono ?_; rintro e w2 ⟨v2, rfl, hr, hb2⟩; have R2 := Lib.hid hr; have B2 := Lib.hid hb2; obtain ⟨A2, c2, rfl⟩ := own_form hr; obtain ⟨k2, f2⟩ := one_cell (KK.out _ hb2); clear hr hb2 cb2 cm fm k1 f1)
        rw [HL2.out]
        have I3 := Lib.hid (show IAt (w2.setCell ⟨b, 0, none⟩ (.slice A2 lk2 c2)) (.slice A2 lk2 c2) (CS (k + 1)) by have := (IAt.of_own R2.out).set (KK.out _ B2.out) (fun u hu => by simp at hu; rw [hu]; exact ⟨_, _, _, rfl⟩) (k := 0) (.slice A2 lk2 c2); rw [HL2.out] at this; exact this)
        have K3 := Lib.hid (set_row (KK.out _ B2.out) 0 (.slice A2 lk2 c2))
        have M3 := Lib.hid (set_far (b := b) (i := 0) (.slice A2 lk2 c2) (show c ≠ b by have := ZB.out; omega) (MM.out _ B2.out))
        have cb3 : (w2.setCell ⟨b, 0, none⟩ (.slice A2 lk2 c2)).cell? ⟨b1, o1 + k * 2 + 1, none⟩ = some (.bool true) := (World.cell?_of_block (Below.heap_setCell w2 ⟨b, 0, none⟩ _ b1 NB.out.1)).trans (CB2.out _ B2.out)
        have cm3 : (w2.setCell ⟨b, 0, none⟩ (.slice A2 lk2 c2)).cell? ⟨c, a.toNat, none⟩ = some (.bool true) := by rw [cell_of_row _ _ _ _ _ _ M3.out, met_at ⟨ha1, by omega⟩, WAS.out]
        have fm3 : (w2.setCell ⟨b, 0, none⟩ (.slice A2 lk2 c2)).frozen? ⟨c, a.toNat, none⟩ = false := frozen_of_row _ _ _ _ _ M3.out
        have B3n := Lib.hid ((below_end HB.out B2.out).setCell (p := ⟨b, 0, none⟩) LB.out (.slice A2 lk2 c2))
        clear k2 f2
        generalize w2.setCell ⟨b, 0, none⟩ (.slice A2 lk2 c2) = X3 at *
        go_upto_region 19 with fail
        have M4 := Lib.hid (set_row M3.out a.toNat (.bool false))
        rw [MP.out] at M4
        have K4 := Lib.hid (set_far (b := c) (i := a.toNat) (.bool false) (show b ≠ c by have := ZB.out; omega) K3.out)
        have cm4 : (X3.setCell ⟨c, a.toNat, none⟩ (.bool false)).cell? ⟨c, a.toNat, none⟩ = some (.bool false) := World.cell?_setCell_same _ _ _ cm3
        have B4n := Lib.hid (B3n.out.setCell (p := ⟨c, a.toNat, none⟩) (show w.heap.size ≤ c by have := ZB.out; have := LB.out; omega) (.bool false))
        have I4 := Lib.hid (I3.out.setN M3.out (met_bool _ _) (k := a.toNat) (.bool false))
        clear cm3 fm3 cb3
        generalize X3.setCell ⟨c, a.toNat, none⟩ (.bool false) = X4 at *
        have k4 := (one_cell K4.out).1
        have C4 := Lib.hid (CK.out _ _ I4.out)
        go_wp2_with (go_at_call 11; refine C4.out.mono ?_; rintro e w5 ⟨rfl, hb5⟩; have B5 := Lib.hid (below_end B4n.out hb5); have K5 := Lib.hid (keep_heap hb5 K4.out); have M5 := Lib.hid (keep_heap hb5 M4.out); have I5 := Lib.hid (I4.out.below hb5); clear hb5)
        refine ⟨⟨k + 1, by omega, by simp, ?_, Lib.hid ⟨_, _, by rw [HL2.out]; exact K5.out, by rw [HL2.out]; exact I5.out⟩, M5, B5⟩, ?_⟩
        · rw [HN2.out]
        · show m - ((k : Int) + 1).toNat < m - ((k : Int)).toNat
          omega
      · have hd : decide (aOf x ∈ CS k) = false := decide_eq_false hm
        rw [hd] at cm
        have hB0 : hasB (CS k) (aOf x) = false := (hOk.good.tab.hasF hOk.good.zero (by omega)).2 hm
        have DR := Lib.hid (drop29 _ _ (aOf x) wr hs2 (by have := hOk.good.tab.hi; omega))
        rw [drop_ans hOk.good (by omega), hB0] at DR
        have e1 : CS (k + 1) = dropF (CS k) (aOf x) := by rw [hS]; simp
        have hOk2 := OK.out (k + 1) (by omega)
        have hct : ((srt (CS k)).length : Int) = ((srt (CS (k + 1))).length : Int) := by rw [e1, drop_same hOk.good (by omega) hm]
        have hsl2 := srt_len (CS (k + 1))
        have MP := Lib.hid (show (metG 61 (CS k)).setIfInBounds (aOf x).toNat (.bool false) = metG 61 (CS (k + 1)) from met_put (by omega) (by rw [e1]; exact ⟨fun h => absurd rfl ((drop_mem1 hOk.good (by omega) (by omega)).1 h).2, fun h => by cases h⟩) (fun j h0 hj => by rw [e1, drop_mem1 hOk.good (by omega) h0]; exact ⟨fun h => h.1, fun h => ⟨h, hj⟩⟩))
        rw [← e1] at DR
        have CK := Lib.hid (fun u W (h : IAt W u (CS (k + 1))) => rcheck14 u (CS (k + 1)) W h (by have := hOk2.good.tab.hi; omega))
        rw [chk_of_good hOk2.good] at CK
        unfold SbAns sv at DR
        unfold sv at CK
        dsimp only at DR CK
        have WAS := Lib.hid (show decide (aOf x ∈ CS k) = false from hd)
        have CB2 := Lib.hid (fun W (hb : Below wr.heap.size wr W) => keep_cell hb cb2)
        have MM := Lib.hid (fun W (hb : Below wr.heap.size wr W) => keep_heap hb HM.out)
        have KK := Lib.hid (fun W (hb : Below wr.heap.size wr W) => keep_heap hb hs1)
        have HX := Lib.hid ha
        have NB := Lib.hid (show b1 ≠ b ∧ b1 ≠ c by have := cell_lt ca2; have := LB.out; have := ZB.out; dsimp only at *; omega)
        obtain ⟨N1, hN1⟩ : ∃ n, (srt (CS k)).length = n := ⟨_, rfl⟩
        obtain ⟨N2, hN2⟩ : ∃ n, (srt (CS (k + 1))).length = n := ⟨_, rfl⟩
        have HN2 := Lib.hid hN2
        rw [hN1, hN2] at hct
        rw [hN1] at hsl
        rw [hN2] at hsl2
        rw [hN1]
        have hwn := Lib.hid (show N1 = N2 by omega)
        obtain ⟨lk, hlk⟩ : ∃ n, (CS k).length = n := ⟨_, rfl⟩
        obtain ⟨lk2, hlk2⟩ : ∃ n, (CS (k + 1)).length = n := ⟨_, rfl⟩
        have HL2 := Lib.hid hlk2
        rw [hlk] at k1 DR KK hs1 hs2
        generalize aOf x = a at *
        have ha1 : 1 ≤ a := HX.out.1
        have ha2 : a ≤ 60 := HX.out.2
        have ha3 : a < 61 := by omega
        have ha4 : 0 ≤ a := by omega
        have HCT := Lib.hid hct
        clear hS hd hB0 e1 hOk hOk2 hsl2 hsl hct hm hs1 hs2 ca ca1 ca2 hx ha hax hN1 hN2 hlk hlk2 HS cb2
        have fm : wr.frozen? ⟨c, a.toNat, none⟩ = false := frozen_of_row _ _ _ _ _ HM.out
        have cb2 := CB2.out wr (Below.refl _ _)
        go_upto_region 16 with (go_at_call 9; refine DR.out.mono ?_; rintro e w2 ⟨v2, rfl, hr, hb2⟩; have R2 := Lib.hid hr; have B2 := Lib.hid hb2; obtain ⟨A2, c2, rfl⟩ := own_form hr; obtain ⟨k2, f2⟩ := one_cell (KK.out _ hb2); clear hr hb2 cb2 cm fm k1 f1)
        rw [HL2.out]
        have I3 := Lib.hid (show IAt (w2.setCell ⟨b, 0, none⟩ (.slice A2 lk2 c2)) (.slice A2 lk2 c2) (CS (k + 1)) by have := (IAt.of_own R2.out).set (KK.out _ B2.out) (fun u hu => by simp at hu; rw [hu]; exact ⟨_, _, _, rfl⟩) (k := 0) (.slice A2 lk2 c2); rw [HL2.out] at this; exact this)
        have K3 := Lib.hid (set_row (KK.out _ B2.out) 0 (.slice A2 lk2 c2))
        have M3 := Lib.hid (set_far (b := b) (i := 0) (.slice A2 lk2 c2) (show c ≠ b by have := ZB.out; omega) (MM.out _ B2.out))
        have cb3 : (w2.setCell ⟨b, 0, none⟩ (.slice A2 lk2 c2)).cell? ⟨b1, o1 + k * 2 + 1, none⟩ = some (.bool true) := (World.cell?_of_block (Below.heap_setCell w2 ⟨b, 0, none⟩ _ b1 NB.out.1)).trans (CB2.out _ B2.out)
        have cm3 : (w2.setCell ⟨b, 0, none⟩ (.slice A2 lk2 c2)).cell? ⟨c, a.toNat, none⟩ = some (.bool false) := by rw [cell_of_row _ _ _ _ _ _ M3.out, met_at ⟨ha1, by omega⟩, WAS.out]
        have fm3 : (w2.setCell ⟨b, 0, none⟩ (.slice A2 lk2 c2)).frozen? ⟨c, a.toNat, none⟩ = false := frozen_of_row _ _ _ _ _ M3.out
        have B3n := Lib.hid ((below_end HB.out B2.out).setCell (p := ⟨b, 0, none⟩) LB.out (.slice A2 lk2 c2))
        clear k2 f2
        generalize w2.setCell ⟨b, 0, none⟩ (.slice A2 lk2 c2) = X3 at *
        go_upto_region 19 with fail
        have M4 := Lib.hid (set_row M3.out a.toNat (.bool false))
        rw [MP.out] at M4
        have K4 := Lib.hid (set_far (b := c) (i := a.toNat) (.bool false) (show b ≠ c by have := ZB.out; omega) K3.out)
        have cm4 : (X3.setCell ⟨c, a.toNat, none⟩ (.bool false)).cell? ⟨c, a.toNat, none⟩ = some (.bool false) := World.cell?_setCell_same _ _ _ cm3
        have B4n := Lib.hid (B3n.out.setCell (p := ⟨c, a.toNat, none⟩) (show w.heap.size ≤ c by have := ZB.out; have := LB.out; omega) (.bool false))
        have I4 := Lib.hid (I3.out.setN M3.out (met_bool _ _) (k := a.toNat) (.bool false))
        clear cm3 fm3 cb3
        generalize X3.setCell ⟨c, a.toNat, none⟩ (.bool false) = X4 at *
        have k4 := (one_cell K4.out).1
        have C4 := Lib.hid (CK.out _ _ I4.out)
        go_wp2_with (go_at_call 11; refine C4.out.mono ?_; rintro e w5 ⟨rfl, hb5⟩; have B5 := Lib.hid (below_end B4n.out hb5); have K5 := Lib.hid (keep_heap hb5 K4.out); have M5 := Lib.hid (keep_heap hb5 M4.out); have I5 := Lib.hid (I4.out.below hb5); clear hb5)
        refine ⟨⟨k + 1, by omega, by simp, ?_, Lib.hid ⟨_, _, by rw [HL2.out]; exact K5.out, by rw [HL2.out]; exact I5.out⟩, M5, B5⟩, ?_⟩
        · rw [HN2.out]; have := hwn.out; rw [this]
        · show m - ((k : Int) + 1).toNat < m - ((k : Int)).toNat
          omega
    | false =>
      by_cases hm : aOf x ∈ CS k
      · have hd : decide (aOf x ∈ CS k) = true := decide_eq_true hm
        rw [hd] at cm
        have hB0 : hasB (CS k) (aOf x) = true := (hOk.good.tab.has hOk.good.zero (by omega)).2 hm
        have DR := Lib.hid (add27 _ _ (aOf x) wr hs2 (by have := hOk.good.tab.hi; omega))
        rw [add_ans hOk.good (by omega), hB0] at DR
        have e1 : CS (k + 1) = addF (CS k) (aOf x) := by rw [hS]; simp
        have hOk2 := OK.out (k + 1) (by omega)
        have hct : ((srt (CS k)).length : Int) = ((srt (CS (k + 1))).length : Int) := by rw [e1, add_same hOk.good (by omega) hm]
        have hsl2 := srt_len (CS (k + 1))
        have MP := Lib.hid (show (metG 61 (CS k)).setIfInBounds (aOf x).toNat (.bool true) = metG 61 (CS (k + 1)) from met_put (by omega) (by rw [e1]; exact ⟨fun _ => rfl, fun _ => (add_mem hOk.good (by omega) (by omega)).2 (.inl rfl)⟩) (fun j h0 hj => by rw [e1, add_mem hOk.good (by omega) h0]; exact ⟨fun h => h.resolve_left hj, .inr⟩))
        rw [← e1] at DR
        have CK := Lib.hid (fun u W (h : IAt W u (CS (k + 1))) => rcheck14 u (CS (k + 1)) W h (by have := hOk2.good.tab.hi; omega))
        rw [chk_of_good hOk2.good] at CK
        unfold SbAns sv at DR
        unfold sv at CK
        dsimp only at DR CK
        have WAS := Lib.hid (show decide (aOf x ∈ CS k) = true from hd)
        have CB2 := Lib.hid (fun W (hb : Below wr.heap.size wr W) => keep_cell hb cb2)
        have MM := Lib.hid (fun W (hb : Below wr.heap.size wr W) => keep_heap hb HM.out)
        have KK := Lib.hid (fun W (hb : Below wr.heap.size wr W) => keep_heap hb hs1)
        have HX := Lib.hid ha
        have NB := Lib.hid (show b1 ≠ b ∧ b1 ≠ c by have := cell_lt ca2; have := LB.out; have := ZB.out; dsimp only at *; omega)
        obtain ⟨N1, hN1⟩ : ∃ n, (srt (CS k)).length = n := ⟨_, rfl⟩
        obtain ⟨N2, hN2⟩ : ∃ n, (srt (CS (k + 1))).length = n := ⟨_, rfl⟩
        have HN2 := Lib.hid hN2
        rw [hN1, hN2] at hct
        rw [hN1] at hsl
        rw [hN2] at hsl2
        rw [hN1]
        have hwn := Lib.hid (show N1 = N2 by omega)
        obtain ⟨lk, hlk⟩ : ∃ n, (CS k).length = n := ⟨_, rfl⟩
        obtain ⟨lk2, hlk2⟩ : ∃ n, (CS (k + 1)).length = n := ⟨_, rfl⟩
        have HL2 := Lib.hid hlk2
        rw [hlk] at k1 DR KK hs1 hs2
        generalize aOf x = a at *
        have ha1 : 1 ≤ a := HX.out.1
        have ha2 : a ≤ 60 := HX.out.2
        have ha3 : a < 61 := by omega
        have ha4 : 0 ≤ a := by omega
        have HCT := Lib.hid hct
        clear hS hd hB0 e1 hOk hOk2 hsl2 hsl hct hm hs1 hs2 ca ca1 ca2 hx ha hax hN1 hN2 hlk hlk2 HS cb2
        have fm : wr.frozen? ⟨c, a.toNat, none⟩ = false := frozen_of_row _ _ _ _ _ HM.out
        have cb2 := CB2.out wr (Below.refl _ _)
        go_upto_region 16 with (go_at_call 10; refine DR.out.mono ?_; rintro e w2 ⟨v2, rfl, hr, hb2⟩; have R2 := Lib.hid hr; have B2 := Lib.hid hb2; obtain ⟨A2, c2, rfl⟩ := own_form hr; obtain ⟨k2, f2⟩ := one_cell (KK.out _ hb2); clear hr hb2 cb2 cm fm k1 f1)
        rw [HL2.out]
        have I3 := Lib.hid (show IAt (w2.setCell ⟨b, 0, none⟩ (.slice A2 lk2 c2)) (.slice A2 lk2 c2) (CS (k + 1)) by have := (IAt.of_own R2.out).set (KK.out _ B2.out) (fun u hu => by simp at hu; rw [hu]; exact ⟨_, _, _, rfl⟩) (k := 0) (.slice A2 lk2 c2); rw [HL2.out] at this; exact this)
        have K3 := Lib.hid (set_row (KK.out _ B2.out) 0 (.slice A2 lk2 c2))
        have M3 := Lib.hid (set_far (b := b) (i := 0) (.slice A2 lk2 c2) (show c ≠ b by have := ZB.out; omega) (MM.out _ B2.out))
        have cb3 : (w2.setCell ⟨b, 0, none⟩ (.slice A2 lk2 c2)).cell? ⟨b1, o1 + k * 2 + 1, none⟩ = some (.bool false) := (World.cell?_of_block (Below.heap_setCell w2 ⟨b, 0, none⟩ _ b1 NB.out.1)).trans (CB2.out _ B2.out)
        have cm3 : (w2.setCell ⟨b, 0, none⟩ (.slice A2 lk2 c2)).cell? ⟨c, a.toNat, none⟩ = some (.bool true) := by rw [cell_of_row _ _ _ _ _ _ M3.out, met_at ⟨ha1, by omega⟩, WAS.out]
        have fm3 : (w2.setCell ⟨b, 0, none⟩ (.slice A2 lk2 c2)).frozen? ⟨c, a.toNat, none⟩ = false := frozen_of_row _ _ _ _ _ M3.out
        have B3n := Lib.hid ((below_end HB.out B2.out).setCell (p := ⟨b, 0, none⟩) LB.out (.slice A2 lk2 c2))
        clear k2 f2
        generalize w2.setCell ⟨b, 0, none⟩ (.slice A2 lk2 c2) = X3 at *
        go_upto_region 19 with fail
        have M4 := Lib.hid (set_row M3.out a.toNat (.bool true))
        rw [MP.out] at M4
        have K4 := Lib.hid (set_far (b := c) (i := a.toNat) (.bool true) (show b ≠ c by have := ZB.out; omega) K3.out)
        have cm4 : (X3.setCell ⟨c, a.toNat, none⟩ (.bool true)).cell? ⟨c, a.toNat, none⟩ = some (.bool true) := World.cell?_setCell_same _ _ _ cm3
        have B4n := Lib.hid (B3n.out.setCell (p := ⟨c, a.toNat, none⟩) (show w.heap.size ≤ c by have := ZB.out; have := LB.out; omega) (.bool true))
        have I4 := Lib.hid (I3.out.setN M3.out (met_bool _ _) (k := a.toNat) (.bool true))
        clear cm3 fm3 cb3
        generalize X3.setCell ⟨c, a.toNat, none⟩ (.bool true) = X4 at *
        have k4 := (one_cell K4.out).1
        have C4 := Lib.hid (CK.out _ _ I4.out)
        go_wp2_with (go_at_call 11; refine C4.out.mono ?_; rintro e w5 ⟨rfl, hb5⟩; have B5 := Lib.hid (below_end B4n.out hb5); have K5 := Lib.hid (keep_heap hb5 K4.out); have M5 := Lib.hid (keep_heap hb5 M4.out); have I5 := Lib.hid (I4.out.below hb5); clear hb5)
        refine ⟨⟨k + 1, by omega, by simp, ?_, Lib.hid ⟨_, _, by rw [HL2.out]; exact K5.out, by rw [HL2.out]; exact I5.out⟩, M5, B5⟩, ?_⟩
        · rw [HN2.out]; have := hwn.out; rw [this]
        · show m - ((k : Int) + 1).toNat < m - ((k : Int)).toNat
          omega
      · have hd : decide (aOf x ∈ CS k) = false := decide_eq_false hm
        rw [hd] at cm
        have hB0 : hasB (CS k) (aOf x) = false := (hOk.good.tab.hasF hOk.good.zero (by omega)).2 hm
        have DR := Lib.hid (add27 _ _ (aOf x) wr hs2 (by have := hOk.good.tab.hi; omega))
        rw [add_ans hOk.good (by omega), hB0] at DR
        have e1 : CS (k + 1) = addF (CS k) (aOf x) := by rw [hS]; simp
        have hOk2 := OK.out (k + 1) (by omega)
        have hct : ((srt (CS k)).length : Int) + 1 = ((srt (CS (k + 1))).length : Int) := by rw [e1]; have := len_add1 hOk.good (a := aOf x) (by omega) hm; omega
        have hsl2 := srt_len (CS (k + 1))
        have MP := Lib.hid (show (metG 61 (CS k)).setIfInBounds (aOf x).toNat (.bool true) = metG 61 (CS (k + 1)) from met_put (by omega) (by rw [e1]; exact ⟨fun _ => rfl, fun _ => (add_mem hOk.good (by omega) (by omega)).2 (.inl rfl)⟩) (fun j h0 hj => by rw [e1, add_mem hOk.good (by omega) h0]; exact ⟨fun h => h.resolve_left hj, .inr⟩))
        rw [← e1] at DR
        have CK := Lib.hid (fun u W (h : IAt W u (CS (k + 1))) => rcheck14 u (CS (k + 1)) W h (by have := hOk2.good.tab.hi; omega))
        rw [chk_of_good hOk2.good] at CK
        unfold SbAns sv at DR
        unfold sv at CK
        dsimp only at DR CK
        have WAS := Lib.hid (show decide (aOf x ∈ CS k) = false from hd)
        have CB2 := Lib.hid (fun W (hb : Below wr.heap.size wr W) => keep_cell hb cb2)
        have MM := Lib.hid (fun W (hb : Below wr.heap.size wr W) => keep_heap hb HM.out)
        have KK := Lib.hid (fun W (hb : Below wr.heap.size wr W) => keep_heap hb hs1)
        have HX := Lib.hid ha
        have NB := Lib.hid (show b1 ≠ b ∧ b1 ≠ c by have := cell_lt ca2; have := LB.out; have := ZB.out; dsimp only at *; omega)
        obtain ⟨N1, hN1⟩ : ∃ n, (srt (CS k)).length = n := ⟨_, rfl⟩
        obtain ⟨N2, hN2⟩ : ∃ n, (srt (CS (k + 1))).length = n := ⟨_, rfl⟩
        have HN2 := Lib.hid hN2
        rw [hN1, hN2] at hct
        rw [hN1] at hsl
        rw [hN2] at hsl2
        rw [hN1]
        have hwn : IntKind.i64.wrap ((N1 : Int) + 1) = (N2 : Int) := by rw [hct]; exact IntWalk.i64_in _ (by omega)
        obtain ⟨lk, hlk⟩ : ∃ n, (CS k).length = n := ⟨_, rfl⟩
        obtain ⟨lk2, hlk2⟩ : ∃ n, (CS (k + 1)).length = n := ⟨_, rfl⟩
        have HL2 := Lib.hid hlk2
        rw [hlk] at k1 DR KK hs1 hs2
        generalize aOf x = a at *
        have ha1 : 1 ≤ a := HX.out.1
        have ha2 : a ≤ 60 := HX.out.2
        have ha3 : a < 61 := by omega
        have ha4 : 0 ≤ a := by omega
        have HCT := Lib.hid hct
        clear hS hd hB0 e1 hOk hOk2 hsl2 hsl hct hm hs1 hs2 ca ca1 ca2 hx ha hax hN1 hN2 hlk hlk2 HS cb2
        have fm : wr.frozen? ⟨c, a.toNat, none⟩ = false := frozen_of_row _ _ _ _ _ HM.out
        have cb2 := CB2.out wr (Below.refl _ _)
        go_upto_region 16 with (go_at_call 10; refine DR.out.mono ?_; rintro e w2 ⟨v2, rfl, hr, hb2⟩; have R2 := Lib.hid hr; have B2 := Lib.hid hb2; obtain ⟨A2, c2, rfl⟩ := own_form hr; obtain ⟨k2, f2⟩ := one_cell (KK.out _ hb2); clear hr hb2 cb2 cm fm k1 f1)
        rw [HL2.out]
        have I3 := Lib.hid (show IAt (w2.setCell ⟨b, 0, none⟩ (.slice A2 lk2 c2)) (.slice A2 lk2 c2) (CS (k + 1)) by have := (IAt.of_own R2.out).set (KK.out _ B2.out) (fun u hu => by simp at hu; rw [hu]; exact ⟨_, _, _, rfl⟩) (k := 0) (.slice A2 lk2 c2); rw [HL2.out] at this; exact this)
        have K3 := Lib.hid (set_row (KK.out _ B2.out) 0 (.slice A2 lk2 c2))
        have M3 := Lib.hid (set_far (b := b) (i := 0) (.slice A2 lk2 c2) (show c ≠ b by have := ZB.out; omega) (MM.out _ B2.out))
        have cb3 : (w2.setCell ⟨b, 0, none⟩ (.slice A2 lk2 c2)).cell? ⟨b1, o1 + k * 2 + 1, none⟩ = some (.bool false) := (World.cell?_of_block (Below.heap_setCell w2 ⟨b, 0, none⟩ _ b1 NB.out.1)).trans (CB2.out _ B2.out)
        have cm3 : (w2.setCell ⟨b, 0, none⟩ (.slice A2 lk2 c2)).cell? ⟨c, a.toNat, none⟩ = some (.bool false) := by rw [cell_of_row _ _ _ _ _ _ M3.out, met_at ⟨ha1, by omega⟩, WAS.out]
        have fm3 : (w2.setCell ⟨b, 0, none⟩ (.slice A2 lk2 c2)).frozen? ⟨c, a.toNat, none⟩ = false := frozen_of_row _ _ _ _ _ M3.out
        have B3n := Lib.hid ((below_end HB.out B2.out).setCell (p := ⟨b, 0, none⟩) LB.out (.slice A2 lk2 c2))
        clear k2 f2
        generalize w2.setCell ⟨b, 0, none⟩ (.slice A2 lk2 c2) = X3 at *
        go_upto_region 19 with fail
        have M4 := Lib.hid (set_row M3.out a.toNat (.bool true))
        rw [MP.out] at M4
        have K4 := Lib.hid (set_far (b := c) (i := a.toNat) (.bool true) (show b ≠ c by have := ZB.out; omega) K3.out)
        have cm4 : (X3.setCell ⟨c, a.toNat, none⟩ (.bool true)).cell? ⟨c, a.toNat, none⟩ = some (.bool true) := World.cell?_setCell_same _ _ _ cm3
        have B4n := Lib.hid (B3n.out.setCell (p := ⟨c, a.toNat, none⟩) (show w.heap.size ≤ c by have := ZB.out; have := LB.out; omega) (.bool true))
        have I4 := Lib.hid (I3.out.setN M3.out (met_bool _ _) (k := a.toNat) (.bool true))
        clear cm3 fm3 cb3
        generalize X3.setCell ⟨c, a.toNat, none⟩ (.bool true) = X4 at *
        have k4 := (one_cell K4.out).1
        have C4 := Lib.hid (CK.out _ _ I4.out)
        go_wp2_with (go_at_call 11; refine C4.out.mono ?_; rintro e w5 ⟨rfl, hb5⟩; have B5 := Lib.hid (below_end B4n.out hb5); have K5 := Lib.hid (keep_heap hb5 K4.out); have M5 := Lib.hid (keep_heap hb5 M4.out); have I5 := Lib.hid (I4.out.below hb5); clear hb5)
        refine ⟨⟨k + 1, by omega, by simp, ?_, Lib.hid ⟨_, _, by rw [HL2.out]; exact K5.out, by rw [HL2.out]; exact I5.out⟩, M5, B5⟩, ?_⟩
        · rw [HN2.out]
        · show m - ((k : Int) + 1).toNat < m - ((k : Int)).toNat
          omega
end Ytjkphacidpongaa
end Go.Proofs
