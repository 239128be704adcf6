/- The reference's Check, of tables with a good number of cells. -/
import Derived.Test.YtjkphacidpongaaGreatG17
namespace Go.Proofs
namespace YtjkphacidpongaaGreat
open Go.RowKit

set_option maxRecDepth 100000 in
set_option maxHeartbeats 2000000 in
theorem rcheck14_ok (v : Value) (cs : List Int) (w : World) (h : IAt w v cs) (hb : ¬ 8192 < cs.length) (hp : isPow cs.length = true) :
    Calls Tryz.prog 82 #[sv v] w fun e w' => e = .returned (.tuple #[.int .i64 (chkF cs).1, .int .i64 (chkF cs).2]) ∧ Below w.heap.size w w' := by
  have h0 := heap_alloc_new w (.cells #[v] 27)
  have hb0 := alloc_below w (.cells #[v] 27)
  have hm8 := pow_lo hp
  have hs := size_ok hb hp
  -- what the three loops answer
  have E1 := Lib.hid (fun k (hk : k < cs.length) (h : ∀ j, j < k → cellErr cs j = 0) c (hc : cellErr cs k = c) (h0 : c ≠ 0) => (show chkF cs = ((k : Int), c) by
    have := cells_err hk h hc h0; rw [← this]; exact chk_2 hs (by rw [this]; exact h0)))
  have E2 := Lib.hid (fun (h : ∀ j, j < cs.length → cellErr cs j = 0) (h3 : crowd cs = true) => chk_3 hs (by rw [cells_ok h]) h3)
  have E3 := Lib.hid (fun (h : ∀ j, j < cs.length → cellErr cs j = 0) (h3 : crowd cs = false) k (hk : k < cs.length) (h4 : ∀ j, j < k → offB cs j = false) (hc : offB cs k = true) => (show chkF cs = ((k : Int), 6) by
    rw [chk_4 hs (by rw [cells_ok h]) h3]; exact paths_err hk h4 hc))
  have E4 := Lib.hid (fun (h : ∀ j, j < cs.length → cellErr cs j = 0) (h3 : crowd cs = false) (h4 : ∀ j, j < cs.length → offB cs j = false) => (show chkF cs = (0, 0) by
    rw [chk_4 hs (by rw [cells_ok h]) h3]; exact paths_ok h4))
  have RG := Lib.hid (fun (h : ∀ j, j < cs.length → cellErr cs j = 0) => (show ∀ i, i < cs.length → -1 ≤ cs.getD i 0 ∧ cs.getD i 0 ≤ 1600 from fun i hi => by
    have := h i hi
    rw [cellErr_eq] at this
    split at this
    · cases this
    · omega))
  have ZR := Lib.hid (fun (h3 : crowd cs = false) => (show (0 : Int) ∈ cs from zero_of_used (by simp only [crowd, decide_eq_false_iff_not] at h3; omega)))
  have BF := Lib.hid (fun W (hb : Below w.heap.size w W) i (hi : i < cs.length) => rbefore38 v cs i W (h.below hb) hi (by omega))
  have US := Lib.hid (fun W (hb : Below w.heap.size w W) => rused39 v cs W (h.below hb) (by omega))
  have FI := Lib.hid (fun W (hb : Below w.heap.size w W) (hz : (0 : Int) ∈ cs) a (ha : 1 ≤ a ∧ a ≤ 1600) => rfind40 v cs a W (h.below hb) hz (by omega) ha)
  have CR := Lib.hid (show crowd cs = decide ((3 : Int) * cs.length < 4 * (usedN cs : Int)) by unfold crowd; rw [Bool.eq_iff_iff]; simp only [decide_eq_true_eq]; omega)
  have CE := Lib.hid (cellErr_eq cs)
  have OE := Lib.hid (offB_eq cs)
  have hul := used_le cs
  obtain ⟨A, cap, rfl, hA⟩ := h
  have HA := Lib.hid hA
  have c0 := (one_cell h0).1
  have B := Lib.hid hb0
  have C0 := Lib.hid h0
  obtain ⟨R, hR⟩ : ∃ R, chkF cs = R := ⟨_, rfl⟩
  rw [hR] at E1 E2 E3 E4 ⊢
  unfold sv
  have PE := Lib.hid (fun n (h : isPow n = true) (h1 : n = 8 ∨ n < 2 * cs.length) (h2 : cs.length < n) => (show False by have := pow_end h h1 h2; rw [hp] at this; cases this))
  have PM := Lib.hid hp
  obtain ⟨m, hm2⟩ : ∃ m, cs.length = m := ⟨_, rfl⟩
  have HM := Lib.hid hm2
  rw [hm2] at hm8 hb E1 E2 E3 E4 RG BF US FI CR HA c0 B C0 PE PM hul ⊢
  generalize usedN cs = u at *
  generalize addrN cs = ad at *
  have q : decide ((8192 : Int) < (m : Int)) = false := decide_eq_false (by omega)
  have q' : ¬ (8192 : Int) < (m : Int) := by omega
  have P8 := Lib.hid (show isPow 8 = true by decide)
  have PS := Lib.hid (fun n (h : isPow n = true) (h2 : n < 8192) => pow_small h h2)
  have PL := Lib.hid (fun n (h : isPow n = true) => pow_lo h)
  clear h0 hb0 hp hm2 hR hA hs
  go_enter Tryz.func82, Tryz.ntmps82
  go_upto_region 4 with fail
  generalize w.alloc (.cells #[.slice A m cap] 27) = W0 at *
  go_wp2
  go_loopw [5] (fun i wr => ∃ n : Nat, i = .int .i64 n ∧ Hid (isPow n = true) ∧ Hid (n = 8 ∨ n < 2 * m) ∧ n ≤ 8192 ∧ 8 ≤ n ∧ Hid (W0 = wr)) (fun i _ => m - (intOf i).toNat)
  case atStart => exact ⟨8, rfl, P8, Lib.hid (.inl rfl), by omega, by omega, Lib.hid rfl⟩
  case round =>
    obtain ⟨n, rfl, HP, HN, hn, hn8, hw⟩ := hrel
    obtain rfl := hw.out
    by_cases hlt : n < m
    · have hlt' : (n : Int) < (m : Int) := by omega
      have HP2 := Lib.hid (PS.out n HP.out (by omega))
      have hw1 : IntKind.i64.wrap ((n : Int) * 2) = (n : Int) * 2 := IntWalk.i64_in _ (by omega)
      go_wp2
      refine ⟨⟨n * 2, by simp, HP2, Lib.hid (.inr (by omega)), (PL.out _ HP2.out).2, by omega, Lib.hid trivial⟩, ?_⟩
      show m - ((n : Int) * 2).toNat < m - ((n : Int)).toNat
      omega
    · have hlt' : ¬ (n : Int) < (m : Int) := by omega
      have hne : ¬ m < n := fun e => PE.out n HP.out HN.out e
      obtain rfl : n = m := by omega
      have q2 : ((n : Int) != (n : Int)) = false := by simp
      clear HN hne hlt PE
      go_wp2
      clear q2
      go_loopw [6] (fun i wq => ∃ k : Nat, k ≤ n ∧ i = .int .i64 k ∧ Hid (∀ j, j < k → cellErr cs j = 0) ∧ Hid (Below W0.heap.size W0 wq)) (fun i _ => n - (intOf i).toNat)
      case atStart => exact ⟨0, by omega, rfl, Lib.hid (fun j hj => by omega), Lib.hid (Below.refl _ _)⟩
      case round =>
        obtain ⟨k, hk, rfl, HN, HB⟩ := hrel
        by_cases hlt : k < n
        · have hlt' : (k : Int) < (n : Int) := by omega
          have BW := Lib.hid (below_end B.out HB.out)
          obtain ⟨b1, o1, rfl, ca⟩ := HA.out (by omega)
          have ca' := (BW.out.cell (cell_lt (ca k hlt))).trans (ca k hlt)
          have ad1 : (⟨b1, o1, none⟩ : Addr).add k = ⟨b1, o1 + k, none⟩ := by unfold Addr.add; split <;> simp_all
          have BE := Lib.hid (BF.out wr BW.out k hlt)
          have HX := Lib.hid (CE.out k)
          clear ca
          generalize cs.getD k 0 = x at *
          have FIN := Lib.hid (show ∀ c, c ≠ 0 → cellErr cs k = c → R = (↑k, c) from fun c h0 hc => E1.out k hlt HN.out c hc h0)
          have NXT := Lib.hid (show cellErr cs k = 0 → ∀ j, j < k + 1 → cellErr cs j = 0 from fun h j hj => by
            rcases Nat.lt_or_ge j k with h1 | h1
            · exact HN.out j h1
            · obtain rfl : j = k := by omega
              exact h)
          by_cases h1 : x < -1
          · have T := FIN.out 7 (by decide) (by rw [HX.out, if_pos (.inl h1)])
            subst T
            have q1 : decide (x < -1) = true := decide_eq_true h1
            clear h1 FIN NXT
            go_wp2
            refine bodyPost_ret (v := .tuple #[.int .i64 k, .int .i64 7]) (by simp [results, Tryz.f82, go_sem]) rfl ⟨rfl, BW.out⟩
          have q1 : decide (x < -1) = false := decide_eq_false h1
          by_cases h2 : 1600 < x
          · have T := FIN.out 7 (by decide) (by rw [HX.out, if_pos (.inr h2)])
            subst T
            have q2 : decide (1600 < x) = true := decide_eq_true h2
            clear h1 h2 FIN NXT
            go_wp2
            refine bodyPost_ret (v := .tuple #[.int .i64 k, .int .i64 7]) (by simp [results, Tryz.f82, go_sem]) rfl ⟨rfl, BW.out⟩
          have q2 : decide (1600 < x) = false := decide_eq_false h2
          have HX2 := Lib.hid (show cellErr cs k = if 0 < x ∧ x ∈ cs.take k then 8 else 0 by rw [HX.out, if_neg (by omega)])
          by_cases h3 : 0 < x
          rotate_left
          · have q3 : decide (0 < x) = false := decide_eq_false h3
            have N := Lib.hid (NXT.out (by rw [HX2.out, if_neg (by omega)]))
            clear h1 h2 h3 FIN NXT
            go_wp2
            refine ⟨⟨k + 1, by omega, by simp, N, HB⟩, ?_⟩
            show n - ((k : Int) + 1).toNat < n - ((k : Int)).toNat
            omega
          have q3 : decide (0 < x) = true := decide_eq_true h3
          by_cases h4 : x ∈ cs.take k
          · have T := FIN.out 8 (by decide) (by rw [HX2.out, if_pos ⟨h3, h4⟩])
            subst T
            rw [decide_eq_true h4] at BE
            clear h1 h2 h3 h4 FIN NXT
            go_wp2_with (go_at_call 101; refine BE.out.mono ?_; rintro e w1 ⟨rfl, hb1⟩; have B1 := Lib.hid (below_end BW.out hb1); clear hb1)
            refine bodyPost_ret (v := .tuple #[.int .i64 k, .int .i64 8]) (by simp [results, Tryz.f82, go_sem]) rfl ⟨rfl, B1.out⟩
          · have N := Lib.hid (NXT.out (by rw [HX2.out, if_neg (fun h => h4 h.2)]))
            rw [decide_eq_false h4] at BE
            clear h1 h2 h3 h4 FIN NXT
            go_wp2_with (go_at_call 101; refine BE.out.mono ?_; rintro e w1 ⟨rfl, hb1⟩; have B1 := Lib.hid (below_end HB.out hb1); clear hb1)
            refine ⟨⟨k + 1, by omega, by simp, N, B1⟩, ?_⟩
            show n - ((k : Int) + 1).toNat < n - ((k : Int)).toNat
            omega
        · have hlt' : ¬ (k : Int) < (n : Int) := by omega
          obtain rfl : k = n := by omega
          have BW := Lib.hid (below_end B.out HB.out)
          have U1 := Lib.hid (US.out wr BW.out)
          have RG1 := Lib.hid (RG.out HN.out)
          have E2 := Lib.hid (E2.out HN.out)
          have E3 := Lib.hid (E3.out HN.out)
          have E4 := Lib.hid (E4.out HN.out)
          have c0' := (one_cell (keep_heap HB.out C0.out)).1
          obtain ⟨W1, hW1⟩ : ∃ X, X = wr := ⟨_, rfl⟩
          subst hW1
          clear E1 HN CE US BF RG
          cases hc : crowd cs with
          | true =>
            have T := E2.out hc
            rw [hc] at CR
            have q3 : decide (3 * (k : Int) < 4 * (u : Int)) = true := CR.out.symm
            have q3' : 3 * (k : Int) < 4 * (u : Int) := of_decide_eq_true q3
            subst T
            clear hc CR
            go_wp2_with (go_at_call 83; refine U1.out.mono ?_; rintro e w2 ⟨rfl, rfl⟩)
            refine bodyPost_ret (v := .tuple #[.int .i64 (-1), .int .i64 5]) (by simp [results, Tryz.f82, go_sem]) rfl ⟨rfl, BW.out⟩
          | false =>
            have hz := ZR.out hc
            have E3 := Lib.hid (E3.out hc)
            have E4 := Lib.hid (E4.out hc)
            have FI := Lib.hid (fun W hb => FI.out W hb hz)
            rw [hc] at CR
            have q3 : decide (3 * (k : Int) < 4 * (u : Int)) = false := CR.out.symm
            have q3' : ¬ 3 * (k : Int) < 4 * (u : Int) := of_decide_eq_false q3
            clear hc CR E2 ZR hz
            go_wp2_with (go_at_call 83; refine U1.out.mono ?_; rintro e w2 ⟨rfl, rfl⟩)
            go_loopw [9] (fun i wq => ∃ j : Nat, j ≤ k ∧ i = .int .i64 j ∧ Hid (∀ i, i < j → offB cs i = false) ∧ Hid (W1 = wq)) (fun i _ => k - (intOf i).toNat)
            case atStart => exact ⟨0, by omega, rfl, Lib.hid (fun j hj => by omega), Lib.hid rfl⟩
            case round =>
              obtain ⟨j, hj, rfl, HN, hw⟩ := hrel
              obtain rfl := hw.out
              by_cases hlt : j < k
              · have hlt' : (j : Int) < (k : Int) := by omega
                obtain ⟨b1, o1, rfl, ca⟩ := HA.out (by omega)
                have ca' := (BW.out.cell (cell_lt (ca j hlt))).trans (ca j hlt)
                have ad1 : (⟨b1, o1, none⟩ : Addr).add j = ⟨b1, o1 + j, none⟩ := by unfold Addr.add; split <;> simp_all
                have rg := RG1.out j hlt
                have HX := Lib.hid (OE.out j)
                have FIN := Lib.hid (show offB cs j = true → R = (↑j, 6) from fun hc => E3.out j hlt HN.out hc)
                have NXT := Lib.hid (show offB cs j = false → ∀ i, i < j + 1 → offB cs i = false from fun h i hi => by
                  rcases Nat.lt_or_ge i j with h1 | h1
                  · exact HN.out i h1
                  · obtain rfl : i = j := by omega
                    exact h)
                clear ca
                generalize cs.getD j 0 = x at *
                by_cases h3 : 0 < x
                rotate_left
                · have q4 : decide (0 < x) = false := decide_eq_false h3
                  have N := Lib.hid (NXT.out (by rw [HX.out, decide_eq_false h3]; rfl))
                  clear h3 FIN NXT
                  go_wp2
                  refine ⟨⟨j + 1, by omega, by simp, N, Lib.hid trivial⟩, ?_⟩
                  show k - ((j : Int) + 1).toNat < k - ((j : Int)).toNat
                  omega
                have q4 : decide (0 < x) = true := decide_eq_true h3
                have F1 := Lib.hid (FI.out W1 BW.out x (by omega))
                have q5 := atF_neg (cs := cs) (a := x)
                have HX2 := Lib.hid (show offB cs j = !hasB cs x by rw [HX.out, decide_eq_true h3]; rfl)
                generalize atF cs x = y at *
                cases hh : hasB cs x with
                | true =>
                  rw [hh] at q5
                  have q5 : decide (y < 0) = false := q5
                  have N := Lib.hid (NXT.out (by rw [HX2.out, hh]; rfl))
                  clear h3 FIN NXT hh HX2
                  go_wp2_with (go_at_call 74; refine F1.out.mono ?_; rintro e w3 ⟨rfl, rfl⟩)
                  refine ⟨⟨j + 1, by omega, by simp, N, Lib.hid trivial⟩, ?_⟩
                  show k - ((j : Int) + 1).toNat < k - ((j : Int)).toNat
                  omega
                | false =>
                  rw [hh] at q5
                  have q5 : decide (y < 0) = true := q5
                  have T := FIN.out (by rw [HX2.out, hh]; rfl)
                  subst T
                  clear h3 NXT hh HX2
                  go_wp2_with (go_at_call 74; refine F1.out.mono ?_; rintro e w3 ⟨rfl, rfl⟩)
                  refine bodyPost_ret (v := .tuple #[.int .i64 j, .int .i64 6]) (by simp [results, Tryz.f82, go_sem]) rfl ⟨rfl, BW.out⟩
              · have hlt' : ¬ (j : Int) < (k : Int) := by omega
                have T := E4.out (fun i hi => HN.out i (by omega))
                subst T
                go_wp2
                refine bodyPost_ret (v := .tuple #[.int .i64 0, .int .i64 0]) (by simp [results, Tryz.f82, go_sem]) rfl ⟨rfl, BW.out⟩
theorem rcheck14 (v : Value) (cs : List Int) (w : World) (h : IAt w v cs) (hm : cs.length ≤ 100000) :
    Calls Tryz.prog 82 #[sv v] w fun e w' => e = .returned (.tuple #[.int .i64 (chkF cs).1, .int .i64 (chkF cs).2]) ∧ Below w.heap.size w w' := by
  by_cases hb : 8192 < cs.length
  · exact rcheck14_bad v cs w h hm (.inl hb)
  · cases hp : isPow cs.length with
    | true => exact rcheck14_ok v cs w h hb hp
    | false => exact rcheck14_bad v cs w h hm (.inr hp)
end YtjkphacidpongaaGreat
end Go.Proofs
