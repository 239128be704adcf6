/- Count and Equal, the reference's. -/
import Derived.Test.YtjkphacidpongaaGreatQRmX
namespace Go.Proofs
namespace YtjkphacidpongaaGreat
open Go.RowKit

set_option maxRecDepth 100000 in
set_option maxHeartbeats 2000000 in
theorem rcount16 (A nv : Value) (n : Nat) (U : Nat → Value) (T : Nat → List Int) (w : World) (hR : RS w A nv n U T) (hm : ∀ j, j ≤ n → (T j).length ≤ 100000) (hn : n ≤ 100000) :
    Calls Tryz.prog 16 #[.agg #[A, nv]] w fun e w' => e = .returned (.tuple #[.int .i64 (cntF n T).1, .int .i64 (cntF n T).2]) ∧ Below w.heap.size w w' := by
  have h0 := heap_alloc_new w (.cells #[A, nv] 29)
  have hb := alloc_below w (.cells #[A, nv] 29)
  obtain ⟨c0, c1, -, -⟩ := two_cells h0
  have AL := Lib.hid (all47 A nv n U T _ (hR.below hb) hn)
  obtain ⟨a0, cap0, rfl, -⟩ := hR.form
  have hat := hR.at_ n (Nat.le_refl _)
  rw [hR.nur] at hat
  obtain ⟨An, cn, rfl, -⟩ := hat
  have B := Lib.hid hb
  have AT := Lib.hid (fun i (hi : i ≤ n) (h : (lenA (T i)).2 ≠ 0) (hb : ∀ j, j < i → (lenA (T j)).2 = 0) => cnt_at hi h hb)
  have OK := Lib.hid (fun (hb : ∀ j, j ≤ n → (lenA (T j)).2 = 0) => cnt_ok hb)
  have RL := Lib.hid (fun j (hj : j ≤ n) W u (hu : IAt W u (T j)) => rlen16 u (T j) W hu (hm j hj))
  obtain ⟨R, hRR⟩ : ∃ R, cntF n T = R := ⟨_, rfl⟩
  rw [hRR] at AT OK ⊢
  obtain ⟨m, hm2⟩ : ∃ m, n + 1 = m := ⟨_, rfl⟩
  have HM2 := Lib.hid hm2
  unfold AllAns at AL
  rw [hm2] at AL OK
  generalize (T n).length = ln at *
  clear h0 hb hR hm hRR hm2
  go_enter Tryz.func16, Tryz.ntmps16
  go_upto_region 3 with (go_at_call 47; refine AL.out.mono ?_; rintro e w1 ⟨g, cp, rfl, hc, hb1⟩; have B1 := Lib.hid (below_end B.out hb1); have CL := Lib.hid hc; clear hb1 hc)
  clear c0 c1 AL
  go_wp2
  go_loopw [2, 3, 4, 6, 7, 8] (fun r1 r2 c i x e wr => ∃ k : Nat, k ≤ m ∧ i = .int .i64 k ∧ c = .int .i64 (cntU T k) ∧ Hid (∀ j, j < k → (lenA (T j)).2 = 0) ∧ Hid (Below w1.heap.size w1 wr)) (fun _ _ _ i _ _ _ => m - (intOf i).toNat)
  case atStart => exact ⟨0, by omega, rfl, rfl, Lib.hid (fun j hj => by omega), Lib.hid (Below.refl _ _)⟩
  case round =>
    obtain ⟨k, hk, rfl, rfl, HN, HB⟩ := hrel
    have hcl := cntU_le T k
    by_cases hlt : k < m
    · have hlt' : (k : Int) < (m : Int) := by omega
      have q3 : decide ((k : Int) < (m : Int)) = true := decide_eq_true hlt'
      have hkn : k ≤ n := by have := HM2.out; omega
      obtain ⟨cc, hij⟩ := CL.out k hkn
      have cc := keep_cell HB.out cc
      have hij := hij.below HB.out
      have h5 := hij
      obtain ⟨Aj, cj, e2, -⟩ := h5
      rw [e2] at cc hij
      have ad : (⟨g, 0, none⟩ : Addr).add k = ⟨g, k, none⟩ := by unfold Addr.add; split <;> simp_all
      have CS := Lib.hid (RL.out k hkn _ _ hij)
      unfold sv at CS
      have hll := len_range2 (T k)
      have CU := Lib.hid (show cntU T (k + 1) = cntU T k + (lenA (T k)).1 from rfl)
      have ATk := Lib.hid (fun h => AT.out k hkn h HN.out)
      have GN := Lib.hid (fun (hf : (lenA (T k)).2 = 0) j (hj : j < k + 1) => (show (lenA (T j)).2 = 0 by
        rcases Nat.lt_or_ge j k with h | h
        · exact HN.out j h
        · obtain rfl : j = k := by omega
          exact hf))
      obtain ⟨z, hz2⟩ : ∃ z, lenA (T k) = z := ⟨_, rfl⟩
      obtain ⟨c, hc2⟩ : ∃ c, cntU T k = c := ⟨_, rfl⟩
      rw [hz2] at CS CU hll ATk GN
      rw [hc2] at CU hcl ⊢
      obtain ⟨z1, z2⟩ := z
      dsimp only at CS CU hll ATk GN
      have hwr : IntKind.i64.wrap (c + z1) = c + z1 := IntWalk.i64_in _ (by omega)
      generalize (T k).length = lk at *
      by_cases hf : z2 = 0
      · subst hf
        have E := Lib.hid (GN.out rfl)
        clear hij hz2 hc2 GN ATk AT OK e2 CL
        go_wp2_with (go_at_call 49; refine CS.out.mono ?_; rintro e w2 ⟨rfl, hb2⟩; have B2 := Lib.hid (below_end HB.out hb2); clear hb2)
        refine ⟨⟨k + 1, by omega, by simp, by rw [CU.out], E, B2⟩, ?_⟩
        show m - ((k : Int) + 1).toNat < m - ((k : Int)).toNat
        omega
      · have qf : (z2 != 0) = true := by simpa using hf
        have E := Lib.hid (ATk.out hf)
        clear hij hz2 hc2 GN ATk AT OK e2 CL hf
        go_wp2_with (go_at_call 49; refine CS.out.mono ?_; rintro e w2 ⟨rfl, hb2⟩; have B2 := Lib.hid (below_end (below_end B1.out HB.out) hb2); clear hb2)
        refine bodyPost_ret (v := .tuple #[.int .i64 0, .int .i64 z2]) (by simp [results, Tryz.f16, go_sem]) rfl ⟨by rw [E.out], B2.out⟩
    · have hlt' : ¬ (k : Int) < (m : Int) := by omega
      have q3 : decide ((k : Int) < (m : Int)) = false := decide_eq_false hlt'
      obtain rfl : k = m := by omega
      have E := Lib.hid (OK.out (fun j hj => HN.out j (by have := HM2.out; omega)))
      have B2 := Lib.hid (below_end B1.out HB.out)
      generalize cntU T k = c at *
      clear CL AT OK HN
      go_wp2
      refine bodyPost_ret (v := .tuple #[.int .i64 c, .int .i64 0]) (by simp [results, Tryz.f16, go_sem]) rfl ⟨by rw [E.out], B2.out⟩
end YtjkphacidpongaaGreat
end Go.Proofs
/- Equal, the reference's. -/
namespace Go.Proofs
namespace YtjkphacidpongaaGreat
open Go.RowKit

def CellsAt (W : World) (g n : Nat) (U : Nat → Value) (T : Nat → List Int) : Prop := ∀ j, j ≤ n → W.cell? ⟨g, j, none⟩ = some (U j) ∧ IAt W (U j) (T j)
theorem CellsAt.below {W W' : World} {g n : Nat} {U : Nat → Value} {T : Nat → List Int} (h : CellsAt W g n U T) (hb : Below W.heap.size W W') : CellsAt W' g n U T := fun j hj => ⟨keep_cell hb (h j hj).1, (h j hj).2.below hb⟩
set_option maxRecDepth 100000 in
set_option maxHeartbeats 2000000 in
theorem requal14 (A1 n1 A2 n2 : Value) (n : Nat) (U1 U2 : Nat → Value) (T : Nat → List Int) (w : World) (h1 : RS w A1 n1 n U1 T) (h2 : RS w A2 n2 n U2 T) (hm : ∀ j, j ≤ n → (T j).length ≤ 100000) (hn : n ≤ 100000) :
    Calls Tryz.prog 14 #[.agg #[A1, n1], .agg #[A2, n2]] w fun e w' => e = .returned (.bool true) ∧ Below w.heap.size w w' := by
  obtain ⟨k0, k1, ks, hb⟩ := two_boxes w (.cells #[A1, n1] 29) (.cells #[A2, n2] 29)
  obtain ⟨c0, c1, -, -⟩ := two_cells k0
  obtain ⟨d0, d1, -, -⟩ := two_cells k1
  have AL1 := Lib.hid (fun W (hW : Below w.heap.size w W) => all47 A1 n1 n U1 T W (h1.below hW) hn)
  have AL2 := Lib.hid (fun W (hW : Below w.heap.size w W) => all47 A2 n2 n U2 T W (h2.below hW) hn)
  obtain ⟨a1, p1, rfl, -⟩ := h1.form
  obtain ⟨a2, p2, rfl, -⟩ := h2.form
  have hat1 := h1.at_ n (Nat.le_refl _)
  rw [h1.nur] at hat1
  obtain ⟨b1, q1, rfl, -⟩ := hat1
  have hat2 := h2.at_ n (Nat.le_refl _)
  rw [h2.nur] at hat2
  obtain ⟨b2, q2, rfl, -⟩ := hat2
  have B := Lib.hid hb
  have K0 := Lib.hid k0
  have K1 := Lib.hid k1
  have RI := Lib.hid (fun j (hj : j ≤ n) W u v (hu : IAt W u (T j)) (hv : IAt W v (T j)) => rints24 u v (T j) (T j) (by have := hm j hj; omega) W hu hv)
  obtain ⟨m, hm2⟩ : ∃ m, n + 1 = m := ⟨_, rfl⟩
  have HM2 := Lib.hid hm2
  unfold AllAns at AL1 AL2
  rw [hm2] at AL1 AL2
  generalize (T n).length = ln at *
  clear k0 k1 hb h1 h2 hm hm2 ks
  go_enter Tryz.func14, Tryz.ntmps14
  go_upto_region 1 with fail
  generalize (w.alloc (.cells #[.slice a1 n p1, .slice b1 ln q1] 29)).alloc (.cells #[.slice a2 n p2, .slice b2 ln q2] 29) = W0 at *
  go_region_with (first
    | (have hB1 := B1.out; go_at_call 47; refine (AL2.out _ hB1).mono ?_; rintro e w2 ⟨g2, cp2, rfl, hc2, hb2⟩; have B2 := Lib.hid (below_end B1.out hb2); have CL2 := Lib.hid (show CellsAt w2 g2 n U2 T from hc2); have CL1 := Lib.hid (CL1.out.below hb2); clear hc2 hb2 hB1)
    | (go_at_call 47; refine (AL1.out _ (below_drewN B.out 1)).mono ?_; rintro e w1 ⟨g1, cp1, rfl, hc1, hb1⟩; have B1 := Lib.hid (below_end B.out (Cf.below_drew_l hb1)); have CL1 := Lib.hid (show CellsAt w1 g1 n U1 T from hc1); obtain ⟨x0, x1, -, -⟩ := two_cells (keep_heap (Cf.below_drew_l hb1) K0.out); obtain ⟨y0, y1, -, -⟩ := two_cells (keep_heap (Cf.below_drew_l hb1) K1.out); clear hc1 hb1))
  all_goals
    have q : ((m : Int) != (m : Int)) = false := by simp
    clear AL1 AL2
    go_wp2
    go_loopw [4, 7] (fun r i wr => ∃ k : Nat, k ≤ m ∧ i = .int .i64 k ∧ Hid (Below w2.heap.size w2 wr)) (fun _ i _ => m - (intOf i).toNat)
    case atStart => exact ⟨0, by omega, rfl, Lib.hid (Below.refl _ _)⟩
    case round =>
      obtain ⟨k, hk, rfl, HB⟩ := hrel
      by_cases hlt : k < m
      · have hlt' : (k : Int) < (m : Int) := by omega
        have q3 : decide ((k : Int) < (m : Int)) = true := decide_eq_true hlt'
        have hkn : k ≤ n := by have := HM2.out; omega
        obtain ⟨cc1, hi1⟩ := (CL1.out.below HB.out) k hkn
        obtain ⟨cc2, hi2⟩ := (CL2.out.below HB.out) k hkn
        have IC := Lib.hid (RI.out k hkn wr.drew _ _ (hi1.below (below_drewN (Below.refl _ _) 1)) (hi2.below (below_drewN (Below.refl _ _) 1)))
        simp only [decide_true] at IC
        obtain ⟨Aj, cj, e2, -⟩ := hi1
        obtain ⟨Bj, dj, e3, -⟩ := hi2
        rw [e2] at cc1 IC
        rw [e3] at cc2 IC
        have ad1 : (⟨g1, 0, none⟩ : Addr).add k = ⟨g1, k, none⟩ := by unfold Addr.add; split <;> simp_all
        have ad2 : (⟨g2, 0, none⟩ : Addr).add k = ⟨g2, k, none⟩ := by unfold Addr.add; split <;> simp_all
        generalize (T k).length = lk at *
        clear e2 e3 CL1 CL2 RI
        go_upto_region 7 with fail
        go_region_with (go_at_call 25; refine IC.out.mono ?_; rintro e w3 ⟨rfl, hb3⟩; have B3 := Lib.hid (below_end HB.out (Cf.below_drew_l hb3)); clear hb3)
        all_goals
          go_wp2
          refine ⟨⟨k + 1, by omega, by simp, B3⟩, ?_⟩
          show m - ((k : Int) + 1).toNat < m - ((k : Int)).toNat
          omega
      · have hlt' : ¬ (k : Int) < (m : Int) := by omega
        have q3 : decide ((k : Int) < (m : Int)) = false := decide_eq_false hlt'
        have BB := Lib.hid (below_end B2.out HB.out)
        clear CL1 CL2 RI
        go_wp2
        refine bodyPost_ret (v := .bool true) (by simp [results, Tryz.f14, go_sem]) rfl ⟨rfl, BB.out⟩
end YtjkphacidpongaaGreat
end Go.Proofs
