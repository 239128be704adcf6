/- Store, the reference's. -/
import Derived.Test.YtjkphacidpongaaGreatQRnE
namespace Go.Proofs
namespace YtjkphacidpongaaGreat
open Go.RowKit
open Cf (good plC plE chkE)

theorem sto_1 {C N S K Q : Int} {n : Nat} {T : Nat → List Int} {slot old now : Int} (h : recE C N S K Q n T slot old ≠ 0) : stoE C N S K Q n T slot old now = recE C N S K Q n T slot old := by
  unfold stoE recE at *
  unfold firstE at *
  split at h <;> rename_i h1
  · rw [if_pos h1, if_pos h1, if_neg h]
  · rw [if_neg h1, if_neg h1]
theorem sto_2 {C N S K Q : Int} {n : Nat} {T : Nat → List Int} {slot old now : Int} (h : recE C N S K Q n T slot old = 0) : stoE C N S K Q n T slot old now = recE C N S K Q n T slot now := by
  unfold stoE recE at *
  unfold firstE at *
  split at h <;> rename_i h1
  · rw [if_pos h1, if_pos h1, if_pos h]
  · exact absurd h h1
theorem good_drop {n : Nat} {T : Nat → List Int} {slot k : Int} (hG : ∀ j, j ≤ n → Good (T j)) (hs : 1 ≤ slot ∧ slot ≤ 1600) : ∀ j, j ≤ n → Good (changeF n T slot k (-2) j) := by
  unfold changeF
  rw [on_none]
  unfold onT
  cases h : atI n k with
  | none => exact hG
  | some i =>
    have hi : i ≤ n := by
      unfold atI at h
      split at h
      · injection h with h; omega
      · split at h
        · injection h with h; omega
        · cases h
    exact good_upd hG (drop_good1 (hG i hi) hs)
theorem two_changes (n : Nat) (T : Nat → List Int) (slot k l : Int) : changeF n (changeF n T slot k (-2)) slot (-2) l = changeF n T slot k l := by
  unfold changeF; rw [on_none, on_none]
theorem rec_zero {C N S K Q : Int} {n : Nat} {T : Nat → List Int} {slot target : Int} (h0 : recE C N S K Q n T slot target = 0) : OkS C N S K Q n T ∧ (setF C N S K Q slot target).2 = 0 := by
  have hc : (chkS C N S K Q n T).2 = 0 := Classical.byContradiction fun h => by unfold recE at h0; rw [first_1 h] at h0; exact h h0
  exact ⟨ok_of_chk hc, by unfold recE at h0; rwa [hc, first_2] at h0⟩
/-- what asked says at any world -/
theorem copied_rs {w : World} {n : Nat} {T : Nat → List Int} {e : Ending} {w' : World} (h : CpAns w n T e w') : RsV w n T e w' := by
  obtain ⟨A, cp, us, g, cq, rfl, hl, hg, hn, -, hb⟩ := h
  exact ⟨A, cp, _, cq, _, rfl, hg.rs2 hl hn, hb, fun b off m c e => by cases e; exact (hg.own.lt b rfl).1⟩
set_option maxRecDepth 100000 in
set_option maxHeartbeats 1000000 in
theorem rstore22 (C N S K Q : Int) (A nv : Value) (n : Nat) (U : Nat → Value) (T : Nat → List Int) (slot old now : Int) (w : World) (hR : RS w A nv n U T) (hm : ∀ j, j ≤ n → (T j).length ≤ 100000) :
    Calls Tryz.prog 22 #[.agg #[.int .i64 C, .int .i64 N, .int .i64 S, .int .i64 K, .int .i64 Q], .agg #[A, nv], .int .i64 slot, .int .i64 old, .int .i64 now] w fun e w' => RsAns w (stoF C N S K Q n T slot old now).1 (stoF C N S K Q n T slot old now).2.1 (stoF C N S K Q n T slot old now).2.2 e w' := by
  obtain ⟨a, cap, rfl, -⟩ := hR.form
  have hat := hR.at_ n (Nat.le_refl _)
  rw [hR.nur] at hat
  obtain ⟨An, cn, rfl, -⟩ := hat
  obtain ⟨k0, k1, k2, k3, k4⟩ := three_boxes w (.cells #[.int .i64 C, .int .i64 N, .int .i64 S, .int .i64 K, .int .i64 Q] 23) (.cells #[.slice a n cap, .slice An (T n).length cn] 29) (.cells #[nilV, nilV] 29)
  have AO := Lib.hid (asked52 C N S K Q _ _ n U T slot old _ (hR.below k4) hm)
  have AW := Lib.hid (fun W (hb : Below w.heap.size w W) => asked52 C N S K Q _ _ n U T slot now W (hR.below hb) hm)
  obtain ⟨c0, c1, c2, c3, c4⟩ := five_cells k0
  obtain ⟨d0, d1, -, -⟩ := two_cells k1
  have B := Lib.hid k4
  have K0 := Lib.hid k0
  have K1 := Lib.hid k1
  have K2 := Lib.hid k2
  have K3 := Lib.hid k3
  unfold nilV at *
  unfold stoF
  by_cases h1 : recE C N S K Q n T slot old ≠ 0
  · rw [sto_1 h1, or_err h1]
    dsimp only
    generalize recE C N S K Q n T slot old = ec at *
    have q1 : (ec == 0) = false := by simpa using h1
    have q2 : (ec != 0) = true := by simpa using h1
    clear k0 k1 k2 k3 k4 hR hm h1 AW
    go_enter Tryz.func22, Tryz.ntmps22
    go_upto_region 5 with (go_at_call 52; refine AO.out.mono ?_; rintro e w1 ⟨rfl, hb1⟩; have B1 := Lib.hid (below_end B.out hb1); have K2 := Lib.hid (keep_heap hb1 K2.out); obtain ⟨r0, r1, g0, g1⟩ := two_cells K2.out; clear hb1)
    obtain ⟨y0, y1, yb⟩ := ret_zero B1.out K2.out (show w.heap.size ≤ w.heap.size + 2 by omega)
    have YB := Lib.hid yb
    clear yb
    unfold nilV at *
    go_wp2
    refine bodyPost_ret (v := .tuple #[.agg #[.slice none 0 0, .slice none 0 0], .int .i64 ec]) (by simp [results, Tryz.f22, go_sem, y0, y1]) rfl ⟨_, _, _, rfl, RS.zero _, YB.out, nil_new _⟩
  have h0 : recE C N S K Q n T slot old = 0 := Classical.byContradiction h1
  rw [sto_2 h0]
  rw [h0] at AO
  by_cases h2 : recE C N S K Q n T slot now ≠ 0
  · rw [or_err h2]
    dsimp only
    generalize recE C N S K Q n T slot now = ec at *
    have q2 : (ec != 0) = true := by simpa using h2
    clear k0 k1 k2 k3 k4 hR hm h1 h2 h0
    go_enter Tryz.func22, Tryz.ntmps22
    go_upto_region 3 with (go_at_call 52; refine AO.out.mono ?_; rintro e w1 ⟨rfl, hb1⟩; have B1 := Lib.hid (below_end B.out hb1); have K0 := Lib.hid (keep_heap hb1 K0.out); have K1 := Lib.hid (keep_heap hb1 K1.out); have K2 := Lib.hid (keep_heap hb1 K2.out); obtain ⟨c0, c1, c2, c3, c4⟩ := five_cells K0.out; obtain ⟨d0, d1, -, -⟩ := two_cells K1.out; clear hb1)
    go_upto_region 5 with (go_at_call 52; refine (AW.out _ B1.out).mono ?_; rintro e w2 ⟨rfl, hb2⟩; have B2 := Lib.hid (below_end B1.out hb2); have K2 := Lib.hid (keep_heap hb2 K2.out); obtain ⟨r0, r1, g0, g1⟩ := two_cells K2.out; clear hb2)
    obtain ⟨y0, y1, yb⟩ := ret_zero B2.out K2.out (show w.heap.size ≤ w.heap.size + 2 by omega)
    have YB := Lib.hid yb
    clear yb
    unfold nilV at *
    go_wp2
    refine bodyPost_ret (v := .tuple #[.agg #[.slice none 0 0, .slice none 0 0], .int .i64 ec]) (by simp [results, Tryz.f22, go_sem, y0, y1]) rfl ⟨_, _, _, rfl, RS.zero _, YB.out, nil_new _⟩
  have h3 : recE C N S K Q n T slot now = 0 := Classical.byContradiction h2
  have ho := plcF_eq h0
  have hw := plcF_eq h3
  obtain ⟨hok, z1⟩ := rec_zero h0
  obtain ⟨-, z2⟩ := rec_zero h3
  have hn := hok.len
  have hn24 : n ≤ 24 := by obtain ⟨-, -, -, n1, -⟩ := hok.cfg; omega
  have hGd : ∀ j, j ≤ n → Good (T j) := fun j hj => wrong_good (hok.sets j hj)
  obtain ⟨hs, r1⟩ := set_range z1
  obtain ⟨-, r2⟩ := set_range z2
  simp only [h3] at AW
  rw [h3, or_ok]
  dsimp only
  by_cases h4 : old = now
  · subst h4
    rw [if_pos rfl]
    have CP := Lib.hid (fun W (hb : Below w.heap.size w W) => (copied56 _ _ n U T W (hR.below hb) hm (by omega)).mono fun _ _ h => copied_rs h)
    unfold RsV at CP
    have q4 : (old == old) = true := by simp
    clear k0 k1 k2 k3 k4 hR hm h0 h1 h2 h3 ho hw hok z1 z2 hn hn24 hGd hs r1 r2
    go_enter Tryz.func22, Tryz.ntmps22
    go_upto_region 3 with (go_at_call 52; refine AO.out.mono ?_; rintro e w1 ⟨rfl, hb1⟩; have B1 := Lib.hid (below_end B.out hb1); have K0 := Lib.hid (keep_heap hb1 K0.out); have K1 := Lib.hid (keep_heap hb1 K1.out); have K2 := Lib.hid (keep_heap hb1 K2.out); obtain ⟨c0, c1, c2, c3, c4⟩ := five_cells K0.out; obtain ⟨d0, d1, -, -⟩ := two_cells K1.out; have Z := Lib.hid (show w.heap.size + 3 ≤ w1.heap.size by have := hb1.size; have := K3.out; omega); clear hb1)
    go_upto_region 7 with (go_at_call 52; refine (AW.out _ B1.out).mono ?_; rintro e w2 ⟨rfl, hb2⟩; have B2 := Lib.hid (below_end B1.out hb2); have K2 := Lib.hid (keep_heap hb2 K2.out); obtain ⟨d0, d1, -, -⟩ := two_cells (keep_heap hb2 K1.out); have Z := Lib.hid (show w.heap.size + 3 ≤ w2.heap.size by have := hb2.size; have := Z.out; omega); clear hb2)
    go_wp2_with (go_at_call 56; refine (CP.out _ B2.out).mono ?_; rintro e w3 ⟨A3, cp3, b3, q3, U3, rfl, hr3, hb3, hna⟩; have K2 := Lib.hid (keep_heap hb3 K2.out); obtain ⟨r0, r1, g0, g1⟩ := two_cells K2.out; obtain ⟨y0, y1, yr, yb⟩ := ret_two hr3 (below_end B2.out hb3) K2.out (show w.heap.size ≤ w.heap.size + 2 by omega) (fun c off m cp e => by have := hna c off m cp e; have := Z.out; omega); have YR := Lib.hid yr; have YB := Lib.hid yb; have NA := Lib.hid (show NewA w (.slice A3 n cp3) from fun c off m cp e => by have := hna c off m cp e; have := Z.out; omega); clear yr yb hr3 hb3 hna)
    refine bodyPost_ret (v := .tuple #[.agg #[.slice A3 n cp3, .slice b3 (T n).length q3], .int .i64 0]) (by simp [results, Tryz.f22, go_sem, y0, y1]) rfl ⟨_, _, _, rfl, YR.out, YB.out, NA.out⟩
  · rw [if_neg h4]
    have q4 : (old == now) = false := by simpa using h4
    obtain ⟨T1, hT1⟩ : ∃ T1, changeF n T slot (setF C N S K Q slot old).1 (-2) = T1 := ⟨_, rfl⟩
    have G1 : ∀ j, j ≤ n → Good (T1 j) := by rw [← hT1]; exact good_drop hGd hs
    have C1 := Lib.hid (fun W (hb : Below w.heap.size w W) => rchange53_drop C N S K Q _ _ n U T slot old (setF C N S K Q slot old).1 (by rw [hn]; exact r1) W (hR.below hb) hGd hs (by omega) ho)
    have C2 := Lib.hid (fun W A3 nv3 U3 (hr : RS W A3 nv3 n U3 T1) => rchange53_add C N S K Q A3 nv3 n U3 T1 slot now (setF C N S K Q slot now).1 (by rw [hn]; exact r2) W hr G1 hs (by omega) hw)
    rw [← two_changes]
    rw [hT1] at C1 ⊢
    obtain ⟨T2, hT2⟩ : ∃ T2, changeF n T1 slot (-2) (setF C N S K Q slot now).1 = T2 := ⟨_, rfl⟩
    rw [hT2] at C2 ⊢
    unfold RsV at C1 C2
    clear k0 k1 k2 k3 k4 hR hm h0 h1 h2 h3 h4 ho hw hok z1 z2 hn hn24 hGd hs r1 r2 hT1 hT2 G1
    go_enter Tryz.func22, Tryz.ntmps22
    go_upto_region 3 with (go_at_call 52; refine AO.out.mono ?_; rintro e w1 ⟨rfl, hb1⟩; have B1 := Lib.hid (below_end B.out hb1); have K0 := Lib.hid (keep_heap hb1 K0.out); have K1 := Lib.hid (keep_heap hb1 K1.out); have K2 := Lib.hid (keep_heap hb1 K2.out); obtain ⟨c0, c1, c2, c3, c4⟩ := five_cells K0.out; obtain ⟨d0, d1, -, -⟩ := two_cells K1.out; have Z := Lib.hid (show w.heap.size + 3 ≤ w1.heap.size by have := hb1.size; have := K3.out; omega); clear hb1)
    go_upto_region 8 with (go_at_call 52; refine (AW.out _ B1.out).mono ?_; rintro e w2 ⟨rfl, hb2⟩; have B2 := Lib.hid (below_end B1.out hb2); have K0 := Lib.hid (keep_heap hb2 K0.out); have K1 := Lib.hid (keep_heap hb2 K1.out); have K2 := Lib.hid (keep_heap hb2 K2.out); obtain ⟨c0, c1, c2, c3, c4⟩ := five_cells K0.out; obtain ⟨d0, d1, -, -⟩ := two_cells K1.out; have Z := Lib.hid (show w.heap.size + 3 ≤ w2.heap.size by have := hb2.size; have := Z.out; omega); clear hb2)
    clear AO AW B B1 K3
    go_region_with (first
      | (have hB3 := B3.out; go_at_call 53; refine (C2.out _ _ _ _ R3.out).mono ?_; rintro e w4 ⟨A4, cp4, b4, q4, U4, rfl, hr4, hb4, hna⟩; have K2 := Lib.hid (keep_heap hb4 K2.out); obtain ⟨r0, r1, g0, g1⟩ := two_cells K2.out; obtain ⟨y0, y1, yr, yb⟩ := ret_two hr4 (below_end hB3 hb4) K2.out (show w.heap.size ≤ w.heap.size + 2 by omega) (fun c off m cp e => by have := hna c off m cp e; have := Z3.out; omega); have YR := Lib.hid yr; have YB := Lib.hid yb; have NA := Lib.hid (show NewA w (.slice A4 n cp4) from fun c off m cp e => by have := hna c off m cp e; have := Z3.out; omega); clear yr yb hr4 hb4 hna hB3)
      | (go_at_call 53; refine (C1.out _ (below_drewN B2.out 1)).mono ?_; rintro e w3 ⟨A3, cp3, b3, q3, U3, rfl, hr3, hb3, -⟩; have hb3 := Cf.below_drew_l hb3; have B3 := Lib.hid (below_end B2.out hb3); have R3 := Lib.hid hr3; have K2 := Lib.hid (keep_heap hb3 K2.out); obtain ⟨c0, c1, c2, c3, c4⟩ := five_cells (keep_heap hb3 K0.out); have Z3 := Lib.hid (show w.heap.size + 3 ≤ w3.heap.size by have := hb3.size; have := Z.out; omega); clear hr3 hb3))
    all_goals
      go_wp2
      refine bodyPost_ret (v := .tuple #[.agg #[.slice A4 n cp4, .slice b4 (T2 n).length q4], .int .i64 0]) (by simp [results, Tryz.f22, go_sem, y0, y1]) rfl ⟨_, _, _, rfl, YR.out, YB.out, NA.out⟩
end YtjkphacidpongaaGreat
end Go.Proofs
