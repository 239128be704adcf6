/- change, Record and Forget, the reference's. -/
import Derived.Test.YtjkphacidpongaaGreatG23
import Derived.Test.YtjkphacidpongaaGreatQRmL
namespace Go.Proofs
namespace YtjkphacidpongaaGreat
open Go.RowKit
open Cf (good plC plE chkE)

theorem rchange53_add (C N S K Q : Int) (A nv : Value) (n : Nat) (U : Nat → Value) (T : Nat → List Int) (slot target k : Int) (hk : k = -2 ∨ k = -1 ∨ (0 ≤ k ∧ k < n)) (w : World) (hR : RS w A nv n U T) (hG : ∀ j, j ≤ n → Good (T j)) (hs : 1 ≤ slot ∧ slot ≤ 1600) (hn : n ≤ 100000) (hp : plcF C N S K Q slot target = k) :
    Calls Tryz.prog 53 #[.agg #[.int .i64 C, .int .i64 N, .int .i64 S, .int .i64 K, .int .i64 Q], .agg #[A, nv], .int .i64 slot, .int .i64 target, .bool true] w fun e w' => RsV w n (changeF n T slot (-2) k) e w' := by
  unfold changeF
  rw [on_none]
  rcases hk with rfl | rfl | hk
  · rw [on_none]; exact rchange53_none C N S K Q A nv n U T slot target true w hR hG hs hn hp
  · rw [on_some (i := n) (by unfold atI; rw [if_pos rfl])]; exact rchange53_nur_add C N S K Q A nv n U T slot target w hR hG hs hn hp
  · rw [on_some (i := k.toNat) (by unfold atI; rw [if_neg (by omega), if_pos hk])]
    exact rchange53_car_add C N S K Q A nv n U T slot target k.toNat (by omega) w hR hG hs hn (by rw [hp]; omega)
theorem rchange53_drop (C N S K Q : Int) (A nv : Value) (n : Nat) (U : Nat → Value) (T : Nat → List Int) (slot target k : Int) (hk : k = -2 ∨ k = -1 ∨ (0 ≤ k ∧ k < n)) (w : World) (hR : RS w A nv n U T) (hG : ∀ j, j ≤ n → Good (T j)) (hs : 1 ≤ slot ∧ slot ≤ 1600) (hn : n ≤ 100000) (hp : plcF C N S K Q slot target = k) :
    Calls Tryz.prog 53 #[.agg #[.int .i64 C, .int .i64 N, .int .i64 S, .int .i64 K, .int .i64 Q], .agg #[A, nv], .int .i64 slot, .int .i64 target, .bool false] w fun e w' => RsV w n (changeF n T slot k (-2)) e w' := by
  unfold changeF
  rw [on_none]
  rcases hk with rfl | rfl | hk
  · rw [on_none]; exact rchange53_none C N S K Q A nv n U T slot target false w hR hG hs hn hp
  · rw [on_some (i := n) (by unfold atI; rw [if_pos rfl])]; exact rchange53_nur_drop C N S K Q A nv n U T slot target w hR hG hs hn hp
  · rw [on_some (i := k.toNat) (by unfold atI; rw [if_neg (by omega), if_pos hk])]
    exact rchange53_car_drop C N S K Q A nv n U T slot target k.toNat (by omega) w hR hG hs hn (by rw [hp]; omega)
set_option maxRecDepth 100000 in
set_option maxHeartbeats 1000000 in
theorem rrecord18 (C N S K Q : Int) (A nv : Value) (n : Nat) (U : Nat → Value) (T : Nat → List Int) (slot target : Int) (w : World) (hR : RS w A nv n U T) (hm : ∀ j, j ≤ n → (T j).length ≤ 100000) :
    Calls Tryz.prog 18 #[.agg #[.int .i64 C, .int .i64 N, .int .i64 S, .int .i64 K, .int .i64 Q], .agg #[A, nv], .int .i64 slot, .int .i64 target] w fun e w' => RsAns w (recF C N S K Q n T slot target).1 (recF C N S K Q n T slot target).2.1 (recF C N S K Q n T slot target).2.2 e w' := by
  obtain ⟨a, cap, rfl, -⟩ := hR.form
  have hat := hR.at_ n (Nat.le_refl _)
  rw [hR.nur] at hat
  obtain ⟨An, cn, rfl, -⟩ := hat
  obtain ⟨k0, k1, k2, k3, k4⟩ := three_boxes w (.cells #[.int .i64 C, .int .i64 N, .int .i64 S, .int .i64 K, .int .i64 Q] 23) (.cells #[.slice a n cap, .slice An (T n).length cn] 29) (.cells #[nilV, nilV] 29)
  have AK := Lib.hid (asked52 C N S K Q _ _ n U T slot target _ (hR.below k4) hm)
  obtain ⟨c0, c1, c2, c3, c4⟩ := five_cells k0
  obtain ⟨d0, d1, -, -⟩ := two_cells k1
  have B := Lib.hid k4
  have K0 := Lib.hid k0
  have K1 := Lib.hid k1
  have K2 := Lib.hid k2
  have K3 := Lib.hid k3
  unfold nilV at *
  unfold recF
  by_cases h1 : recE C N S K Q n T slot target ≠ 0
  · rw [or_err h1]
    dsimp only
    generalize recE C N S K Q n T slot target = ec at *
    have q1 : (ec != 0) = true := by simpa using h1
    clear k0 k1 k2 k3 k4 hR hm h1
    go_enter Tryz.func18, Tryz.ntmps18
    go_upto_region 3 with (go_at_call 52; refine AK.out.mono ?_; rintro e w1 ⟨rfl, hb1⟩; have B1 := Lib.hid (below_end B.out hb1); have K2 := Lib.hid (keep_heap hb1 K2.out); obtain ⟨r0, r1, g0, g1⟩ := two_cells K2.out; clear hb1)
    obtain ⟨y0, y1, yb⟩ := ret_zero B1.out K2.out (show w.heap.size ≤ w.heap.size + 2 by omega)
    have YB := Lib.hid yb
    clear yb
    unfold nilV at *
    go_wp2
    refine bodyPost_ret (v := .tuple #[.agg #[.slice none 0 0, .slice none 0 0], .int .i64 ec]) (by simp [results, Tryz.f18, go_sem, y0, y1]) rfl ⟨_, _, _, rfl, RS.zero _, YB.out, nil_new _⟩
  have h0 : recE C N S K Q n T slot target = 0 := Classical.byContradiction h1
  have hp := plcF_eq h0
  have hc : (chkS C N S K Q n T).2 = 0 := Classical.byContradiction fun h => by unfold recE at h0; rw [first_1 h] at h0; exact h h0
  have h2 : (setF C N S K Q slot target).2 = 0 := by unfold recE at h0; rwa [hc, first_2] at h0
  have hok := ok_of_chk hc
  have hn := hok.len
  have hn24 : n ≤ 24 := by obtain ⟨-, -, -, n1, -⟩ := hok.cfg; omega
  have hGd : ∀ j, j ≤ n → Good (T j) := fun j hj => wrong_good (hok.sets j hj)
  obtain ⟨hs, hz1⟩ := set_range h2
  have CH := Lib.hid (fun W (hb : Below w.heap.size w W) => rchange53_add C N S K Q _ _ n U T slot target (setF C N S K Q slot target).1 (by rw [hn]; exact hz1) W (hR.below hb) hGd hs (by omega) hp)
  rw [h0] at AK ⊢
  rw [or_ok]
  dsimp only
  obtain ⟨T', hT'⟩ : ∃ T', changeF n T slot (-2) (setF C N S K Q slot target).1 = T' := ⟨_, rfl⟩
  rw [hT'] at CH ⊢
  unfold RsV at CH
  clear k0 k1 k2 k3 k4 hR hm h1 h0 hp hc h2 hok hn hn24 hGd hs hz1 hT'
  go_enter Tryz.func18, Tryz.ntmps18
  go_upto_region 4 with (go_at_call 52; refine AK.out.mono ?_; rintro e w1 ⟨rfl, hb1⟩; have B1 := Lib.hid (below_end B.out hb1); have K0 := Lib.hid (keep_heap hb1 K0.out); have K1 := Lib.hid (keep_heap hb1 K1.out); have K2 := Lib.hid (keep_heap hb1 K2.out); obtain ⟨c0, c1, c2, c3, c4⟩ := five_cells K0.out; obtain ⟨d0, d1, -, -⟩ := two_cells K1.out; have Z := Lib.hid (show w.heap.size + 3 ≤ w1.heap.size by have := hb1.size; have := K3.out; omega); clear hb1)
  go_wp2_with (go_at_call 53; refine (CH.out _ B1.out).mono ?_; rintro e w3 ⟨A3, cp3, b3, q3, U3, rfl, hr3, hb3, hna⟩; have K2 := Lib.hid (keep_heap hb3 K2.out); obtain ⟨r0, r1, g0, g1⟩ := two_cells K2.out; obtain ⟨y0, y1, yr, yb⟩ := ret_two hr3 (below_end B1.out hb3) K2.out (show w.heap.size ≤ w.heap.size + 2 by omega) (fun c off m cp e => by have := hna c off m cp e; have := Z.out; omega); have YR := Lib.hid yr; have YB := Lib.hid yb; have NA := Lib.hid (show NewA w (.slice A3 n cp3) from fun c off m cp e => by have := hna c off m cp e; have := Z.out; omega); clear yr yb hr3 hb3 hna)
  refine bodyPost_ret (v := .tuple #[.agg #[.slice A3 n cp3, .slice b3 (T' n).length q3], .int .i64 0]) (by simp [results, Tryz.f18, go_sem, y0, y1]) rfl ⟨_, _, _, rfl, YR.out, YB.out, NA.out⟩
set_option maxRecDepth 100000 in
set_option maxHeartbeats 1000000 in
theorem rforget20 (C N S K Q : Int) (A nv : Value) (n : Nat) (U : Nat → Value) (T : Nat → List Int) (slot target : Int) (w : World) (hR : RS w A nv n U T) (hm : ∀ j, j ≤ n → (T j).length ≤ 100000) :
    Calls Tryz.prog 20 #[.agg #[.int .i64 C, .int .i64 N, .int .i64 S, .int .i64 K, .int .i64 Q], .agg #[A, nv], .int .i64 slot, .int .i64 target] w fun e w' => RsAns w (forF C N S K Q n T slot target).1 (forF C N S K Q n T slot target).2.1 (forF C N S K Q n T slot target).2.2 e w' := by
  obtain ⟨a, cap, rfl, -⟩ := hR.form
  have hat := hR.at_ n (Nat.le_refl _)
  rw [hR.nur] at hat
  obtain ⟨An, cn, rfl, -⟩ := hat
  obtain ⟨k0, k1, k2, k3, k4⟩ := three_boxes w (.cells #[.int .i64 C, .int .i64 N, .int .i64 S, .int .i64 K, .int .i64 Q] 23) (.cells #[.slice a n cap, .slice An (T n).length cn] 29) (.cells #[nilV, nilV] 29)
  have AK := Lib.hid (asked52 C N S K Q _ _ n U T slot target _ (hR.below k4) hm)
  obtain ⟨c0, c1, c2, c3, c4⟩ := five_cells k0
  obtain ⟨d0, d1, -, -⟩ := two_cells k1
  have B := Lib.hid k4
  have K0 := Lib.hid k0
  have K1 := Lib.hid k1
  have K2 := Lib.hid k2
  have K3 := Lib.hid k3
  unfold nilV at *
  unfold forF
  by_cases h1 : recE C N S K Q n T slot target ≠ 0
  · rw [or_err h1]
    dsimp only
    generalize recE C N S K Q n T slot target = ec at *
    have q1 : (ec != 0) = true := by simpa using h1
    clear k0 k1 k2 k3 k4 hR hm h1
    go_enter Tryz.func20, Tryz.ntmps20
    go_upto_region 3 with (go_at_call 52; refine AK.out.mono ?_; rintro e w1 ⟨rfl, hb1⟩; have B1 := Lib.hid (below_end B.out hb1); have K2 := Lib.hid (keep_heap hb1 K2.out); obtain ⟨r0, r1, g0, g1⟩ := two_cells K2.out; clear hb1)
    obtain ⟨y0, y1, yb⟩ := ret_zero B1.out K2.out (show w.heap.size ≤ w.heap.size + 2 by omega)
    have YB := Lib.hid yb
    clear yb
    unfold nilV at *
    go_wp2
    refine bodyPost_ret (v := .tuple #[.agg #[.slice none 0 0, .slice none 0 0], .int .i64 ec]) (by simp [results, Tryz.f20, go_sem, y0, y1]) rfl ⟨_, _, _, rfl, RS.zero _, YB.out, nil_new _⟩
  have h0 : recE C N S K Q n T slot target = 0 := Classical.byContradiction h1
  have hp := plcF_eq h0
  have hc : (chkS C N S K Q n T).2 = 0 := Classical.byContradiction fun h => by unfold recE at h0; rw [first_1 h] at h0; exact h h0
  have h2 : (setF C N S K Q slot target).2 = 0 := by unfold recE at h0; rwa [hc, first_2] at h0
  have hok := ok_of_chk hc
  have hn := hok.len
  have hn24 : n ≤ 24 := by obtain ⟨-, -, -, n1, -⟩ := hok.cfg; omega
  have hGd : ∀ j, j ≤ n → Good (T j) := fun j hj => wrong_good (hok.sets j hj)
  obtain ⟨hs, hz1⟩ := set_range h2
  have CH := Lib.hid (fun W (hb : Below w.heap.size w W) => rchange53_drop C N S K Q _ _ n U T slot target (setF C N S K Q slot target).1 (by rw [hn]; exact hz1) W (hR.below hb) hGd hs (by omega) hp)
  rw [h0] at AK ⊢
  rw [or_ok]
  dsimp only
  obtain ⟨T', hT'⟩ : ∃ T', changeF n T slot (setF C N S K Q slot target).1 (-2) = T' := ⟨_, rfl⟩
  rw [hT'] at CH ⊢
  unfold RsV at CH
  clear k0 k1 k2 k3 k4 hR hm h1 h0 hp hc h2 hok hn hn24 hGd hs hz1 hT'
  go_enter Tryz.func20, Tryz.ntmps20
  go_upto_region 4 with (go_at_call 52; refine AK.out.mono ?_; rintro e w1 ⟨rfl, hb1⟩; have B1 := Lib.hid (below_end B.out hb1); have K0 := Lib.hid (keep_heap hb1 K0.out); have K1 := Lib.hid (keep_heap hb1 K1.out); have K2 := Lib.hid (keep_heap hb1 K2.out); obtain ⟨c0, c1, c2, c3, c4⟩ := five_cells K0.out; obtain ⟨d0, d1, -, -⟩ := two_cells K1.out; have Z := Lib.hid (show w.heap.size + 3 ≤ w1.heap.size by have := hb1.size; have := K3.out; omega); clear hb1)
  go_wp2_with (go_at_call 53; refine (CH.out _ B1.out).mono ?_; rintro e w3 ⟨A3, cp3, b3, q3, U3, rfl, hr3, hb3, hna⟩; have K2 := Lib.hid (keep_heap hb3 K2.out); obtain ⟨r0, r1, g0, g1⟩ := two_cells K2.out; obtain ⟨y0, y1, yr, yb⟩ := ret_two hr3 (below_end B1.out hb3) K2.out (show w.heap.size ≤ w.heap.size + 2 by omega) (fun c off m cp e => by have := hna c off m cp e; have := Z.out; omega); have YR := Lib.hid yr; have YB := Lib.hid yb; have NA := Lib.hid (show NewA w (.slice A3 n cp3) from fun c off m cp e => by have := hna c off m cp e; have := Z.out; omega); clear yr yb hr3 hb3 hna)
  refine bodyPost_ret (v := .tuple #[.agg #[.slice A3 n cp3, .slice b3 (T' n).length q3], .int .i64 0]) (by simp [results, Tryz.f20, go_sem, y0, y1]) rfl ⟨_, _, _, rfl, YR.out, YB.out, NA.out⟩
end YtjkphacidpongaaGreat
end Go.Proofs
