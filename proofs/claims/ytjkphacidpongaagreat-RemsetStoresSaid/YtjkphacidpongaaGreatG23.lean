/- asked and change, the reference's. -/
import Derived.Test.YtjkphacidpongaaGreatG22
namespace Go.Proofs
namespace YtjkphacidpongaaGreat
open Go.RowKit
open Cf (good plC plE chkE)

/-- the error of sets, a slot and a target -/
def askR (C N S K Q : Int) (n : Nat) (T : Nat → List Int) (slot target : Int) : Int := firstE (firstE (chkS C N S K Q n T).2 (plE C N S K Q slot)) (if target = 0 then 0 else plE C N S K Q target)
theorem first_zero (b : Int) : firstE 0 b = b := if_pos rfl
theorem first_some {a : Int} (h : a ≠ 0) (b : Int) : firstE a b = a := if_neg h
theorem askR_eq (C N S K Q : Int) (n : Nat) (T : Nat → List Int) (slot target : Int) : askR C N S K Q n T slot target = recE C N S K Q n T slot target := by
  unfold askR recE setF
  by_cases h1 : (chkS C N S K Q n T).2 = 0
  · by_cases h2 : plE C N S K Q slot = 0
    · by_cases h3 : target = 0
      · simp [firstE, h1, h2, h3]
      · by_cases h4 : plE C N S K Q target = 0
        · simp only [firstE, h1, h2, h3, h4, ne_eq, not_true_eq_false, if_true, if_false]
          split <;> rfl
        · simp [firstE, h1, h2, h3, h4]
    · simp [firstE, h1, h2]
  · simp [firstE, h1]
theorem plcF_eq {C N S K Q : Int} {n : Nat} {T : Nat → List Int} {slot target : Int} (h : recE C N S K Q n T slot target = 0) : plcF C N S K Q slot target = (setF C N S K Q slot target).1 := by
  have hge := plC_ge C N S K Q slot
  rw [← askR_eq] at h
  unfold askR at h
  have h1 : (chkS C N S K Q n T).2 = 0 := Classical.byContradiction fun h1 => by rw [first_some h1, first_some h1] at h; exact h1 h
  rw [h1, first_zero] at h
  have h2 : plE C N S K Q slot = 0 := Classical.byContradiction fun h2 => by rw [first_some h2] at h; exact h2 h
  rw [h2, first_zero] at h
  unfold plcF setF
  by_cases h3 : target = 0
  · simp [h2, h3]
  · rw [if_neg h3] at h
    by_cases h4 : plC C N S K Q slot = -1 ∨ plC C N S K Q slot = plC C N S K Q target
    · have h5 : plC C N S K Q slot < 0 ∨ plC C N S K Q slot = plC C N S K Q target := by omega
      simp [h2, h3, h, h4, h5]
    · have h5 : ¬ (plC C N S K Q slot < 0 ∨ plC C N S K Q slot = plC C N S K Q target) := by omega
      simp [h2, h3, h, h4, h5]
set_option maxRecDepth 100000 in
set_option maxHeartbeats 1000000 in
theorem asked52 (C N S K Q : Int) (A nv : Value) (n : Nat) (U : Nat → Value) (T : Nat → List Int) (slot target : Int) (w : World) (hR : RS w A nv n U T) (hm : ∀ j, j ≤ n → (T j).length ≤ 100000) :
    Calls Tryz.prog 52 #[.agg #[.int .i64 C, .int .i64 N, .int .i64 S, .int .i64 K, .int .i64 Q], .agg #[A, nv], .int .i64 slot, .int .i64 target] w fun e w' => e = .returned (.int .i64 (recE C N S K Q n T slot target)) ∧ Below w.heap.size w w' := by
  rw [← askR_eq]
  unfold askR
  obtain ⟨a, cap, rfl, -⟩ := hR.form
  have hat := hR.at_ n (Nat.le_refl _)
  rw [hR.nur] at hat
  obtain ⟨An, cn, rfl, -⟩ := hat
  obtain ⟨k0, k1, k2, k3⟩ := two_boxes w (.cells #[.int .i64 C, .int .i64 N, .int .i64 S, .int .i64 K, .int .i64 Q] 23) (.cells #[.slice a n cap, .slice An (T n).length cn] 29)
  have CH := Lib.hid (rchk13 C N S K Q _ _ n U T _ (hR.below k3) hm)
  have C1 := Lib.hid (car27 C N S K Q slot)
  have C2 := Lib.hid (car27 C N S K Q target)
  obtain ⟨c0, c1, c2, c3, c4⟩ := five_cells k0
  obtain ⟨d0, d1, -, -⟩ := two_cells k1
  have B := Lib.hid k3
  have K0 := Lib.hid k0
  generalize chkS C N S K Q n T = ch at *
  obtain ⟨ch1, ch2⟩ := ch
  generalize plC C N S K Q slot = p1 at *
  generalize plE C N S K Q slot = e1 at *
  generalize plC C N S K Q target = p2 at *
  generalize plE C N S K Q target = e2 at *
  dsimp only at CH ⊢
  generalize (T n).length = ln at *
  clear k0 k1 k2 k3 hR hm
  by_cases h1 : ch2 = 0
  rotate_left
  · have q1 : (ch2 == 0) = false := by simpa using h1
    rw [first_some h1, first_some h1]
    clear h1 C1 C2
    go_enter Tryz.func52, Tryz.ntmps52
    go_wp2_with (go_at_call 13; refine CH.out.mono ?_; rintro e w1 ⟨rfl, hb1⟩; have B1 := Lib.hid (below_end B.out hb1); clear hb1)
    refine bodyPost_ret (v := .int .i64 ch2) (by simp [results, Tryz.f52, go_sem]) rfl ⟨rfl, B1.out⟩
  subst h1
  rw [first_zero]
  by_cases h2 : e1 = 0
  rotate_left
  · have q1 : (e1 == 0) = false := by simpa using h2
    rw [first_some h2]
    clear h2 C2
    go_enter Tryz.func52, Tryz.ntmps52
    go_wp2_with (first
      | (go_at_call 13; refine CH.out.mono ?_; rintro e w1 ⟨rfl, hb1⟩; have B1 := Lib.hid (below_end B.out hb1); obtain ⟨c0, c1, c2, c3, c4⟩ := five_cells (keep_heap hb1 K0.out); clear hb1)
      | (go_at_call 35; refine (C1.out _).mono ?_; rintro e w2 ⟨rfl, hb2⟩; have B2 := Lib.hid (below_end B1.out hb2); clear hb2))
    refine bodyPost_ret (v := .int .i64 e1) (by simp [results, Tryz.f52, go_sem]) rfl ⟨rfl, B2.out⟩
  subst h2
  rw [first_zero]
  by_cases h3 : target = 0
  · subst h3
    rw [if_pos rfl]
    clear C2
    go_enter Tryz.func52, Tryz.ntmps52
    go_wp2_with (first
      | (go_at_call 13; refine CH.out.mono ?_; rintro e w1 ⟨rfl, hb1⟩; have B1 := Lib.hid (below_end B.out hb1); obtain ⟨c0, c1, c2, c3, c4⟩ := five_cells (keep_heap hb1 K0.out); clear hb1)
      | (go_at_call 35; refine (C1.out _).mono ?_; rintro e w2 ⟨rfl, hb2⟩; have B2 := Lib.hid (below_end B1.out hb2); clear hb2))
    refine bodyPost_ret (v := .int .i64 0) (by simp [results, Tryz.f52, go_sem]) rfl ⟨rfl, B2.out⟩
  · have q3 : (target != 0) = true := by simpa using h3
    rw [if_neg h3]
    clear h3
    go_enter Tryz.func52, Tryz.ntmps52
    go_wp2_with (first
      | (go_at_call 13; refine CH.out.mono ?_; rintro e w1 ⟨rfl, hb1⟩; have B1 := Lib.hid (below_end B.out hb1); have K1 := Lib.hid (keep_heap hb1 K0.out); obtain ⟨c0, c1, c2, c3, c4⟩ := five_cells K1.out; clear hb1)
      | (have hB2 := B2.out; go_at_call 35; refine (C2.out _).mono ?_; rintro e w3 ⟨rfl, hb3⟩; have B3 := Lib.hid (below_end hB2 hb3); clear hb3 hB2)
      | (go_at_call 35; refine (C1.out _).mono ?_; rintro e w2 ⟨rfl, hb2⟩; have B2 := Lib.hid (below_end B1.out hb2); obtain ⟨c0, c1, c2, c3, c4⟩ := five_cells (keep_heap hb2 K1.out); clear hb2))
    refine bodyPost_ret (v := .int .i64 e2) (by simp [results, Tryz.f52, go_sem]) rfl ⟨rfl, B3.out⟩
end YtjkphacidpongaaGreat
end Go.Proofs
/- change, the reference's. -/
namespace Go.Proofs
namespace YtjkphacidpongaaGreat
open Go.RowKit
open Cf (good plC plE chkE)

/-- sets, and no error with them -/
def RsV (w : World) (n : Nat) (T : Nat → List Int) (e : Ending) (w' : World) : Prop := ∃ (A : Option Addr) (cp : Nat) (b : Option Addr) (q : Nat) (U : Nat → Value), e = .returned (.agg #[.slice A n cp, .slice b (T n).length q]) ∧ RS w' (.slice A n cp) (.slice b (T n).length q) n U T ∧ Below w.heap.size w w' ∧ NewA w (.slice A n cp)
theorem GT.put {B : Nat} {W : World} {r n cp k : Nat} {us : List Value} {T : Nat → List Int} (h : GT B W (.slice (some ⟨r, 0, none⟩) n cp) us T) (hk : k < us.length) {u : Value} {cs : List Int} (hu : IAt W u cs) (ha : Apart u r) :
    GT B (W.setCell ⟨r, k, none⟩ u) (.slice (some ⟨r, 0, none⟩) n cp) (us.set k u) (updT T k cs) := by
  have hg : W.grownBy (W.setCell ⟨r, k, none⟩ u) (some r) := grown_set _ _ _ _
  have hn : n = us.length := by obtain ⟨A, c, e⟩ := h.form; cases e; rfl
  subst hn
  refine ⟨?_, fun j hj => ?_, fun j hj q hq => ?_⟩
  · rw [List.length_set]; exact (h.own.stored k u).1
  · rw [List.length_set] at hj
    by_cases e : j = k
    · subst e
      rw [upd_same, List.getD_eq_getElem?_getD, List.getElem?_set_self hk]
      exact hu.apart hg ha
    · rw [upd_other T cs e, List.getD_eq_getElem?_getD, List.getElem?_set_ne (Ne.symm e), ← List.getD_eq_getElem?_getD]
      exact (h.tab j hj).apart hg (h.off j hj r rfl)
  · rw [List.length_set] at hj
    simp only [Value.ownBlock, Option.some.injEq] at hq
    subst hq
    by_cases e : j = k
    · subst e
      rw [List.getD_eq_getElem?_getD, List.getElem?_set_self hk]; exact ha
    · rw [List.getD_eq_getElem?_getD, List.getElem?_set_ne (Ne.symm e), ← List.getD_eq_getElem?_getD]; exact h.off j hj _ rfl
theorem GT.ext {B : Nat} {W : World} {v : Value} {us : List Value} {T T' : Nat → List Int} (h : GT B W v us T) (hT : ∀ j, j < us.length → T j = T' j) : GT B W v us T' := ⟨h.own, fun j hj => by rw [← hT j hj]; exact h.tab j hj, h.off⟩
theorem GT.rs2 {B : Nat} {W : World} {v nv : Value} {us : List Value} {n : Nat} {T : Nat → List Int} (h : GT B W v us T) (hl : us.length = n) (hn : IAt W nv (T n)) : RS W v nv n (uO us nv n) T := by subst hl; exact h.rs hn
theorem GT.cell {B : Nat} {W : World} {r n cp k : Nat} {us : List Value} {T : Nat → List Int} (h : GT B W (.slice (some ⟨r, 0, none⟩) n cp) us T) (hk : k < us.length) : W.cell? ⟨r, k, none⟩ = some (us.getD k nilV) ∧ W.frozen? ⟨r, k, none⟩ = false := by
  have hn : n = us.length := by obtain ⟨A, c, e⟩ := h.form; cases e; rfl
  subst hn
  refine ⟨?_, h.own.frozenAt k⟩
  have e : (⟨r, 0, none⟩ : Addr).add k = ⟨r, k, none⟩ := by unfold Addr.add; split <;> simp_all
  rw [← e]
  exact h.own.cells (g := r) rfl k _ (by rw [List.getD_eq_getElem?_getD, List.getElem?_eq_getElem hk]; rfl)
theorem sl_one {a : Value} (h : isSl a) : ∀ u, u ∈ (#[a] : Array Value).toList → isSl u := fun u hu => by
  simp only [List.mem_cons, List.not_mem_nil, or_false] at hu
  rw [hu]; exact h
set_option maxRecDepth 100000 in
set_option maxHeartbeats 2000000 in
theorem rchange53_none (C N S K Q : Int) (A nv : Value) (n : Nat) (U : Nat → Value) (T : Nat → List Int) (slot target : Int) (add : Bool) (w : World) (hR : RS w A nv n U T) (hG : ∀ j, j ≤ n → Good (T j)) (hs : 1 ≤ slot ∧ slot ≤ 1600) (hn : n ≤ 100000) (hk : plcF C N S K Q slot target = -2) :
    Calls Tryz.prog 53 #[.agg #[.int .i64 C, .int .i64 N, .int .i64 S, .int .i64 K, .int .i64 Q], .agg #[A, nv], .int .i64 slot, .int .i64 target, .bool add] w fun e w' => RsV w n T e w' := by
  obtain ⟨a, cap, rfl, -⟩ := hR.form
  have hat := hR.at_ n (Nat.le_refl _)
  rw [hR.nur] at hat
  obtain ⟨An, cn, rfl, -⟩ := hat
  obtain ⟨k0, k1, k2, k3, k4⟩ := three_boxes w (.cells #[.int .i64 C, .int .i64 N, .int .i64 S, .int .i64 K, .int .i64 Q] 23) (.cells #[.slice a n cap, .slice An (T n).length cn] 29) (.cells #[nilV, nilV] 29)
  have CP := Lib.hid (copied56 _ _ n U T _ (hR.below k4) (good_small hG) hn)
  have PL := Lib.hid (place86 C N S K Q slot target)
  simp only [hk] at PL
  obtain ⟨c0, c1, c2, c3, c4⟩ := five_cells k0
  obtain ⟨d0, d1, -, -⟩ := two_cells k1
  have B := Lib.hid k4
  have K0 := Lib.hid k0
  have K2 := Lib.hid k2
  have K3 := Lib.hid k3
  have HG := Lib.hid hG
  have HS := Lib.hid hs
  obtain ⟨ln, hln⟩ : ∃ ln, (T n).length = ln := ⟨_, rfl⟩
  have HLN := Lib.hid hln
  unfold CpAns at CP
  rw [hln] at CP K0 K2 K3 B c0 c1 c2 c3 c4 d0 d1 ⊢
  unfold nilV at *
  clear k0 k1 k2 k3 k4 hR hG hs hk hln
  go_enter Tryz.func53, Tryz.ntmps53
  go_upto_region 2 with (go_at_call 56; refine CP.out.mono ?_; rintro e w1 ⟨A1, cp1, us, g, cq, rfl, hul, hgt, hnt, hap, hb1⟩; have B1 := Lib.hid (below_end B.out hb1); have P0 := Lib.hid (keep_heap hb1 K0.out); have P2 := Lib.hid (keep_heap hb1 K2.out); have Z := Lib.hid (show w.heap.size + 3 ≤ w1.heap.size by have := hb1.size; have := K3.out; omega); have HUL := Lib.hid hul; have G1 := Lib.hid (show GT (w.heap.size + 3) w1 (.slice A1 n cp1) us T by have h := hgt; rwa [K3.out] at h); have N1 := Lib.hid hnt; have HAP := Lib.hid hap; clear hul hgt hnt hap hb1)
  have hq := heap_alloc_new w1 (.cells #[.slice A1 n cp1, .slice (some ⟨g, 0, none⟩) ln cq] 29)
  have ba := alloc_below w1 (.cells #[.slice A1 n cp1, .slice (some ⟨g, 0, none⟩) ln cq] 29)
  obtain ⟨q, hqe⟩ : ∃ q, w1.heap.size = q := ⟨_, rfl⟩
  have ZQ := Lib.hid (show w.heap.size + 3 ≤ q by rw [← hqe]; exact Z.out)
  have QR := Lib.hid (fun r (hr : (Value.slice A1 n cp1).ownBlock = some r) => (show w.heap.size + 3 ≤ r ∧ r < q by rw [← hqe]; exact G1.out.own.lt r hr))
  rw [hqe] at hq ⊢
  have B2 := Lib.hid (below_end B1.out ba)
  have P0 := Lib.hid (keep_heap ba P0.out)
  have P2 := Lib.hid (keep_heap ba P2.out)
  have G2 := Lib.hid (G1.out.below ba)
  have N2 := Lib.hid (N1.out.below ba)
  have HQ := Lib.hid hq
  generalize w1.alloc (.cells #[.slice A1 n cp1, .slice (some ⟨g, 0, none⟩) ln cq] 29) = X0 at *
  obtain ⟨c0, c1, c2, c3, c4⟩ := five_cells P0.out
  clear hq ba hqe Z B B1 K0 K2 K3 G1 N1 CP d0 d1
  go_upto_region 3 with (go_at_call 86; refine (PL.out _).mono ?_; rintro e X1 ⟨rfl, hb⟩; have B3 := Lib.hid (below_end B2.out hb); have P3 := Lib.hid (keep_heap hb P2.out); have G3 := Lib.hid (G2.out.below hb); have N3 := Lib.hid (N2.out.below hb); have Q3 := Lib.hid (keep_heap hb HQ.out); clear hb)
  clear c0 c1 c2 c3 c4 P0 P2 B2 G2 N2 HQ PL
  obtain ⟨e0, e1, -, -⟩ := two_cells Q3.out
  obtain ⟨r0, r1, g0, g1⟩ := two_cells P3.out
  have RR := Lib.hid (G3.out.rs2 HUL.out N3.out)
  obtain ⟨y0, y1, yr, yb⟩ := ret_two RR.out B3.out P3.out (by omega) (fun c off m cp e h => by cases e; have := (QR.out c rfl).1; omega)
  have YR := Lib.hid yr
  have YB := Lib.hid yb
  clear yr yb
  go_wp2
  refine bodyPost_ret (v := .agg #[.slice A1 n cp1, .slice (some ⟨g, 0, none⟩) ln cq]) (by simp [results, Tryz.f53, go_sem, y0, y1]) rfl ⟨_, _, _, _, _, by rw [HLN.out], by rw [HLN.out]; exact YR.out, YB.out, fun b off m c e => by cases e; have := (QR.out b rfl).1; omega⟩
set_option maxRecDepth 100000 in
set_option maxHeartbeats 2000000 in
theorem rchange53_nur_add (C N S K Q : Int) (A nv : Value) (n : Nat) (U : Nat → Value) (T : Nat → List Int) (slot target : Int) (w : World) (hR : RS w A nv n U T) (hG : ∀ j, j ≤ n → Good (T j)) (hs : 1 ≤ slot ∧ slot ≤ 1600) (hn : n ≤ 100000) (hk : plcF C N S K Q slot target = -1) :
    Calls Tryz.prog 53 #[.agg #[.int .i64 C, .int .i64 N, .int .i64 S, .int .i64 K, .int .i64 Q], .agg #[A, nv], .int .i64 slot, .int .i64 target, .bool true] w fun e w' => RsV w n (updT T n (addF (T n) slot)) e w' := by
  obtain ⟨a, cap, rfl, -⟩ := hR.form
  have hat := hR.at_ n (Nat.le_refl _)
  rw [hR.nur] at hat
  obtain ⟨An, cn, rfl, -⟩ := hat
  obtain ⟨k0, k1, k2, k3, k4⟩ := three_boxes w (.cells #[.int .i64 C, .int .i64 N, .int .i64 S, .int .i64 K, .int .i64 Q] 23) (.cells #[.slice a n cap, .slice An (T n).length cn] 29) (.cells #[nilV, nilV] 29)
  have CP := Lib.hid (copied56 _ _ n U T _ (hR.below k4) (good_small hG) hn)
  have PL := Lib.hid (place86 C N S K Q slot target)
  simp only [hk] at PL
  obtain ⟨c0, c1, c2, c3, c4⟩ := five_cells k0
  obtain ⟨d0, d1, -, -⟩ := two_cells k1
  have B := Lib.hid k4
  have K0 := Lib.hid k0
  have K2 := Lib.hid k2
  have K3 := Lib.hid k3
  have HG := Lib.hid hG
  have HS := Lib.hid hs
  obtain ⟨ln, hln⟩ : ∃ ln, (T n).length = ln := ⟨_, rfl⟩
  have HLN := Lib.hid hln
  unfold CpAns at CP
  rw [hln] at CP K0 K2 K3 B c0 c1 c2 c3 c4 d0 d1 ⊢
  unfold nilV at *
  clear k0 k1 k2 k3 k4 hR hG hs hk hln
  go_enter Tryz.func53, Tryz.ntmps53
  go_upto_region 2 with (go_at_call 56; refine CP.out.mono ?_; rintro e w1 ⟨A1, cp1, us, g, cq, rfl, hul, hgt, hnt, hap, hb1⟩; have B1 := Lib.hid (below_end B.out hb1); have P0 := Lib.hid (keep_heap hb1 K0.out); have P2 := Lib.hid (keep_heap hb1 K2.out); have Z := Lib.hid (show w.heap.size + 3 ≤ w1.heap.size by have := hb1.size; have := K3.out; omega); have HUL := Lib.hid hul; have G1 := Lib.hid (show GT (w.heap.size + 3) w1 (.slice A1 n cp1) us T by have h := hgt; rwa [K3.out] at h); have N1 := Lib.hid hnt; have HAP := Lib.hid hap; clear hul hgt hnt hap hb1)
  have hq := heap_alloc_new w1 (.cells #[.slice A1 n cp1, .slice (some ⟨g, 0, none⟩) ln cq] 29)
  have ba := alloc_below w1 (.cells #[.slice A1 n cp1, .slice (some ⟨g, 0, none⟩) ln cq] 29)
  obtain ⟨q, hqe⟩ : ∃ q, w1.heap.size = q := ⟨_, rfl⟩
  have ZQ := Lib.hid (show w.heap.size + 3 ≤ q by rw [← hqe]; exact Z.out)
  have QR := Lib.hid (fun r (hr : (Value.slice A1 n cp1).ownBlock = some r) => (show w.heap.size + 3 ≤ r ∧ r < q by rw [← hqe]; exact G1.out.own.lt r hr))
  rw [hqe] at hq ⊢
  have B2 := Lib.hid (below_end B1.out ba)
  have P0 := Lib.hid (keep_heap ba P0.out)
  have P2 := Lib.hid (keep_heap ba P2.out)
  have G2 := Lib.hid (G1.out.below ba)
  have N2 := Lib.hid (N1.out.below ba)
  have HQ := Lib.hid hq
  generalize w1.alloc (.cells #[.slice A1 n cp1, .slice (some ⟨g, 0, none⟩) ln cq] 29) = X0 at *
  obtain ⟨c0, c1, c2, c3, c4⟩ := five_cells P0.out
  clear hq ba hqe Z B B1 K0 K2 K3 G1 N1 CP d0 d1
  go_upto_region 3 with (go_at_call 86; refine (PL.out _).mono ?_; rintro e X1 ⟨rfl, hb⟩; have B3 := Lib.hid (below_end B2.out hb); have P3 := Lib.hid (keep_heap hb P2.out); have G3 := Lib.hid (G2.out.below hb); have N3 := Lib.hid (N2.out.below hb); have Q3 := Lib.hid (keep_heap hb HQ.out); clear hb)
  clear c0 c1 c2 c3 c4 P0 P2 B2 G2 N2 HQ PL
  have rowne := Lib.hid (fun x (hx : q ≤ x) => (show (Value.slice A1 n cp1).ownBlock ≠ some x from fun e => by have := QR.out x e; omega))
  obtain ⟨t0, t1, -, -⟩ := two_cells Q3.out
  go_upto_region 6 with fail
  have hs2 := heap_alloc_new X1 (.cells #[.slice (some ⟨g, 0, none⟩) ln cq] 27)
  have ba2 := alloc_below X1 (.cells #[.slice (some ⟨g, 0, none⟩) ln cq] 27)
  obtain ⟨p, hpe⟩ : ∃ p, X1.heap.size = p := ⟨_, rfl⟩
  have ZP := Lib.hid (show q < p by rw [← hpe]; exact (Array.getElem?_eq_some_iff.1 Q3.out).1)
  have B4 := Lib.hid (below_end B3.out ba2)
  have P4 := Lib.hid (keep_heap ba2 P3.out)
  have Q4 := Lib.hid (keep_heap ba2 Q3.out)
  have G4 := Lib.hid (G3.out.below ba2)
  have N4 := Lib.hid (N3.out.below ba2)
  rw [hpe] at hs2 ⊢
  have S4 := Lib.hid hs2
  generalize X1.alloc (.cells #[.slice (some ⟨g, 0, none⟩) ln cq] 27) = X2 at *
  clear hs2 ba2 hpe B3 P3 Q3 G3 N3 t0 t1
  go_upto_region 8 with fail
  have B5 := B4
  have P5 := P4
  have Q5 := Q4
  have S5 := S4
  have G5 := G4
  have N5 := N4
  have I5 := N4
  have GI := Lib.hid (HG.out n (by omega))
  have CA := Lib.hid (radd28 (.slice (some ⟨g, 0, none⟩) ln cq) (T n) slot _ I5.out (by have := GI.out.tab.hi; omega))
  rw [add_ans GI.out HS.out] at CA
  unfold SbAns sv at CA
  dsimp only at CA
  obtain ⟨D, hD⟩ : ∃ D, addF (T n) slot = D := ⟨_, rfl⟩
  have HD := Lib.hid hD
  rw [hD] at CA
  generalize hasB (T n) slot = hb1 at *
  obtain ⟨s0, sf⟩ := one_cell S5.out
  have s5 := sl_one (⟨_, _, _, rfl⟩ : isSl (.slice (some ⟨g, 0, none⟩) ln cq))
  clear hD
  go_upto_region 11 with (go_at_call 36; refine CA.out.mono ?_; rintro e X4 ⟨v1, rfl, hr, hb⟩; have R4 := Lib.hid hr; have B6 := Lib.hid (below_end B5.out hb); have P6 := Lib.hid (keep_heap hb P5.out); have Q6 := Lib.hid (keep_heap hb Q5.out); have S6 := Lib.hid (keep_heap hb S5.out); have G6 := Lib.hid (G5.out.below hb); have N6 := Lib.hid (N5.out.below hb); obtain ⟨A4, c4, rfl⟩ := own_form hr; obtain ⟨s0, sf⟩ := one_cell S6.out; clear hr hb)
  have V6 := Lib.hid (show IAt X4 (.slice A4 D.length c4) D from IAt.of_own R4.out)
  have PX := Lib.hid (Array.getElem?_eq_some_iff.1 S5.out).1
  have B7 := Lib.hid (B6.out.setCell (p := ⟨p, 0, none⟩) (show w.heap.size ≤ p by have := ZP.out; have := ZQ.out; omega) (.slice A4 D.length c4))
  have P7 := Lib.hid (set_far (c := w.heap.size + 2) (b := p) (i := 0) (.slice A4 D.length c4) (by have := ZP.out; have := ZQ.out; omega) P6.out)
  have Q7 := Lib.hid (set_far (c := q) (b := p) (i := 0) (.slice A4 D.length c4) (by have := ZP.out; omega) Q6.out)
  have S7 := Lib.hid (set_row S6.out 0 (.slice A4 D.length c4))
  have G7 := Lib.hid (G6.out.set S6.out s5 (rowne.out p (by have := ZP.out; omega)) (i := 0) (.slice A4 D.length c4))
  have N7 := Lib.hid (N6.out.set S6.out s5 (k := 0) (.slice A4 D.length c4))
  have V7 := Lib.hid (V6.out.set S6.out s5 (k := 0) (.slice A4 D.length c4))
  generalize X4.setCell ⟨p, 0, none⟩ (.slice A4 D.length c4) = X5 at *
  obtain ⟨dl, hdl⟩ : ∃ dl, D.length = dl := ⟨_, rfl⟩
  have HDL := Lib.hid hdl
  clear B5 P5 Q5 S5 G5 N5 I5 B6 P6 Q6 S6 G6 N6 V6 R4 CA s0 sf s5 PX
  obtain ⟨t0, t1, tf0, tf1⟩ := two_cells Q7.out
  obtain ⟨s0, sf⟩ := one_cell S7.out
  rw [hdl] at s0 S7 V7 ⊢
  clear hdl
  go_upto_region 14 with fail
  have sq := sl_pair (⟨_, _, _, rfl⟩ : isSl (.slice A1 n cp1)) (⟨_, _, _, rfl⟩ : isSl (.slice (some ⟨g, 0, none⟩) ln cq))
  have G8 := Lib.hid ((G7.out.set Q7.out sq (rowne.out q (Nat.le_refl _)) (i := 1) (.slice A4 dl c4)).ext (T' := updT T n D) (fun j hj => by rw [upd_other T D (by have := HUL.out; omega)]))
  have N8 := Lib.hid (show IAt (X5.setCell ⟨q, 1, none⟩ (.slice A4 dl c4)) (.slice A4 dl c4) (updT T n D n) by rw [upd_same]; exact V7.out.set Q7.out sq _)
  have Q8 := Lib.hid (set_row Q7.out 1 (.slice A4 dl c4))
  have P8 := Lib.hid (set_far (c := w.heap.size + 2) (b := q) (i := 1) (.slice A4 dl c4) (by have := ZQ.out; omega) P7.out)
  have B8 := Lib.hid (B7.out.setCell (p := ⟨q, 1, none⟩) (show w.heap.size ≤ q by have := ZQ.out; omega) (.slice A4 dl c4))
  have HLX := Lib.hid (show (updT T n (addF (T n) slot) n).length = dl by rw [upd_same, HD.out, HDL.out])
  generalize X5.setCell ⟨q, 1, none⟩ (.slice A4 dl c4) = X6 at *
  clear G7 N7 Q7 P7 B7 S7 V7 t0 t1 tf0 tf1 s0 sf sq
  obtain ⟨e0, e1, -, -⟩ := two_cells Q8.out
  obtain ⟨r0, r1, g0, g1⟩ := two_cells P8.out
  have RR := Lib.hid (G8.out.rs2 HUL.out N8.out)
  obtain ⟨y0, y1, yr, yb⟩ := ret_two RR.out B8.out P8.out (by omega) (fun c off m cp e h => by cases e; have := (QR.out c rfl).1; omega)
  have YR := Lib.hid yr
  have YB := Lib.hid yb
  clear yr yb
  go_wp2
  refine bodyPost_ret (v := .agg #[.slice A1 n cp1, .slice A4 dl c4]) (by simp [results, Tryz.f53, go_sem, y0, y1]) rfl ⟨_, _, _, _, _, by rw [HLX.out], by rw [HLX.out, HD.out]; exact YR.out, YB.out, fun b off m c e => by cases e; have := (QR.out b rfl).1; omega⟩
set_option maxRecDepth 100000 in
set_option maxHeartbeats 2000000 in
theorem rchange53_car_add (C N S K Q : Int) (A nv : Value) (n : Nat) (U : Nat → Value) (T : Nat → List Int) (slot target : Int) (i : Nat) (hi : i < n) (w : World) (hR : RS w A nv n U T) (hG : ∀ j, j ≤ n → Good (T j)) (hs : 1 ≤ slot ∧ slot ≤ 1600) (hn : n ≤ 100000) (hk : plcF C N S K Q slot target = (i : Int)) :
    Calls Tryz.prog 53 #[.agg #[.int .i64 C, .int .i64 N, .int .i64 S, .int .i64 K, .int .i64 Q], .agg #[A, nv], .int .i64 slot, .int .i64 target, .bool true] w fun e w' => RsV w n (updT T i (addF (T i) slot)) e w' := by
  obtain ⟨a, cap, rfl, -⟩ := hR.form
  have hat := hR.at_ n (Nat.le_refl _)
  rw [hR.nur] at hat
  obtain ⟨An, cn, rfl, -⟩ := hat
  obtain ⟨k0, k1, k2, k3, k4⟩ := three_boxes w (.cells #[.int .i64 C, .int .i64 N, .int .i64 S, .int .i64 K, .int .i64 Q] 23) (.cells #[.slice a n cap, .slice An (T n).length cn] 29) (.cells #[nilV, nilV] 29)
  have CP := Lib.hid (copied56 _ _ n U T _ (hR.below k4) (good_small hG) hn)
  have PL := Lib.hid (place86 C N S K Q slot target)
  simp only [hk] at PL
  obtain ⟨c0, c1, c2, c3, c4⟩ := five_cells k0
  obtain ⟨d0, d1, -, -⟩ := two_cells k1
  have B := Lib.hid k4
  have K0 := Lib.hid k0
  have K2 := Lib.hid k2
  have K3 := Lib.hid k3
  have HG := Lib.hid hG
  have HS := Lib.hid hs
  obtain ⟨ln, hln⟩ : ∃ ln, (T n).length = ln := ⟨_, rfl⟩
  have HLN := Lib.hid hln
  unfold CpAns at CP
  rw [hln] at CP K0 K2 K3 B c0 c1 c2 c3 c4 d0 d1 ⊢
  unfold nilV at *
  clear k0 k1 k2 k3 k4 hR hG hs hk hln
  go_enter Tryz.func53, Tryz.ntmps53
  go_upto_region 2 with (go_at_call 56; refine CP.out.mono ?_; rintro e w1 ⟨A1, cp1, us, g, cq, rfl, hul, hgt, hnt, hap, hb1⟩; have B1 := Lib.hid (below_end B.out hb1); have P0 := Lib.hid (keep_heap hb1 K0.out); have P2 := Lib.hid (keep_heap hb1 K2.out); have Z := Lib.hid (show w.heap.size + 3 ≤ w1.heap.size by have := hb1.size; have := K3.out; omega); have HUL := Lib.hid hul; have G1 := Lib.hid (show GT (w.heap.size + 3) w1 (.slice A1 n cp1) us T by have h := hgt; rwa [K3.out] at h); have N1 := Lib.hid hnt; have HAP := Lib.hid hap; clear hul hgt hnt hap hb1)
  have hq := heap_alloc_new w1 (.cells #[.slice A1 n cp1, .slice (some ⟨g, 0, none⟩) ln cq] 29)
  have ba := alloc_below w1 (.cells #[.slice A1 n cp1, .slice (some ⟨g, 0, none⟩) ln cq] 29)
  obtain ⟨q, hqe⟩ : ∃ q, w1.heap.size = q := ⟨_, rfl⟩
  have ZQ := Lib.hid (show w.heap.size + 3 ≤ q by rw [← hqe]; exact Z.out)
  have QR := Lib.hid (fun r (hr : (Value.slice A1 n cp1).ownBlock = some r) => (show w.heap.size + 3 ≤ r ∧ r < q by rw [← hqe]; exact G1.out.own.lt r hr))
  rw [hqe] at hq ⊢
  have B2 := Lib.hid (below_end B1.out ba)
  have P0 := Lib.hid (keep_heap ba P0.out)
  have P2 := Lib.hid (keep_heap ba P2.out)
  have G2 := Lib.hid (G1.out.below ba)
  have N2 := Lib.hid (N1.out.below ba)
  have HQ := Lib.hid hq
  generalize w1.alloc (.cells #[.slice A1 n cp1, .slice (some ⟨g, 0, none⟩) ln cq] 29) = X0 at *
  obtain ⟨c0, c1, c2, c3, c4⟩ := five_cells P0.out
  clear hq ba hqe Z B B1 K0 K2 K3 G1 N1 CP d0 d1
  go_upto_region 3 with (go_at_call 86; refine (PL.out _).mono ?_; rintro e X1 ⟨rfl, hb⟩; have B3 := Lib.hid (below_end B2.out hb); have P3 := Lib.hid (keep_heap hb P2.out); have G3 := Lib.hid (G2.out.below hb); have N3 := Lib.hid (N2.out.below hb); have Q3 := Lib.hid (keep_heap hb HQ.out); clear hb)
  clear c0 c1 c2 c3 c4 P0 P2 B2 G2 N2 HQ PL
  have rowne := Lib.hid (fun x (hx : q ≤ x) => (show (Value.slice A1 n cp1).ownBlock ≠ some x from fun e => by have := QR.out x e; omega))
  have q7 : ((i : Int) == -2) = false := by first | (simp; done) | (simp; omega)
  have q8 : (0 : Int) ≤ (i : Int) := by omega
  have q8' : decide ((0 : Int) ≤ (i : Int)) = true := decide_eq_true q8
  have q9 : decide ((i : Int) < (n : Int)) = true := decide_eq_true (by omega)
  have q9' : (i : Int) < (n : Int) := by omega
  have hiu : i < us.length := by rw [HUL.out]; exact hi
  obtain ⟨r, cpr, ev, -, -⟩ := World.ownsRow.form G3.out.own (by omega)
  have hul := HUL.out
  have ev2 : A1 = some ⟨r, 0, none⟩ := by injection ev
  subst ev2
  clear ev hul
  have ZR := Lib.hid (QR.out r rfl)
  have ad : (⟨r, 0, none⟩ : Addr).add i = ⟨r, i, none⟩ := by unfold Addr.add; split <;> simp_all
  obtain ⟨t0, t1, -, -⟩ := two_cells Q3.out
  go_upto_region 6 with fail
  have hs2 := heap_alloc_new X1 (.cells #[.slice (some ⟨g, 0, none⟩) ln cq] 27)
  have ba2 := alloc_below X1 (.cells #[.slice (some ⟨g, 0, none⟩) ln cq] 27)
  obtain ⟨p, hpe⟩ : ∃ p, X1.heap.size = p := ⟨_, rfl⟩
  have ZP := Lib.hid (show q < p by rw [← hpe]; exact (Array.getElem?_eq_some_iff.1 Q3.out).1)
  have B4 := Lib.hid (below_end B3.out ba2)
  have P4 := Lib.hid (keep_heap ba2 P3.out)
  have Q4 := Lib.hid (keep_heap ba2 Q3.out)
  have G4 := Lib.hid (G3.out.below ba2)
  have N4 := Lib.hid (N3.out.below ba2)
  rw [hpe] at hs2 ⊢
  have S4 := Lib.hid hs2
  generalize X1.alloc (.cells #[.slice (some ⟨g, 0, none⟩) ln cq] 27) = X2 at *
  clear hs2 ba2 hpe B3 P3 Q3 G3 N3 t0 t1
  obtain ⟨t0, t1, -, -⟩ := two_cells Q4.out
  obtain ⟨s0, sf⟩ := one_cell S4.out
  obtain ⟨uc, uf⟩ := G4.out.cell hiu
  have hui := G4.out.tab i hiu
  have hui2 := hui
  obtain ⟨Ai, ci, eu, -⟩ := hui2
  rw [eu] at uc hui
  obtain ⟨li, hli⟩ : ∃ li, (T i).length = li := ⟨_, rfl⟩
  have HLI := Lib.hid hli
  have HUI := Lib.hid hui
  rw [hli] at uc HUI
  clear hui eu hli
  go_upto_region 8 with fail
  have s4 := sl_one (⟨_, _, _, rfl⟩ : isSl (.slice (some ⟨g, 0, none⟩) ln cq))
  have B5 := Lib.hid (B4.out.setCell (p := ⟨p, 0, none⟩) (show w.heap.size ≤ p by have := ZP.out; have := ZQ.out; omega) (.slice Ai li ci))
  have P5 := Lib.hid (set_far (c := w.heap.size + 2) (b := p) (i := 0) (.slice Ai li ci) (by have := ZP.out; have := ZQ.out; omega) P4.out)
  have Q5 := Lib.hid (set_far (c := q) (b := p) (i := 0) (.slice Ai li ci) (by have := ZP.out; omega) Q4.out)
  have S5 := Lib.hid (set_row S4.out 0 (.slice Ai li ci))
  have G5 := Lib.hid (G4.out.set S4.out s4 (rowne.out p (by have := ZP.out; omega)) (i := 0) (.slice Ai li ci))
  have N5 := Lib.hid (N4.out.set S4.out s4 (k := 0) (.slice Ai li ci))
  have I5 := Lib.hid (HUI.out.set S4.out s4 (k := 0) (.slice Ai li ci))
  generalize X2.setCell ⟨p, 0, none⟩ (.slice Ai li ci) = X3 at *
  clear B4 P4 Q4 S4 G4 N4 HUI t0 t1 s0 sf uc uf s4
  have GI := Lib.hid (HG.out i (by omega))
  have CA := Lib.hid (radd28 (.slice Ai li ci) (T i) slot _ I5.out (by have := GI.out.tab.hi; omega))
  rw [add_ans GI.out HS.out] at CA
  unfold SbAns sv at CA
  dsimp only at CA
  obtain ⟨D, hD⟩ : ∃ D, addF (T i) slot = D := ⟨_, rfl⟩
  have HD := Lib.hid hD
  rw [hD] at CA
  generalize hasB (T i) slot = hb1 at *
  obtain ⟨s0, sf⟩ := one_cell S5.out
  have s5 := sl_one (⟨_, _, _, rfl⟩ : isSl (.slice Ai li ci))
  clear hD
  go_upto_region 11 with (go_at_call 36; refine CA.out.mono ?_; rintro e X4 ⟨v1, rfl, hr, hb⟩; have R4 := Lib.hid hr; have B6 := Lib.hid (below_end B5.out hb); have P6 := Lib.hid (keep_heap hb P5.out); have Q6 := Lib.hid (keep_heap hb Q5.out); have S6 := Lib.hid (keep_heap hb S5.out); have G6 := Lib.hid (G5.out.below hb); have N6 := Lib.hid (N5.out.below hb); obtain ⟨A4, c4, rfl⟩ := own_form hr; obtain ⟨s0, sf⟩ := one_cell S6.out; clear hr hb)
  have V6 := Lib.hid (show IAt X4 (.slice A4 D.length c4) D from IAt.of_own R4.out)
  have PX := Lib.hid (Array.getElem?_eq_some_iff.1 S5.out).1
  have B7 := Lib.hid (B6.out.setCell (p := ⟨p, 0, none⟩) (show w.heap.size ≤ p by have := ZP.out; have := ZQ.out; omega) (.slice A4 D.length c4))
  have P7 := Lib.hid (set_far (c := w.heap.size + 2) (b := p) (i := 0) (.slice A4 D.length c4) (by have := ZP.out; have := ZQ.out; omega) P6.out)
  have Q7 := Lib.hid (set_far (c := q) (b := p) (i := 0) (.slice A4 D.length c4) (by have := ZP.out; omega) Q6.out)
  have S7 := Lib.hid (set_row S6.out 0 (.slice A4 D.length c4))
  have G7 := Lib.hid (G6.out.set S6.out s5 (rowne.out p (by have := ZP.out; omega)) (i := 0) (.slice A4 D.length c4))
  have N7 := Lib.hid (N6.out.set S6.out s5 (k := 0) (.slice A4 D.length c4))
  have V7 := Lib.hid (V6.out.set S6.out s5 (k := 0) (.slice A4 D.length c4))
  have AP := Lib.hid (show Apart (.slice A4 D.length c4) r from fun A n c b off e1 _ e2 => by cases e1; cases e2; have := (R4.out.lt b rfl).1; have := PX.out; have := ZP.out; have := ZR.out; omega)
  generalize X4.setCell ⟨p, 0, none⟩ (.slice A4 D.length c4) = X5 at *
  obtain ⟨dl, hdl⟩ : ∃ dl, D.length = dl := ⟨_, rfl⟩
  have HDL := Lib.hid hdl
  clear B5 P5 Q5 S5 G5 N5 I5 B6 P6 Q6 S6 G6 N6 V6 R4 CA s0 sf s5 PX
  obtain ⟨t0, t1, tf0, tf1⟩ := two_cells Q7.out
  obtain ⟨s0, sf⟩ := one_cell S7.out
  rw [hdl] at s0 S7 V7 ⊢
  rw [hdl] at AP
  obtain ⟨uc, uf⟩ := G7.out.cell hiu
  clear hdl
  go_upto_region 14 with fail
  have G8 := Lib.hid (G7.out.put hiu V7.out AP.out)
  have N8 := Lib.hid (show IAt (X5.setCell ⟨r, i, none⟩ (.slice A4 dl c4)) (.slice (some ⟨g, 0, none⟩) ln cq) (updT T i D n) by rw [upd_other T D (by omega)]; exact N7.out.apart (grown_set _ _ _ _) (HAP.out r rfl))
  have Q8 := Lib.hid (set_far (c := q) (b := r) (i := i) (.slice A4 dl c4) (by have := ZR.out; omega) Q7.out)
  have P8 := Lib.hid (set_far (c := w.heap.size + 2) (b := r) (i := i) (.slice A4 dl c4) (by have := ZR.out; omega) P7.out)
  have B8 := Lib.hid (B7.out.setCell (p := ⟨r, i, none⟩) (show w.heap.size ≤ r by have := ZR.out; omega) (.slice A4 dl c4))
  have HLX := Lib.hid (show (updT T i (addF (T i) slot) n).length = ln by rw [upd_other T _ (by omega), HLN.out])
  generalize X5.setCell ⟨r, i, none⟩ (.slice A4 dl c4) = X6 at *
  clear G7 N7 Q7 P7 B7 S7 V7 t0 t1 tf0 tf1 s0 sf uc uf
  obtain ⟨e0, e1, -, -⟩ := two_cells Q8.out
  obtain ⟨r0, r1, g0, g1⟩ := two_cells P8.out
  have RR := Lib.hid (G8.out.rs2 (by rw [List.length_set]; exact HUL.out) N8.out)
  obtain ⟨y0, y1, yr, yb⟩ := ret_two RR.out B8.out P8.out (by omega) (fun c off m cp e h => by cases e; have := ZR.out; omega)
  have YR := Lib.hid yr
  have YB := Lib.hid yb
  clear yr yb
  go_wp2
  refine bodyPost_ret (v := .agg #[.slice (some ⟨r, 0, none⟩) n cp1, .slice (some ⟨g, 0, none⟩) ln cq]) (by simp [results, Tryz.f53, go_sem, y0, y1]) rfl ⟨_, _, _, _, _, by rw [HLX.out], by rw [HLX.out, HD.out]; exact YR.out, YB.out, fun b off m c e => by cases e; have := ZR.out; omega⟩
set_option maxRecDepth 100000 in
set_option maxHeartbeats 2000000 in
theorem rchange53_nur_drop (C N S K Q : Int) (A nv : Value) (n : Nat) (U : Nat → Value) (T : Nat → List Int) (slot target : Int) (w : World) (hR : RS w A nv n U T) (hG : ∀ j, j ≤ n → Good (T j)) (hs : 1 ≤ slot ∧ slot ≤ 1600) (hn : n ≤ 100000) (hk : plcF C N S K Q slot target = -1) :
    Calls Tryz.prog 53 #[.agg #[.int .i64 C, .int .i64 N, .int .i64 S, .int .i64 K, .int .i64 Q], .agg #[A, nv], .int .i64 slot, .int .i64 target, .bool false] w fun e w' => RsV w n (updT T n (dropF (T n) slot)) e w' := by
  obtain ⟨a, cap, rfl, -⟩ := hR.form
  have hat := hR.at_ n (Nat.le_refl _)
  rw [hR.nur] at hat
  obtain ⟨An, cn, rfl, -⟩ := hat
  obtain ⟨k0, k1, k2, k3, k4⟩ := three_boxes w (.cells #[.int .i64 C, .int .i64 N, .int .i64 S, .int .i64 K, .int .i64 Q] 23) (.cells #[.slice a n cap, .slice An (T n).length cn] 29) (.cells #[nilV, nilV] 29)
  have CP := Lib.hid (copied56 _ _ n U T _ (hR.below k4) (good_small hG) hn)
  have PL := Lib.hid (place86 C N S K Q slot target)
  simp only [hk] at PL
  obtain ⟨c0, c1, c2, c3, c4⟩ := five_cells k0
  obtain ⟨d0, d1, -, -⟩ := two_cells k1
  have B := Lib.hid k4
  have K0 := Lib.hid k0
  have K2 := Lib.hid k2
  have K3 := Lib.hid k3
  have HG := Lib.hid hG
  have HS := Lib.hid hs
  obtain ⟨ln, hln⟩ : ∃ ln, (T n).length = ln := ⟨_, rfl⟩
  have HLN := Lib.hid hln
  unfold CpAns at CP
  rw [hln] at CP K0 K2 K3 B c0 c1 c2 c3 c4 d0 d1 ⊢
  unfold nilV at *
  clear k0 k1 k2 k3 k4 hR hG hs hk hln
  go_enter Tryz.func53, Tryz.ntmps53
  go_upto_region 2 with (go_at_call 56; refine CP.out.mono ?_; rintro e w1 ⟨A1, cp1, us, g, cq, rfl, hul, hgt, hnt, hap, hb1⟩; have B1 := Lib.hid (below_end B.out hb1); have P0 := Lib.hid (keep_heap hb1 K0.out); have P2 := Lib.hid (keep_heap hb1 K2.out); have Z := Lib.hid (show w.heap.size + 3 ≤ w1.heap.size by have := hb1.size; have := K3.out; omega); have HUL := Lib.hid hul; have G1 := Lib.hid (show GT (w.heap.size + 3) w1 (.slice A1 n cp1) us T by have h := hgt; rwa [K3.out] at h); have N1 := Lib.hid hnt; have HAP := Lib.hid hap; clear hul hgt hnt hap hb1)
  have hq := heap_alloc_new w1 (.cells #[.slice A1 n cp1, .slice (some ⟨g, 0, none⟩) ln cq] 29)
  have ba := alloc_below w1 (.cells #[.slice A1 n cp1, .slice (some ⟨g, 0, none⟩) ln cq] 29)
  obtain ⟨q, hqe⟩ : ∃ q, w1.heap.size = q := ⟨_, rfl⟩
  have ZQ := Lib.hid (show w.heap.size + 3 ≤ q by rw [← hqe]; exact Z.out)
  have QR := Lib.hid (fun r (hr : (Value.slice A1 n cp1).ownBlock = some r) => (show w.heap.size + 3 ≤ r ∧ r < q by rw [← hqe]; exact G1.out.own.lt r hr))
  rw [hqe] at hq ⊢
  have B2 := Lib.hid (below_end B1.out ba)
  have P0 := Lib.hid (keep_heap ba P0.out)
  have P2 := Lib.hid (keep_heap ba P2.out)
  have G2 := Lib.hid (G1.out.below ba)
  have N2 := Lib.hid (N1.out.below ba)
  have HQ := Lib.hid hq
  generalize w1.alloc (.cells #[.slice A1 n cp1, .slice (some ⟨g, 0, none⟩) ln cq] 29) = X0 at *
  obtain ⟨c0, c1, c2, c3, c4⟩ := five_cells P0.out
  clear hq ba hqe Z B B1 K0 K2 K3 G1 N1 CP d0 d1
  go_upto_region 3 with (go_at_call 86; refine (PL.out _).mono ?_; rintro e X1 ⟨rfl, hb⟩; have B3 := Lib.hid (below_end B2.out hb); have P3 := Lib.hid (keep_heap hb P2.out); have G3 := Lib.hid (G2.out.below hb); have N3 := Lib.hid (N2.out.below hb); have Q3 := Lib.hid (keep_heap hb HQ.out); clear hb)
  clear c0 c1 c2 c3 c4 P0 P2 B2 G2 N2 HQ PL
  have rowne := Lib.hid (fun x (hx : q ≤ x) => (show (Value.slice A1 n cp1).ownBlock ≠ some x from fun e => by have := QR.out x e; omega))
  obtain ⟨t0, t1, -, -⟩ := two_cells Q3.out
  go_upto_region 6 with fail
  have hs2 := heap_alloc_new X1 (.cells #[.slice (some ⟨g, 0, none⟩) ln cq] 27)
  have ba2 := alloc_below X1 (.cells #[.slice (some ⟨g, 0, none⟩) ln cq] 27)
  obtain ⟨p, hpe⟩ : ∃ p, X1.heap.size = p := ⟨_, rfl⟩
  have ZP := Lib.hid (show q < p by rw [← hpe]; exact (Array.getElem?_eq_some_iff.1 Q3.out).1)
  have B4 := Lib.hid (below_end B3.out ba2)
  have P4 := Lib.hid (keep_heap ba2 P3.out)
  have Q4 := Lib.hid (keep_heap ba2 Q3.out)
  have G4 := Lib.hid (G3.out.below ba2)
  have N4 := Lib.hid (N3.out.below ba2)
  rw [hpe] at hs2 ⊢
  have S4 := Lib.hid hs2
  generalize X1.alloc (.cells #[.slice (some ⟨g, 0, none⟩) ln cq] 27) = X2 at *
  clear hs2 ba2 hpe B3 P3 Q3 G3 N3 t0 t1
  go_upto_region 8 with fail
  have B5 := B4
  have P5 := P4
  have Q5 := Q4
  have S5 := S4
  have G5 := G4
  have N5 := N4
  have I5 := N4
  have GI := Lib.hid (HG.out n (by omega))
  have CA := Lib.hid (rdrop30 (.slice (some ⟨g, 0, none⟩) ln cq) (T n) slot _ I5.out (by have := GI.out.tab.hi; omega))
  rw [drop_ans GI.out HS.out] at CA
  unfold SbAns sv at CA
  dsimp only at CA
  obtain ⟨D, hD⟩ : ∃ D, dropF (T n) slot = D := ⟨_, rfl⟩
  have HD := Lib.hid hD
  rw [hD] at CA
  generalize hasB (T n) slot = hb1 at *
  obtain ⟨s0, sf⟩ := one_cell S5.out
  have s5 := sl_one (⟨_, _, _, rfl⟩ : isSl (.slice (some ⟨g, 0, none⟩) ln cq))
  clear hD
  go_upto_region 11 with (go_at_call 87; refine CA.out.mono ?_; rintro e X4 ⟨v1, rfl, hr, hb⟩; have R4 := Lib.hid hr; have B6 := Lib.hid (below_end B5.out hb); have P6 := Lib.hid (keep_heap hb P5.out); have Q6 := Lib.hid (keep_heap hb Q5.out); have S6 := Lib.hid (keep_heap hb S5.out); have G6 := Lib.hid (G5.out.below hb); have N6 := Lib.hid (N5.out.below hb); obtain ⟨A4, c4, rfl⟩ := own_form hr; obtain ⟨s0, sf⟩ := one_cell S6.out; clear hr hb)
  have V6 := Lib.hid (show IAt X4 (.slice A4 D.length c4) D from IAt.of_own R4.out)
  have PX := Lib.hid (Array.getElem?_eq_some_iff.1 S5.out).1
  have B7 := Lib.hid (B6.out.setCell (p := ⟨p, 0, none⟩) (show w.heap.size ≤ p by have := ZP.out; have := ZQ.out; omega) (.slice A4 D.length c4))
  have P7 := Lib.hid (set_far (c := w.heap.size + 2) (b := p) (i := 0) (.slice A4 D.length c4) (by have := ZP.out; have := ZQ.out; omega) P6.out)
  have Q7 := Lib.hid (set_far (c := q) (b := p) (i := 0) (.slice A4 D.length c4) (by have := ZP.out; omega) Q6.out)
  have S7 := Lib.hid (set_row S6.out 0 (.slice A4 D.length c4))
  have G7 := Lib.hid (G6.out.set S6.out s5 (rowne.out p (by have := ZP.out; omega)) (i := 0) (.slice A4 D.length c4))
  have N7 := Lib.hid (N6.out.set S6.out s5 (k := 0) (.slice A4 D.length c4))
  have V7 := Lib.hid (V6.out.set S6.out s5 (k := 0) (.slice A4 D.length c4))
  generalize X4.setCell ⟨p, 0, none⟩ (.slice A4 D.length c4) = X5 at *
  obtain ⟨dl, hdl⟩ : ∃ dl, D.length = dl := ⟨_, rfl⟩
  have HDL := Lib.hid hdl
  clear B5 P5 Q5 S5 G5 N5 I5 B6 P6 Q6 S6 G6 N6 V6 R4 CA s0 sf s5 PX
  obtain ⟨t0, t1, tf0, tf1⟩ := two_cells Q7.out
  obtain ⟨s0, sf⟩ := one_cell S7.out
  rw [hdl] at s0 S7 V7 ⊢
  clear hdl
  go_upto_region 14 with fail
  have sq := sl_pair (⟨_, _, _, rfl⟩ : isSl (.slice A1 n cp1)) (⟨_, _, _, rfl⟩ : isSl (.slice (some ⟨g, 0, none⟩) ln cq))
  have G8 := Lib.hid ((G7.out.set Q7.out sq (rowne.out q (Nat.le_refl _)) (i := 1) (.slice A4 dl c4)).ext (T' := updT T n D) (fun j hj => by rw [upd_other T D (by have := HUL.out; omega)]))
  have N8 := Lib.hid (show IAt (X5.setCell ⟨q, 1, none⟩ (.slice A4 dl c4)) (.slice A4 dl c4) (updT T n D n) by rw [upd_same]; exact V7.out.set Q7.out sq _)
  have Q8 := Lib.hid (set_row Q7.out 1 (.slice A4 dl c4))
  have P8 := Lib.hid (set_far (c := w.heap.size + 2) (b := q) (i := 1) (.slice A4 dl c4) (by have := ZQ.out; omega) P7.out)
  have B8 := Lib.hid (B7.out.setCell (p := ⟨q, 1, none⟩) (show w.heap.size ≤ q by have := ZQ.out; omega) (.slice A4 dl c4))
  have HLX := Lib.hid (show (updT T n (dropF (T n) slot) n).length = dl by rw [upd_same, HD.out, HDL.out])
  generalize X5.setCell ⟨q, 1, none⟩ (.slice A4 dl c4) = X6 at *
  clear G7 N7 Q7 P7 B7 S7 V7 t0 t1 tf0 tf1 s0 sf sq
  obtain ⟨e0, e1, -, -⟩ := two_cells Q8.out
  obtain ⟨r0, r1, g0, g1⟩ := two_cells P8.out
  have RR := Lib.hid (G8.out.rs2 HUL.out N8.out)
  obtain ⟨y0, y1, yr, yb⟩ := ret_two RR.out B8.out P8.out (by omega) (fun c off m cp e h => by cases e; have := (QR.out c rfl).1; omega)
  have YR := Lib.hid yr
  have YB := Lib.hid yb
  clear yr yb
  go_wp2
  refine bodyPost_ret (v := .agg #[.slice A1 n cp1, .slice A4 dl c4]) (by simp [results, Tryz.f53, go_sem, y0, y1]) rfl ⟨_, _, _, _, _, by rw [HLX.out], by rw [HLX.out, HD.out]; exact YR.out, YB.out, fun b off m c e => by cases e; have := (QR.out b rfl).1; omega⟩
set_option maxRecDepth 100000 in
set_option maxHeartbeats 2000000 in
theorem rchange53_car_drop (C N S K Q : Int) (A nv : Value) (n : Nat) (U : Nat → Value) (T : Nat → List Int) (slot target : Int) (i : Nat) (hi : i < n) (w : World) (hR : RS w A nv n U T) (hG : ∀ j, j ≤ n → Good (T j)) (hs : 1 ≤ slot ∧ slot ≤ 1600) (hn : n ≤ 100000) (hk : plcF C N S K Q slot target = (i : Int)) :
    Calls Tryz.prog 53 #[.agg #[.int .i64 C, .int .i64 N, .int .i64 S, .int .i64 K, .int .i64 Q], .agg #[A, nv], .int .i64 slot, .int .i64 target, .bool false] w fun e w' => RsV w n (updT T i (dropF (T i) slot)) e w' := by
  obtain ⟨a, cap, rfl, -⟩ := hR.form
  have hat := hR.at_ n (Nat.le_refl _)
  rw [hR.nur] at hat
  obtain ⟨An, cn, rfl, -⟩ := hat
  obtain ⟨k0, k1, k2, k3, k4⟩ := three_boxes w (.cells #[.int .i64 C, .int .i64 N, .int .i64 S, .int .i64 K, .int .i64 Q] 23) (.cells #[.slice a n cap, .slice An (T n).length cn] 29) (.cells #[nilV, nilV] 29)
  have CP := Lib.hid (copied56 _ _ n U T _ (hR.below k4) (good_small hG) hn)
  have PL := Lib.hid (place86 C N S K Q slot target)
  simp only [hk] at PL
  obtain ⟨c0, c1, c2, c3, c4⟩ := five_cells k0
  obtain ⟨d0, d1, -, -⟩ := two_cells k1
  have B := Lib.hid k4
  have K0 := Lib.hid k0
  have K2 := Lib.hid k2
  have K3 := Lib.hid k3
  have HG := Lib.hid hG
  have HS := Lib.hid hs
  obtain ⟨ln, hln⟩ : ∃ ln, (T n).length = ln := ⟨_, rfl⟩
  have HLN := Lib.hid hln
  unfold CpAns at CP
  rw [hln] at CP K0 K2 K3 B c0 c1 c2 c3 c4 d0 d1 ⊢
  unfold nilV at *
  clear k0 k1 k2 k3 k4 hR hG hs hk hln
  go_enter Tryz.func53, Tryz.ntmps53
  go_upto_region 2 with (go_at_call 56; refine CP.out.mono ?_; rintro e w1 ⟨A1, cp1, us, g, cq, rfl, hul, hgt, hnt, hap, hb1⟩; have B1 := Lib.hid (below_end B.out hb1); have P0 := Lib.hid (keep_heap hb1 K0.out); have P2 := Lib.hid (keep_heap hb1 K2.out); have Z := Lib.hid (show w.heap.size + 3 ≤ w1.heap.size by have := hb1.size; have := K3.out; omega); have HUL := Lib.hid hul; have G1 := Lib.hid (show GT (w.heap.size + 3) w1 (.slice A1 n cp1) us T by have h := hgt; rwa [K3.out] at h); have N1 := Lib.hid hnt; have HAP := Lib.hid hap; clear hul hgt hnt hap hb1)
  have hq := heap_alloc_new w1 (.cells #[.slice A1 n cp1, .slice (some ⟨g, 0, none⟩) ln cq] 29)
  have ba := alloc_below w1 (.cells #[.slice A1 n cp1, .slice (some ⟨g, 0, none⟩) ln cq] 29)
  obtain ⟨q, hqe⟩ : ∃ q, w1.heap.size = q := ⟨_, rfl⟩
  have ZQ := Lib.hid (show w.heap.size + 3 ≤ q by rw [← hqe]; exact Z.out)
  have QR := Lib.hid (fun r (hr : (Value.slice A1 n cp1).ownBlock = some r) => (show w.heap.size + 3 ≤ r ∧ r < q by rw [← hqe]; exact G1.out.own.lt r hr))
  rw [hqe] at hq ⊢
  have B2 := Lib.hid (below_end B1.out ba)
  have P0 := Lib.hid (keep_heap ba P0.out)
  have P2 := Lib.hid (keep_heap ba P2.out)
  have G2 := Lib.hid (G1.out.below ba)
  have N2 := Lib.hid (N1.out.below ba)
  have HQ := Lib.hid hq
  generalize w1.alloc (.cells #[.slice A1 n cp1, .slice (some ⟨g, 0, none⟩) ln cq] 29) = X0 at *
  obtain ⟨c0, c1, c2, c3, c4⟩ := five_cells P0.out
  clear hq ba hqe Z B B1 K0 K2 K3 G1 N1 CP d0 d1
  go_upto_region 3 with (go_at_call 86; refine (PL.out _).mono ?_; rintro e X1 ⟨rfl, hb⟩; have B3 := Lib.hid (below_end B2.out hb); have P3 := Lib.hid (keep_heap hb P2.out); have G3 := Lib.hid (G2.out.below hb); have N3 := Lib.hid (N2.out.below hb); have Q3 := Lib.hid (keep_heap hb HQ.out); clear hb)
  clear c0 c1 c2 c3 c4 P0 P2 B2 G2 N2 HQ PL
  have rowne := Lib.hid (fun x (hx : q ≤ x) => (show (Value.slice A1 n cp1).ownBlock ≠ some x from fun e => by have := QR.out x e; omega))
  have q7 : ((i : Int) == -2) = false := by first | (simp; done) | (simp; omega)
  have q8 : (0 : Int) ≤ (i : Int) := by omega
  have q8' : decide ((0 : Int) ≤ (i : Int)) = true := decide_eq_true q8
  have q9 : decide ((i : Int) < (n : Int)) = true := decide_eq_true (by omega)
  have q9' : (i : Int) < (n : Int) := by omega
  have hiu : i < us.length := by rw [HUL.out]; exact hi
  obtain ⟨r, cpr, ev, -, -⟩ := World.ownsRow.form G3.out.own (by omega)
  have hul := HUL.out
  have ev2 : A1 = some ⟨r, 0, none⟩ := by injection ev
  subst ev2
  clear ev hul
  have ZR := Lib.hid (QR.out r rfl)
  have ad : (⟨r, 0, none⟩ : Addr).add i = ⟨r, i, none⟩ := by unfold Addr.add; split <;> simp_all
  obtain ⟨t0, t1, -, -⟩ := two_cells Q3.out
  go_upto_region 6 with fail
  have hs2 := heap_alloc_new X1 (.cells #[.slice (some ⟨g, 0, none⟩) ln cq] 27)
  have ba2 := alloc_below X1 (.cells #[.slice (some ⟨g, 0, none⟩) ln cq] 27)
  obtain ⟨p, hpe⟩ : ∃ p, X1.heap.size = p := ⟨_, rfl⟩
  have ZP := Lib.hid (show q < p by rw [← hpe]; exact (Array.getElem?_eq_some_iff.1 Q3.out).1)
  have B4 := Lib.hid (below_end B3.out ba2)
  have P4 := Lib.hid (keep_heap ba2 P3.out)
  have Q4 := Lib.hid (keep_heap ba2 Q3.out)
  have G4 := Lib.hid (G3.out.below ba2)
  have N4 := Lib.hid (N3.out.below ba2)
  rw [hpe] at hs2 ⊢
  have S4 := Lib.hid hs2
  generalize X1.alloc (.cells #[.slice (some ⟨g, 0, none⟩) ln cq] 27) = X2 at *
  clear hs2 ba2 hpe B3 P3 Q3 G3 N3 t0 t1
  obtain ⟨t0, t1, -, -⟩ := two_cells Q4.out
  obtain ⟨s0, sf⟩ := one_cell S4.out
  obtain ⟨uc, uf⟩ := G4.out.cell hiu
  have hui := G4.out.tab i hiu
  have hui2 := hui
  obtain ⟨Ai, ci, eu, -⟩ := hui2
  rw [eu] at uc hui
  obtain ⟨li, hli⟩ : ∃ li, (T i).length = li := ⟨_, rfl⟩
  have HLI := Lib.hid hli
  have HUI := Lib.hid hui
  rw [hli] at uc HUI
  clear hui eu hli
  go_upto_region 8 with fail
  have s4 := sl_one (⟨_, _, _, rfl⟩ : isSl (.slice (some ⟨g, 0, none⟩) ln cq))
  have B5 := Lib.hid (B4.out.setCell (p := ⟨p, 0, none⟩) (show w.heap.size ≤ p by have := ZP.out; have := ZQ.out; omega) (.slice Ai li ci))
  have P5 := Lib.hid (set_far (c := w.heap.size + 2) (b := p) (i := 0) (.slice Ai li ci) (by have := ZP.out; have := ZQ.out; omega) P4.out)
  have Q5 := Lib.hid (set_far (c := q) (b := p) (i := 0) (.slice Ai li ci) (by have := ZP.out; omega) Q4.out)
  have S5 := Lib.hid (set_row S4.out 0 (.slice Ai li ci))
  have G5 := Lib.hid (G4.out.set S4.out s4 (rowne.out p (by have := ZP.out; omega)) (i := 0) (.slice Ai li ci))
  have N5 := Lib.hid (N4.out.set S4.out s4 (k := 0) (.slice Ai li ci))
  have I5 := Lib.hid (HUI.out.set S4.out s4 (k := 0) (.slice Ai li ci))
  generalize X2.setCell ⟨p, 0, none⟩ (.slice Ai li ci) = X3 at *
  clear B4 P4 Q4 S4 G4 N4 HUI t0 t1 s0 sf uc uf s4
  have GI := Lib.hid (HG.out i (by omega))
  have CA := Lib.hid (rdrop30 (.slice Ai li ci) (T i) slot _ I5.out (by have := GI.out.tab.hi; omega))
  rw [drop_ans GI.out HS.out] at CA
  unfold SbAns sv at CA
  dsimp only at CA
  obtain ⟨D, hD⟩ : ∃ D, dropF (T i) slot = D := ⟨_, rfl⟩
  have HD := Lib.hid hD
  rw [hD] at CA
  generalize hasB (T i) slot = hb1 at *
  obtain ⟨s0, sf⟩ := one_cell S5.out
  have s5 := sl_one (⟨_, _, _, rfl⟩ : isSl (.slice Ai li ci))
  clear hD
  go_upto_region 11 with (go_at_call 87; refine CA.out.mono ?_; rintro e X4 ⟨v1, rfl, hr, hb⟩; have R4 := Lib.hid hr; have B6 := Lib.hid (below_end B5.out hb); have P6 := Lib.hid (keep_heap hb P5.out); have Q6 := Lib.hid (keep_heap hb Q5.out); have S6 := Lib.hid (keep_heap hb S5.out); have G6 := Lib.hid (G5.out.below hb); have N6 := Lib.hid (N5.out.below hb); obtain ⟨A4, c4, rfl⟩ := own_form hr; obtain ⟨s0, sf⟩ := one_cell S6.out; clear hr hb)
  have V6 := Lib.hid (show IAt X4 (.slice A4 D.length c4) D from IAt.of_own R4.out)
  have PX := Lib.hid (Array.getElem?_eq_some_iff.1 S5.out).1
  have B7 := Lib.hid (B6.out.setCell (p := ⟨p, 0, none⟩) (show w.heap.size ≤ p by have := ZP.out; have := ZQ.out; omega) (.slice A4 D.length c4))
  have P7 := Lib.hid (set_far (c := w.heap.size + 2) (b := p) (i := 0) (.slice A4 D.length c4) (by have := ZP.out; have := ZQ.out; omega) P6.out)
  have Q7 := Lib.hid (set_far (c := q) (b := p) (i := 0) (.slice A4 D.length c4) (by have := ZP.out; omega) Q6.out)
  have S7 := Lib.hid (set_row S6.out 0 (.slice A4 D.length c4))
  have G7 := Lib.hid (G6.out.set S6.out s5 (rowne.out p (by have := ZP.out; omega)) (i := 0) (.slice A4 D.length c4))
  have N7 := Lib.hid (N6.out.set S6.out s5 (k := 0) (.slice A4 D.length c4))
  have V7 := Lib.hid (V6.out.set S6.out s5 (k := 0) (.slice A4 D.length c4))
  have AP := Lib.hid (show Apart (.slice A4 D.length c4) r from fun A n c b off e1 _ e2 => by cases e1; cases e2; have := (R4.out.lt b rfl).1; have := PX.out; have := ZP.out; have := ZR.out; omega)
  generalize X4.setCell ⟨p, 0, none⟩ (.slice A4 D.length c4) = X5 at *
  obtain ⟨dl, hdl⟩ : ∃ dl, D.length = dl := ⟨_, rfl⟩
  have HDL := Lib.hid hdl
  clear B5 P5 Q5 S5 G5 N5 I5 B6 P6 Q6 S6 G6 N6 V6 R4 CA s0 sf s5 PX
  obtain ⟨t0, t1, tf0, tf1⟩ := two_cells Q7.out
  obtain ⟨s0, sf⟩ := one_cell S7.out
  rw [hdl] at s0 S7 V7 ⊢
  rw [hdl] at AP
  obtain ⟨uc, uf⟩ := G7.out.cell hiu
  clear hdl
  go_upto_region 14 with fail
  have G8 := Lib.hid (G7.out.put hiu V7.out AP.out)
  have N8 := Lib.hid (show IAt (X5.setCell ⟨r, i, none⟩ (.slice A4 dl c4)) (.slice (some ⟨g, 0, none⟩) ln cq) (updT T i D n) by rw [upd_other T D (by omega)]; exact N7.out.apart (grown_set _ _ _ _) (HAP.out r rfl))
  have Q8 := Lib.hid (set_far (c := q) (b := r) (i := i) (.slice A4 dl c4) (by have := ZR.out; omega) Q7.out)
  have P8 := Lib.hid (set_far (c := w.heap.size + 2) (b := r) (i := i) (.slice A4 dl c4) (by have := ZR.out; omega) P7.out)
  have B8 := Lib.hid (B7.out.setCell (p := ⟨r, i, none⟩) (show w.heap.size ≤ r by have := ZR.out; omega) (.slice A4 dl c4))
  have HLX := Lib.hid (show (updT T i (dropF (T i) slot) n).length = ln by rw [upd_other T _ (by omega), HLN.out])
  generalize X5.setCell ⟨r, i, none⟩ (.slice A4 dl c4) = X6 at *
  clear G7 N7 Q7 P7 B7 S7 V7 t0 t1 tf0 tf1 s0 sf uc uf
  obtain ⟨e0, e1, -, -⟩ := two_cells Q8.out
  obtain ⟨r0, r1, g0, g1⟩ := two_cells P8.out
  have RR := Lib.hid (G8.out.rs2 (by rw [List.length_set]; exact HUL.out) N8.out)
  obtain ⟨y0, y1, yr, yb⟩ := ret_two RR.out B8.out P8.out (by omega) (fun c off m cp e h => by cases e; have := ZR.out; omega)
  have YR := Lib.hid yr
  have YB := Lib.hid yb
  clear yr yb
  go_wp2
  refine bodyPost_ret (v := .agg #[.slice (some ⟨r, 0, none⟩) n cp1, .slice (some ⟨g, 0, none⟩) ln cq]) (by simp [results, Tryz.f53, go_sem, y0, y1]) rfl ⟨_, _, _, _, _, by rw [HLX.out], by rw [HLX.out, HD.out]; exact YR.out, YB.out, fun b off m c e => by cases e; have := ZR.out; omega⟩
end YtjkphacidpongaaGreat
end Go.Proofs
