/- New, Into and Young, the program's. -/
import Derived.Test.YtjkphacidpongaaGreatG14
namespace Go.Proofs
namespace YtjkphacidpongaaGreat
open Go.RowKit
open Cf (good chkE)
attribute [local go_sem ↓] fold_append

def newN (C N S K Q : Int) : Nat := if good C N S K Q then N.toNat else 0
def newT (C N S K Q : Int) : Nat → List Int := fun _ => if good C N S K Q then newF else []
section
variable (C N S K Q : Int)
set_option maxRecDepth 100000 in
set_option maxHeartbeats 1000000 in
theorem new27_bad (w : World) (hg : ¬ good C N S K Q) : Calls Tryz.prog 10 #[.agg #[.int .i64 C, .int .i64 N, .int .i64 S, .int .i64 K, .int .i64 Q]] w fun e w' => RsAns w 0 (fun _ => []) 7 e w' := by
  obtain ⟨k0, k1, k2, k3⟩ := two_boxes w (.cells #[.int .i64 C, .int .i64 N, .int .i64 S, .int .i64 K, .int .i64 Q] 23) (.cells #[nilV, nilV] 29)
  have CK := Lib.hid (Cf.chk13_bad C N S K Q hg)
  obtain ⟨c0, c1, c2, c3, c4⟩ := five_cells k0
  have B := Lib.hid k3
  have K1 := Lib.hid k1
  have Z := Lib.hid two_nil
  unfold nilV at *
  clear k0 k1 k2 k3 hg
  go_enter Tryz.func10, Tryz.ntmps10
  go_wp2_with (go_at_call 40; refine (CK.out _).mono ?_; rintro e w1 ⟨rfl, hb1⟩; have B1 := Lib.hid (below_end B.out hb1); have P1 := Lib.hid (keep_heap hb1 K1.out); obtain ⟨r0, r1, g0, g1⟩ := two_cells P1.out; clear hb1)
  have x1 : ((w1.setCell ⟨w.heap.size + 1, 0, none⟩ (.slice none 0 0)).setCell ⟨w.heap.size + 1, 1, none⟩ (.slice none 0 0)).heap[w.heap.size + 1]? = some (.cells #[.slice none 0 0, .slice none 0 0] 29 (0, 0)) := set_row (set_row P1.out 0 _) 1 _
  obtain ⟨y0, y1, -, -⟩ := two_cells x1
  refine bodyPost_ret (v := .tuple #[.agg #[.slice none 0 0, .slice none 0 0], .int .i64 7]) (by simp [results, Tryz.f10, go_sem, y0, y1]) rfl ⟨_, _, _, rfl, RS.zero _, (B1.out.setCell (p := ⟨w.heap.size + 1, 0, none⟩) (show w.heap.size ≤ w.heap.size + 1 by omega) _).setCell (p := ⟨w.heap.size + 1, 1, none⟩) (show w.heap.size ≤ w.heap.size + 1 by omega) _, nil_new _⟩
set_option maxRecDepth 100000 in
set_option maxHeartbeats 2000000 in
theorem new27_ok (w : World) (hg : good C N S K Q) : Calls Tryz.prog 10 #[.agg #[.int .i64 C, .int .i64 N, .int .i64 S, .int .i64 K, .int .i64 Q]] w fun e w' => RsAns w N.toNat (fun _ => newF) 0 e w' := by
  obtain ⟨k0, k1, k2, k3⟩ := two_boxes w (.cells #[.int .i64 C, .int .i64 N, .int .i64 S, .int .i64 K, .int .i64 Q] 23) (.cells #[nilV, nilV] 29)
  have CK := Lib.hid (chk13_yes C N S K Q hg)
  have NW := Lib.hid new18v
  have hN : 7 ≤ N ∧ N ≤ 24 := by obtain ⟨-, -, n0, n1, -⟩ := hg; exact ⟨n0, n1⟩
  obtain ⟨m, rfl⟩ : ∃ m : Nat, N = (m : Int) := ⟨N.toNat, by omega⟩
  obtain ⟨c0, c1, c2, c3, c4⟩ := five_cells k0
  have B := Lib.hid k3
  have K0 := Lib.hid k0
  have K1 := Lib.hid k1
  have K2 := Lib.hid k2
  rw [Int.toNat_natCast]
  unfold nilV at *
  clear k0 k1 k2 k3 hg
  go_enter Tryz.func10, Tryz.ntmps10
  go_upto_region 5 with (first
    | (go_at_call 40; refine (CK.out _).mono ?_; rintro e w1 ⟨rfl, hb1⟩; have B1 := Lib.hid (below_end B.out hb1); have P0 := Lib.hid (keep_heap hb1 K0.out); have P1 := Lib.hid (keep_heap hb1 K1.out); have S1 := Lib.hid (show w.heap.size + 2 ≤ w1.heap.size by have := hb1.size; rw [K2.out] at this; exact this); clear hb1)
    | (go_at_call 41; refine (NW.out _).mono ?_; rintro e w2 ⟨g, rfl, hgs, ht, hb2⟩; have B2 := Lib.hid (below_end B1.out hb2); have P0 := Lib.hid (keep_heap hb2 P0.out); have P1 := Lib.hid (keep_heap hb2 P1.out); have S2 := Lib.hid (show w.heap.size + 2 ≤ w2.heap.size by have := hb2.size; have := S1.out; omega); have T2 := Lib.hid ht; clear hgs ht hb2))
  have hq := heap_alloc_new w2 (.cells #[.slice none 0 0, .slice (some ⟨g, 0, none⟩) 8 8] 29)
  have ba := alloc_below w2 (.cells #[.slice none 0 0, .slice (some ⟨g, 0, none⟩) 8 8] 29)
  obtain ⟨q, hqe⟩ : ∃ q, w2.heap.size = q := ⟨_, rfl⟩
  have GQ := Lib.hid (show w.heap.size + 2 ≤ q by rw [← hqe]; exact S2.out)
  rw [hqe] at hq ⊢
  have B3 := Lib.hid (below_end B2.out ba)
  have P0 := Lib.hid (keep_heap ba P0.out)
  have P1 := Lib.hid (keep_heap ba P1.out)
  have TN := Lib.hid (T2.out.below ba)
  have HQ := Lib.hid hq
  generalize w2.alloc (.cells #[.slice none 0 0, .slice (some ⟨g, 0, none⟩) 8 8] 29) = W0 at *
  obtain ⟨d0, d1, d2, d3, d4⟩ := five_cells P0.out
  clear hq ba hqe S1 S2 B2 T2 B1 c0 c1 c2 c3 c4 B K0 K1 K2 CK
  go_wp2
  go_loopw [16] (fun i wr => ∃ k : Nat, k ≤ m ∧ i = .int .i64 k ∧ Hid (∃ v us, us.length = k ∧ GT (w.heap.size + 2) wr v us (fun _ => newF) ∧ v.ownBlock ≠ some q ∧ (∀ r, v.ownBlock = some r → Apart (.slice (some ⟨g, 0, none⟩) 8 8) r) ∧ wr.heap[q]? = some (.cells #[v, .slice (some ⟨g, 0, none⟩) 8 8] 29 (0, 0))) ∧
      Hid (wr.heap[w.heap.size]? = some (.cells #[.int .i64 C, .int .i64 m, .int .i64 S, .int .i64 K, .int .i64 Q] 23 (0, 0))) ∧ Hid (wr.heap[w.heap.size + 1]? = some (.cells #[.slice none 0 0, .slice none 0 0] 29 (0, 0))) ∧ Hid (IAt wr (.slice (some ⟨g, 0, none⟩) 8 8) newF) ∧ Hid (Below w.heap.size w wr)) (fun i _ => m - (intOf i).toNat)
  case atStart => exact ⟨0, by omega, rfl, Lib.hid ⟨nilV, [], rfl, GT.nil _ _ _, by simp [nilV, Value.ownBlock], fun r hr => by simp [nilV, Value.ownBlock] at hr, HQ.out⟩, P0, P1, TN, B3⟩
  case round =>
    obtain ⟨k, hk, rfl, HX, H0, H1, HT, HB⟩ := hrel
    obtain ⟨v, us, hul, hgt, hvq, hav, hqv⟩ := HX.out
    by_cases hlt : k < m
    · have hlt' : (k : Int) < (m : Int) := by omega
      have q0 : decide ((k : Int) < (m : Int)) = true := decide_eq_true hlt'
      have hD : Below wr.heap.size wr wr.drew := below_drewN (Below.refl _ _) 1
      have hqv2 := hqv
      subst hul
      have PUSH := Lib.hid (fun w3 gt (hb : Below wr.drew.heap.size wr.drew w3) (hgt2 : wr.drew.heap.size ≤ gt) (ht : IAt w3 (.slice (some ⟨gt, 0, none⟩) 8 8) newF) => (show ∃ g' cap' w4, (appF #[24, 24] 24 #[v, .slice (some ⟨w3.heap.size, 0, none⟩) 1 1]).run Tryz.prog (w3.alloc (.cells #[.slice (some ⟨gt, 0, none⟩) 8 8] 27)) = .ok (.slice (some ⟨g', 0, none⟩) (us.length + 1) cap') w4 ∧
          (w4.cell? ⟨q, 0, none⟩ = some v ∧ w4.frozen? ⟨q, 0, none⟩ = false ∧ w3.cell? ⟨q, 0, none⟩ = some v ∧ (w3.alloc (.cells #[.slice (some ⟨gt, 0, none⟩) 8 8] 27)).cell? ⟨q, 0, none⟩ = some v) ∧
          ∃ us2, us2.length = us.length + 1 ∧ GT (w.heap.size + 2) (w4.setCell ⟨q, 0, none⟩ (.slice (some ⟨g', 0, none⟩) (us.length + 1) cap')) (.slice (some ⟨g', 0, none⟩) (us.length + 1) cap') us2 (fun _ => newF) ∧ (Value.slice (some ⟨g', 0, none⟩) (us.length + 1) cap').ownBlock ≠ some q ∧
            (∀ r, (Value.slice (some ⟨g', 0, none⟩) (us.length + 1) cap').ownBlock = some r → Apart (.slice (some ⟨g, 0, none⟩) 8 8) r) ∧ (w4.setCell ⟨q, 0, none⟩ (.slice (some ⟨g', 0, none⟩) (us.length + 1) cap')).heap[q]? = some (.cells #[.slice (some ⟨g', 0, none⟩) (us.length + 1) cap', .slice (some ⟨g, 0, none⟩) 8 8] 29 (0, 0)) ∧
            (w4.setCell ⟨q, 0, none⟩ (.slice (some ⟨g', 0, none⟩) (us.length + 1) cap')).heap[w.heap.size]? = some (.cells #[.int .i64 C, .int .i64 m, .int .i64 S, .int .i64 K, .int .i64 Q] 23 (0, 0)) ∧ (w4.setCell ⟨q, 0, none⟩ (.slice (some ⟨g', 0, none⟩) (us.length + 1) cap')).heap[w.heap.size + 1]? = some (.cells #[.slice none 0 0, .slice none 0 0] 29 (0, 0)) ∧
            IAt (w4.setCell ⟨q, 0, none⟩ (.slice (some ⟨g', 0, none⟩) (us.length + 1) cap')) (.slice (some ⟨g, 0, none⟩) 8 8) newF ∧ Below w.heap.size w (w4.setCell ⟨q, 0, none⟩ (.slice (some ⟨g', 0, none⟩) (us.length + 1) cap')) by
        have hbw : Below wr.heap.size wr w3 := below_end hD hb
        have hsz := hbw.size
        have hlo := fun r hr => (hgt.own.lt r hr).1
        have hup := fun r hr => (hgt.own.lt r hr).2
        have hB0 := HB.out.size
        have hgq := GQ.out
        have hql : q < wr.heap.size := (Array.getElem?_eq_some_iff.1 hqv).1
        obtain ⟨g', cap', w4, hr, hg4, hgr, hs4, hv4⟩ := (hgt.below hbw).push (x := .slice (some ⟨gt, 0, none⟩) 8 8) (by omega) ht (fun r hr => by
          intro A n c b off e1 _ e2
          cases e1; cases e2
          have := hup r hr
          have : wr.heap.size ≤ gt := hgt2
          omega) (by omega)
        have ba := alloc_below w3 (.cells #[.slice (some ⟨gt, 0, none⟩) 8 8] 27)
        have hbx := below_end hbw ba
        have q4 := heap_own (keep_heap hbx hqv) hgr hvq
        have a4 := heap_own (keep_heap hbx H0.out) hgr (fun e => by have := hlo _ e; omega)
        have b4 := heap_own (keep_heap hbx H1.out) hgr (fun e => by have := hlo _ e; omega)
        have t4 := (HT.out.below hbx).own hgr hav
        have hsl : ∀ u, u ∈ (#[v, .slice (some ⟨g, 0, none⟩) 8 8] : Array Value).toList → isSl u := fun u hu => by
          simp only [List.mem_cons, List.not_mem_nil, or_false] at hu
          rcases hu with rfl | rfl
          · obtain ⟨A, cp, e⟩ := hgt.form; exact ⟨_, _, _, e⟩
          · exact ⟨_, _, _, rfl⟩
        have hne : (Value.slice (some ⟨g', 0, none⟩) (us.length + 1) cap').ownBlock ≠ some q := fun e => by
          simp only [Value.ownBlock, Option.some.injEq] at e
          subst e
          rcases hv4 with h | h
          · exact hvq h
          · omega
        refine ⟨g', cap', w4, hr, ⟨(two_cells q4).1, (two_cells q4).2.2.1, (two_cells (keep_heap hbw hqv)).1, (two_cells (keep_heap hbx hqv)).1⟩, us ++ [.slice (some ⟨gt, 0, none⟩) 8 8], by simp, hg4.set q4 hsl hne _, hne, fun r hr2 => ?_, set_row q4 0 _, set_far _ (by omega) a4, set_far _ (by omega) b4, t4.set q4 hsl _, ?_⟩
        · simp only [Value.ownBlock, Option.some.injEq] at hr2
          subst hr2
          rcases hv4 with h | h
          · exact hav _ h
          · exact (HT.out.below hbw).far (by omega)
        · refine ((below_end HB.out hbx).grown hgr (by have := hbx.size; omega) (fun r hr => by have := hlo r hr; omega)).setCell (p := ⟨q, 0, none⟩) (by dsimp only; omega) _))
      obtain ⟨e0, -, -, -⟩ := two_cells hqv
      obtain ⟨A, cp, hv⟩ := hgt.form
      subst hv
      clear hgt hvq hav hqv hqv2 HX H0 H1 HT HB hk
      go_upto_region 7 with fail
      go_region_with (go_at_call 41; refine (NW.out _).mono ?_; rintro e w3 ⟨gt, rfl, hgs, ht, hb3⟩; obtain ⟨g', cap', w4, hrun, ⟨k1, k2, k3, k4⟩, hrest⟩ := PUSH.out w3 gt hb3 hgs ht; have HREST := Lib.hid hrest; clear hrest hgs ht hb3)
      all_goals
        go_wp2
        obtain ⟨us2, hl2, x1, x2, x3, x4, x5, x6, x7, x8⟩ := HREST.out
        refine ⟨⟨us.length + 1, by omega, by simp, Lib.hid ⟨_, us2, hl2, x1, x2, x3, x4⟩, Lib.hid x5, Lib.hid x6, Lib.hid x7, Lib.hid x8⟩, ?_⟩
        show m - ((us.length : Int) + 1).toNat < m - ((us.length : Int)).toNat
        omega
    · have hlt' : ¬ (k : Int) < (m : Int) := by omega
      have q0 : decide ((k : Int) < (m : Int)) = false := decide_eq_false hlt'
      obtain rfl : k = m := by omega
      obtain ⟨A, cp, hv⟩ := hgt.form
      have hlo := fun r hr => (hgt.own.lt r hr).1
      have R0 := hgt.rs HT.out
      rw [hul] at hv R0
      subst hv
      obtain ⟨e0, e1, -, -⟩ := two_cells hqv
      obtain ⟨r0, r1, g0, g1⟩ := two_cells H1.out
      have hne : ∀ b off m' c', Value.slice A k cp = .slice (some ⟨b, off, none⟩) m' c' → b ≠ w.heap.size + 1 := fun b off m' c' e h => by
        cases e; have := hlo b rfl; omega
      have s2 : ∀ u, u ∈ (#[.slice A k cp, nilV] : Array Value).toList → isSl u := fun u hu => by
        simp only [List.mem_cons, List.not_mem_nil, or_false] at hu
        rcases hu with rfl | rfl
        · exact ⟨_, _, _, rfl⟩
        · exact nil_sl
      have RR := Lib.hid ((R0.set H1.out two_nil (i := 0) hne (.slice A k cp)).set (set_row H1.out 0 _) s2 (i := 1) hne (.slice (some ⟨g, 0, none⟩) 8 8))
      have x1 : ((wr.setCell ⟨w.heap.size + 1, 0, none⟩ (.slice A k cp)).setCell ⟨w.heap.size + 1, 1, none⟩ (.slice (some ⟨g, 0, none⟩) 8 8)).heap[w.heap.size + 1]? = some (.cells #[.slice A k cp, .slice (some ⟨g, 0, none⟩) 8 8] 29 (0, 0)) := set_row (set_row H1.out 0 _) 1 _
      obtain ⟨y0, y1, -, -⟩ := two_cells x1
      have NA := Lib.hid (show NewA w (.slice A k cp) from fun b off m c e => by cases e; have := hlo b rfl; omega)
      clear hgt hvq hav hqv HX R0 hne s2 x1 hlo hk hul
      go_wp2
      refine bodyPost_ret (v := .tuple #[.agg #[.slice A k cp, .slice (some ⟨g, 0, none⟩) 8 8], .int .i64 0]) (by simp [results, Tryz.f10, go_sem, y0, y1]) rfl ⟨_, _, _, rfl, RR.out, (HB.out.setCell (p := ⟨w.heap.size + 1, 0, none⟩) (show w.heap.size ≤ w.heap.size + 1 by omega) _).setCell (p := ⟨w.heap.size + 1, 1, none⟩) (show w.heap.size ≤ w.heap.size + 1 by omega) _, NA.out⟩
theorem new27 (w : World) : Calls Tryz.prog 10 #[.agg #[.int .i64 C, .int .i64 N, .int .i64 S, .int .i64 K, .int .i64 Q]] w fun e w' => RsAns w (newN C N S K Q) (newT C N S K Q) (chkE C N S K Q) e w' := by
  by_cases hg : good C N S K Q
  · unfold newN newT Cf.chkE; simp only [if_pos hg]; exact new27_ok C N S K Q w hg
  · unfold newN newT Cf.chkE; simp only [if_neg hg]; exact new27_bad C N S K Q w hg
end
/-- what Into answers -/
def intoF (n : Nat) (T : Nat → List Int) (car : Int) : List Int × Int := if car < 0 ∨ (n : Int) ≤ car then ([], 7) else listA (T car.toNat)
set_option maxRecDepth 100000 in
set_option maxHeartbeats 1000000 in
theorem into24 (A nv : Value) (n : Nat) (U : Nat → Value) (T : Nat → List Int) (car : Int) (w : World) (hR : RS w A nv n U T) (hm : ∀ j, j ≤ n → (T j).length ≤ 100000) :
    Calls Tryz.prog 23 #[.agg #[A, nv], .int .i64 car] w fun e w' => LiAns w (intoF n T car) e w' := by
  obtain ⟨a, cap, rfl, hc⟩ := hR.form
  have h0 := heap_alloc_new w (.cells #[.slice a n cap, nv] 29)
  have hb := alloc_below w (.cells #[.slice a n cap, nv] 29)
  obtain ⟨c0, c1, -, -⟩ := two_cells h0
  have B := Lib.hid hb
  unfold intoF LiAns
  by_cases h1 : car < 0
  · have q1 : decide (car < 0) = true := decide_eq_true h1
    rw [if_pos (.inl h1)]
    clear h0 hb hR hm hc
    go_enter Tryz.func23, Tryz.ntmps23
    go_wp2
    refine bodyPost_ret (v := .tuple #[.slice none 0 0, .int .i64 7]) (by simp [results, Tryz.f23, go_sem]) rfl ⟨_, rfl, row_nil _ _, B.out⟩
  obtain ⟨k, rfl⟩ : ∃ k : Nat, car = (k : Int) := ⟨car.toNat, by omega⟩
  have q1 : decide ((k : Int) < 0) = false := decide_eq_false h1
  by_cases h2 : n ≤ k
  · have q2 : decide ((n : Int) ≤ (k : Int)) = true := decide_eq_true (by omega)
    rw [if_pos (.inr (by omega))]
    clear h0 hb hR hm hc
    go_enter Tryz.func23, Tryz.ntmps23
    go_wp2
    refine bodyPost_ret (v := .tuple #[.slice none 0 0, .int .i64 7]) (by simp [results, Tryz.f23, go_sem]) rfl ⟨_, rfl, row_nil _ _, B.out⟩
  have q2 : decide ((n : Int) ≤ (k : Int)) = false := decide_eq_false (by omega)
  have q3 : (k : Int) < (n : Int) := by omega
  have q4 : ¬ (n : Int) ≤ (k : Int) := by omega
  rw [if_neg (by omega), Int.toNat_natCast]
  obtain ⟨b, off, rfl, hcell⟩ := hc (by omega)
  obtain ⟨Ak, ck, hu, -⟩ := hR.at_ k (by omega)
  have ck1 := keep_cell hb (hcell k (by omega))
  have ad : (⟨b, off, none⟩ : Addr).add k = ⟨b, off + k, none⟩ := by unfold Addr.add; split <;> simp_all
  have LI := Lib.hid (list20 (U k) (T k) _ ((hR.at_ k (by omega)).below hb) (hm k (by omega)))
  unfold LiAns sv at LI
  rw [hu] at LI ck1
  generalize listA (T k) = R at *
  obtain ⟨L, c⟩ := R
  dsimp only at LI ⊢
  generalize (T k).length = nk at *
  clear h0 hb hR hm hc hcell hu
  go_enter Tryz.func23, Tryz.ntmps23
  go_wp2_with (go_at_call 57; refine LI.out.mono ?_; rintro e w1 ⟨v, rfl, ho, hb1⟩; have B1 := Lib.hid (below_end B.out hb1); have HO := Lib.hid ho; obtain ⟨A', c', rfl⟩ := own_form ho; clear ho hb1)
  refine bodyPost_ret (v := .tuple #[.slice A' L.length c', .int .i64 c]) (by simp [results, Tryz.f23, go_sem]) rfl ⟨_, rfl, row_mono HO.out B.out.size, B1.out⟩
set_option maxRecDepth 100000 in
set_option maxHeartbeats 1000000 in
theorem young45 (A nv : Value) (n : Nat) (U : Nat → Value) (T : Nat → List Int) (w : World) (hR : RS w A nv n U T) (hm : ∀ j, j ≤ n → (T j).length ≤ 100000) :
    Calls Tryz.prog 26 #[.agg #[A, nv]] w fun e w' => LiAns w (listA (T n)) e w' := by
  obtain ⟨a, cap, rfl, -⟩ := hR.form
  have h0 := heap_alloc_new w (.cells #[.slice a n cap, nv] 29)
  have hb := alloc_below w (.cells #[.slice a n cap, nv] 29)
  obtain ⟨c0, c1, -, -⟩ := two_cells h0
  have B := Lib.hid hb
  have hat := hR.at_ n (Nat.le_refl _)
  rw [hR.nur] at hat
  have hat2 := hat
  obtain ⟨Ak, ck, hu, -⟩ := hat2
  have LI := Lib.hid (list20 nv (T n) _ (hat.below hb) (hm n (Nat.le_refl _)))
  unfold LiAns sv at *
  rw [hu] at LI c1
  subst hu
  generalize listA (T n) = R at *
  obtain ⟨L, c⟩ := R
  dsimp only at LI ⊢
  generalize (T n).length = nk at *
  clear h0 hb hR hm hat
  go_enter Tryz.func26, Tryz.ntmps26
  go_wp2_with (go_at_call 57; refine LI.out.mono ?_; rintro e w1 ⟨v, rfl, ho, hb1⟩; have B1 := Lib.hid (below_end B.out hb1); have HO := Lib.hid ho; obtain ⟨A', c', rfl⟩ := own_form ho; clear ho hb1)
  refine bodyPost_ret (v := .tuple #[.slice A' L.length c', .int .i64 c]) (by simp [results, Tryz.f26, go_sem]) rfl ⟨_, rfl, row_mono HO.out B.out.size, B1.out⟩
end YtjkphacidpongaaGreat
end Go.Proofs
