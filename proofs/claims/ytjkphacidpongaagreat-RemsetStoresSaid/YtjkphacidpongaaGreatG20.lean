/- The reference's Of. -/
import Derived.Test.YtjkphacidpongaaGreatQSlBj
namespace Go.Proofs
namespace YtjkphacidpongaaGreat
open Go.RowKit

theorem field_of (A : Option Addr) (n c : Nat) (W : World) : (Instr.field 27 (.agg #[.slice A n c]) 0).run Tryz.prog W = .ok (.slice A n c) W := by
  simp [Instr.field, go_sem, asAgg]
theorem add_found {cs : List Int} {a : Int} (h : hasB cs a = true) : addF cs a = cs := by unfold addF; rw [h]; rfl
theorem SAns.row {w w' : World} {zs : List Int} {v : Value} (h : SAns w zs v w') (hl : zs.length ≤ 100000) : ∃ u, v = sv u ∧ Row w w' u zs ∧ Below w.heap.size w w' := by
  obtain ⟨g, rfl, hg, ht, hb⟩ := h
  exact ⟨_, rfl, ht.row hg hl, hb⟩
end YtjkphacidpongaaGreat
end Go.Proofs
/- The reference's Join. -/
namespace Go.Proofs
namespace YtjkphacidpongaaGreat
open Go.RowKit

end YtjkphacidpongaaGreat
end Go.Proofs
/- The reference's Purge. -/
namespace Go.Proofs
namespace YtjkphacidpongaaGreat
open Go.RowKit

def pgB (f t c : Int) : Bool := decide (0 < c) && (decide (f ≤ c) && decide (c < t))
/-- the first k cells purged -/
def pgU (cs : List Int) (f t : Int) (k : Nat) : List Int := purgeF (cs.take k) f t ++ cs.drop k
def pgN (cs : List Int) (f t : Int) (k : Nat) : Nat := (cs.take k).countP fun c => decide (0 < c ∧ f ≤ c ∧ c < t)
theorem pgU_len (cs : List Int) (f t : Int) (k : Nat) : (pgU cs f t k).length = cs.length := by
  unfold pgU purgeF
  rw [List.length_append, List.length_map, List.length_take, List.length_drop]; omega
theorem pgU_zero (cs : List Int) (f t : Int) : pgU cs f t 0 = cs := by simp [pgU, purgeF]
theorem pgU_all (cs : List Int) (f t : Int) : pgU cs f t cs.length = purgeF cs f t := by unfold pgU; rw [List.take_length, List.drop_length, List.append_nil]
theorem pgU_get (cs : List Int) (f t : Int) {k : Nat} (h : k < cs.length) : (pgU cs f t k).getD k 0 = cs.getD k 0 := by
  unfold pgU purgeF
  rw [List.getD_eq_getElem?_getD, List.getElem?_append_right (by simp; omega)]
  simp only [List.length_map, List.length_take, List.getElem?_drop]
  rw [show k + (k - min k cs.length) = k by omega, List.getD_eq_getElem?_getD]
theorem pgU_step (cs : List Int) (f t : Int) {k : Nat} (h : k < cs.length) : pgU cs f t (k + 1) = if 0 < cs.getD k 0 ∧ f ≤ cs.getD k 0 ∧ cs.getD k 0 < t then (pgU cs f t k).set k (-1) else pgU cs f t k := by
  have e1 : cs.drop k = cs.getD k 0 :: cs.drop (k + 1) := by rw [List.drop_eq_getElem_cons h, getElem_getD h]
  have e2 : ((cs.take k).map fun c => if 0 < c ∧ f ≤ c ∧ c < t then -1 else c).length = k := by simp; omega
  unfold pgU purgeF
  rw [take_snoc h, List.map_append, e1]
  simp only [List.map_cons, List.map_nil]
  split
  · rw [List.set_append_right _ _ (by omega), e2, Nat.sub_self, List.set_cons_zero, List.append_assoc]; rfl
  · rw [List.append_assoc]; rfl
theorem pgN_step (cs : List Int) (f t : Int) {k : Nat} (h : k < cs.length) : pgN cs f t (k + 1) = pgN cs f t k + if 0 < cs.getD k 0 ∧ f ≤ cs.getD k 0 ∧ cs.getD k 0 < t then 1 else 0 := by
  unfold pgN
  rw [take_snoc h, List.countP_append, List.countP_singleton]
  simp only [decide_eq_true_eq]
theorem pgN_le (cs : List Int) (f t : Int) (k : Nat) : pgN cs f t k ≤ cs.length := by
  unfold pgN
  refine Nat.le_trans List.countP_le_length ?_
  rw [List.length_take]; omega
theorem pgN_all {cs : List Int} (h : Tab cs) (f t : Int) : pgN cs f t cs.length = (inF f t (srt cs)).length := by unfold pgN; rw [List.take_length, purge_count h]
set_option maxRecDepth 100000 in
set_option maxHeartbeats 400000 in
theorem rpurge36_err (v : Value) (cs : List Int) (f t : Int) (w : World) (h : IAt w v cs) (hm : cs.length ≤ 100000) (hg : (chkF cs).2 ≠ 0) :
    Calls Tryz.prog 68 #[sv v, .int .i64 f, .int .i64 t] w fun e w' => SnAns w ([], 0, (chkF cs).2) e w' := by
  obtain ⟨h0, h1, hs, hb⟩ := two_boxes w (.cells #[v] 27) (.cells #[.slice none 0 0] 27)
  have C := Lib.hid (rcheck14 v cs _ (h.below hb) hm)
  obtain ⟨A, cap, rfl, -⟩ := h
  have c0 := (one_cell h0).1
  have B := Lib.hid hb
  have H1 := Lib.hid h1
  unfold SnAns sv at *
  generalize cs.length = n at *
  generalize chkF cs = r at *
  obtain ⟨r1, r⟩ := r
  dsimp only at *
  have q : (r != 0) = true := by simpa using hg
  clear h0 h1 hb hs hg
  go_enter Tryz.func68, Tryz.ntmps68
  go_upto_region 1 with fail
  generalize (w.alloc (.cells #[.slice A n cap] 27)).alloc (.cells #[.slice none 0 0] 27) = W0 at *
  go_wp2_with (go_at_call 82; refine C.out.mono ?_; rintro e w1 ⟨rfl, hb1⟩; have B1 := Lib.hid (below_end B.out hb1); have K1 := Lib.hid (keep_heap hb1 H1.out); obtain ⟨d1, f1⟩ := one_cell K1.out; clear hb1)
  have c4 := (one_cell (set_row K1.out 0 (.slice none 0 0))).1
  refine bodyPost_ret (v := .tuple #[.agg #[.slice none 0 0], .int .i64 0, .int .i64 r]) (by simp [results, Tryz.f68, go_sem, c4]) rfl ⟨_, rfl, row_nil _ _, B1.out.setCell (p := ⟨w.heap.size + 1, 0, none⟩) (by simp) _⟩
set_option maxRecDepth 100000 in
set_option maxHeartbeats 1000000 in
theorem rpurge36_ok (v : Value) (cs : List Int) (f t : Int) (w : World) (h : IAt w v cs) (hm : cs.length ≤ 100000) (hG : Good cs) :
    Calls Tryz.prog 68 #[sv v, .int .i64 f, .int .i64 t] w fun e w' => SnAns w (purgeF cs f t, ((inF f t (srt cs)).length : Int), 0) e w' := by
  obtain ⟨h0, h1, hs, hb⟩ := two_boxes w (.cells #[v] 27) (.cells #[.slice none 0 0] 27)
  have C := Lib.hid (rcheck14 v cs _ (h.below hb) hm)
  rw [chk_of_good hG] at C
  dsimp only at C
  have IV := Lib.hid (fun W (hb : Below w.heap.size w W) => h.below hb)
  have hlo := hG.tab.lo
  have HL := Lib.hid (show 0 < cs.length ∧ ([] : List Int).length + cs.length ≤ 1000000 from ⟨by omega, by simp; omega⟩)
  have HN := Lib.hid (show ([] : List Int).length + cs.length = cs.length by simp)
  obtain ⟨A, cap, rfl, -⟩ := h
  have c0 := (one_cell h0).1
  have B := Lib.hid hb
  have H0 := Lib.hid h0
  have H1 := Lib.hid h1
  rw [← pgN_all hG.tab f t, ← pgU_all cs f t]
  obtain ⟨U, hU⟩ : ∃ U : Nat → List Int, ∀ k, pgU cs f t k = U k := ⟨_, fun _ => rfl⟩
  obtain ⟨N, hN⟩ : ∃ N : Nat → Nat, ∀ k, pgN cs f t k = N k := ⟨_, fun _ => rfl⟩
  have UL := Lib.hid (fun k => (show (U k).length = cs.length by rw [← hU]; exact pgU_len cs f t k))
  have U0 := Lib.hid (show cs = U 0 by rw [← hU, pgU_zero])
  have N0 := Lib.hid (show N 0 = 0 by rw [← hN]; rfl)
  have UG := Lib.hid (fun k (hk : k < cs.length) => (show (U k).getD k 0 = cs.getD k 0 by rw [← hU]; exact pgU_get cs f t hk))
  have US := Lib.hid (fun k (hk : k < cs.length) => (show U (k + 1) = if 0 < cs.getD k 0 ∧ f ≤ cs.getD k 0 ∧ cs.getD k 0 < t then (U k).set k (-1) else U k by rw [← hU, ← hU]; exact pgU_step cs f t hk))
  have NS := Lib.hid (fun k (hk : k < cs.length) => (show N (k + 1) = N k + if 0 < cs.getD k 0 ∧ f ≤ cs.getD k 0 ∧ cs.getD k 0 < t then 1 else 0 by rw [← hN, ← hN]; exact pgN_step cs f t hk))
  have NL := Lib.hid (fun k => (show N k ≤ cs.length by rw [← hN]; exact pgN_le cs f t k))
  rw [hU, hN]
  unfold SnAns sv at *
  clear h0 h1 hb hs hG hU hN
  go_enter Tryz.func68, Tryz.ntmps68
  go_upto_region 1 with fail
  generalize (w.alloc (.cells #[.slice A cs.length cap] 27)).alloc (.cells #[.slice none 0 0] 27) = W0 at *
  go_upto_region 5 with (first
    | (go_at_call 82; refine C.out.mono ?_; rintro e w1 ⟨rfl, hb1⟩; have B1 := Lib.hid (below_end B.out hb1); have K1 := Lib.hid (keep_heap hb1 H1.out); have ba := alloc_below w1 (.cells #[] 3); have BA := Lib.hid ba; have BB := Lib.hid (below_end B1.out ba); have c2 := (one_cell (keep_heap ba (keep_heap hb1 H0.out))).1; clear hb1 ba)
    | (at_builtin; refine push_all (w := w1) (xs := []) (empty_row (Below.refl _ _)) BA.out (IV.out _ BB.out) HL.out.1 rfl _ _ rfl rfl rfl HL.out.2 ?_; intro g cap3 W3 ho hb3; have R3 := Lib.hid (show Row w1 W3 (.slice (some ⟨g, 0, none⟩) cs.length cap3) cs by rwa [List.nil_append, HN.out] at ho); have B3 := Lib.hid hb3; clear ho hb3))
  have R5 := Lib.hid (show W3.ownsRow w1.heap.size 3 1 (.slice (some ⟨g, 0, none⟩) cs.length cap3) cs.length (ic (U 0)) by rw [← U0.out]; exact R3.out)
  clear R3 c0 c2
  obtain ⟨m, hm2⟩ : ∃ m, cs.length = m := ⟨_, rfl⟩
  have HM := Lib.hid hm2
  rw [hm2] at R5 UL UG US NS NL hm ⊢
  clear hm2
  go_wp2
  go_loopw [12, 13] (fun n i wr => ∃ k : Nat, k ≤ m ∧ i = .int .i64 k ∧ n = .int .i64 (N k) ∧ Hid (wr.ownsRow w1.heap.size 3 1 (.slice (some ⟨g, 0, none⟩) m cap3) m (ic (U k))) ∧ Hid (Below w1.heap.size w1 wr)) (fun _ i _ => m - (intOf i).toNat)
  case atStart => exact ⟨0, by omega, rfl, by rw [N0.out]; rfl, R5, B3⟩
  case round =>
    obtain ⟨k, hk, rfl, rfl, HR, HB⟩ := hrel
    by_cases hlt : k < m
    · have hlt' : (k : Int) < (m : Int) := by omega
      obtain ⟨c1, f1⟩ := irow_cell HR.out (UL.out k) hlt
      rw [UG.out k hlt] at c1
      have ad1 : (⟨g, 0, none⟩ : Addr).add k = ⟨g, k, none⟩ := by unfold Addr.add; split <;> simp_all
      have SK := Lib.hid (US.out k hlt)
      have NK := Lib.hid (NS.out k hlt)
      have nk := NL.out k
      obtain ⟨o4, b4⟩ := irow_put HR.out HB.out k (-1)
      have O4 := Lib.hid o4
      have B4 := Lib.hid b4
      clear o4 b4
      generalize cs.getD k 0 = x at *
      have FIN := Lib.hid (show ∀ (Z : Int) W5, Z = N (k + 1) → W5.ownsRow w1.heap.size 3 1 (.slice (some ⟨g, 0, none⟩) m cap3) m (ic (U (k + 1))) → Below w1.heap.size w1 W5 →
          (∃ k_1 : Nat, k_1 ≤ m ∧ Value.int .i64 ((k : Int) + 1) = .int .i64 k_1 ∧ Value.int .i64 Z = .int .i64 (N k_1) ∧ Hid (W5.ownsRow w1.heap.size 3 1 (.slice (some ⟨g, 0, none⟩) m cap3) m (ic (U k_1))) ∧ Hid (Below w1.heap.size w1 W5)) ∧ m - (intOf (.int .i64 ((k : Int) + 1))).toNat < m - (intOf (.int .i64 (k : Int))).toNat from by
        intro Z W5 h1 h2 h3
        refine ⟨⟨k + 1, by omega, by simp, by rw [h1], Lib.hid h2, Lib.hid h3⟩, ?_⟩
        show m - ((k : Int) + 1).toNat < m - ((k : Int)).toNat
        omega)
      have STAY := Lib.hid (show ¬ (0 < x ∧ f ≤ x ∧ x < t) → N (k + 1) = N k ∧ U (k + 1) = U k from fun h => ⟨by rw [NK.out, if_neg h]; rfl, by rw [SK.out, if_neg h]⟩)
      have MOVE := Lib.hid (show (0 < x ∧ f ≤ x ∧ x < t) → N (k + 1) = N k + 1 ∧ U (k + 1) = (U k).set k (-1) from fun h => ⟨by rw [NK.out, if_pos h], by rw [SK.out, if_pos h]⟩)
      generalize N k = z at *
      clear NK SK
      by_cases h0 : 0 < x
      rotate_left
      · have q0 : decide (0 < x) = false := decide_eq_false h0
        have e := Lib.hid (STAY.out (fun h => h0 h.1))
        clear h0 STAY MOVE
        go_wp2
        exact FIN.out _ _ (by rw [e.out.1]) (by rw [e.out.2]; exact HR.out) HB.out
      have q0 : decide (0 < x) = true := decide_eq_true h0
      by_cases h1 : f ≤ x
      rotate_left
      · have q1 : decide (f ≤ x) = false := decide_eq_false h1
        have e := Lib.hid (STAY.out (fun h => h1 h.2.1))
        clear h0 h1 STAY MOVE
        go_wp2
        exact FIN.out _ _ (by rw [e.out.1]) (by rw [e.out.2]; exact HR.out) HB.out
      have q1 : decide (f ≤ x) = true := decide_eq_true h1
      by_cases h2 : x < t
      rotate_left
      · have q2 : decide (x < t) = false := decide_eq_false h2
        have e := Lib.hid (STAY.out (fun h => h2 h.2.2))
        clear h0 h1 h2 STAY MOVE
        go_wp2
        exact FIN.out _ _ (by rw [e.out.1]) (by rw [e.out.2]; exact HR.out) HB.out
      have q2 : decide (x < t) = true := decide_eq_true h2
      have e := Lib.hid (MOVE.out ⟨h0, h1, h2⟩)
      clear h0 h1 h2 STAY MOVE
      go_wp2
      exact FIN.out _ _ (by rw [e.out.1]; simp) (by rw [e.out.2]; exact O4.out) B4.out
    · have hlt' : ¬ (k : Int) < (m : Int) := by omega
      obtain rfl : k = m := by omega
      have K5 := Lib.hid (keep_heap HB.out K1.out)
      have B5 := Lib.hid (below_end B1.out HB.out)
      obtain ⟨d1, f1⟩ := one_cell K5.out
      have R6 := Lib.hid (show Row w1 wr (.slice (some ⟨g, 0, none⟩) k cap3) (U k) by unfold Row; rw [UL.out]; exact HR.out)
      clear HR US NS UG
      go_wp2
      have c4 := (one_cell (set_row K5.out 0 (.slice (some ⟨g, 0, none⟩) k cap3))).1
      refine bodyPost_ret (v := .tuple #[.agg #[.slice (some ⟨g, 0, none⟩) k cap3], .int .i64 (N k), .int .i64 0]) (by simp [results, Tryz.f68, go_sem, c4]) rfl ⟨_, by rw [HM.out], by rw [HM.out]; exact row_set R6.out B1.out.size _ _ _ (box_lt K1.out), B5.out.setCell (p := ⟨w.heap.size + 1, 0, none⟩) (by simp) _⟩
theorem rpurge36 (v : Value) (cs : List Int) (f t : Int) (w : World) (h : IAt w v cs) (hm : cs.length ≤ 100000) :
    Calls Tryz.prog 68 #[sv v, .int .i64 f, .int .i64 t] w fun e w' => SnAns w (purgeA cs f t) e w' := by
  by_cases hg : (chkF cs).2 ≠ 0
  · rw [purge_1 hg]; exact rpurge36_err v cs f t w h hm hg
  · rw [purge_2 hg]; exact rpurge36_ok v cs f t w h hm (good_of_chk (Classical.byContradiction hg))
end YtjkphacidpongaaGreat
end Go.Proofs
