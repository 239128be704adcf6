/- The reference's Len, Range and List. -/
import Derived.Test.YtjkphacidpongaaGreatG18
namespace Go.Proofs
namespace YtjkphacidpongaaGreat
open Go.RowKit

theorem len_1 {cs : List Int} (h : (chkF cs).2 ≠ 0) : lenA cs = (0, (chkF cs).2) := by unfold lenA; rw [if_pos h]
theorem len_2 {cs : List Int} (h : ¬ (chkF cs).2 ≠ 0) : lenA cs = ((addrN cs : Int), 0) := by
  unfold lenA; rw [if_neg h, (good_of_chk (Classical.byContradiction h)).tab.srt_addr]
theorem range_1 {cs : List Int} {f t : Int} (h : (chkF cs).2 ≠ 0) : rangeA cs f t = ([], (chkF cs).2) := by unfold rangeA; rw [if_pos h]
theorem range_2 {cs : List Int} {f t : Int} (h : ¬ (chkF cs).2 ≠ 0) : rangeA cs f t = (inF f t (srt cs), 0) := by unfold rangeA; rw [if_neg h]
set_option maxRecDepth 100000 in
set_option maxHeartbeats 1000000 in
theorem rlen16 (v : Value) (cs : List Int) (w : World) (h : IAt w v cs) (hm : cs.length ≤ 100000) :
    Calls Tryz.prog 49 #[sv v] w fun e w' => e = .returned (.tuple #[.int .i64 (lenA cs).1, .int .i64 (lenA cs).2]) ∧ Below w.heap.size w w' := by
  have h0 := heap_alloc_new w (.cells #[v] 27)
  have hb := alloc_below w (.cells #[v] 27)
  have C := Lib.hid (rcheck14 v cs _ (h.below hb) hm)
  have US := Lib.hid (fun W (hb : Below w.heap.size w W) => rused39 v cs W (h.below hb) hm)
  obtain ⟨A, cap, rfl, -⟩ := h
  have c0 := (one_cell h0).1
  have B := Lib.hid hb
  have H0 := Lib.hid h0
  unfold sv at *
  generalize usedN cs = u at *
  by_cases hc : (chkF cs).2 ≠ 0
  · rw [len_1 hc]
    generalize chkF cs = r at *
    obtain ⟨r1, r2⟩ := r
    dsimp only at *
    have q : (r2 != 0) = true := by simpa using hc
    generalize cs.length = n at *
    clear h0 hb hc US
    go_enter Tryz.func49, Tryz.ntmps49
    go_wp2_with (go_at_call 82; refine C.out.mono ?_; rintro e w1 ⟨rfl, hb1⟩; have B1 := Lib.hid (below_end B.out hb1); clear hb1)
    refine bodyPost_ret (v := .tuple #[.int .i64 0, .int .i64 r2]) (by simp [results, Tryz.f49, go_sem]) rfl ⟨rfl, B1.out⟩
  · rw [len_2 hc]
    have hz : (chkF cs).2 = 0 := Classical.byContradiction hc
    rw [hz] at C
    generalize (chkF cs).1 = r1 at *
    generalize addrN cs = ad at *
    generalize cs.length = n at *
    clear h0 hb hc hz
    go_enter Tryz.func49, Tryz.ntmps49
    go_wp2_with (first
      | (go_at_call 82; refine C.out.mono ?_; rintro e w1 ⟨rfl, hb1⟩; have B1 := Lib.hid (below_end B.out hb1); have c1 := (one_cell (keep_heap hb1 H0.out)).1; clear hb1)
      | (go_at_call 83; refine (US.out _ B1.out).mono ?_; rintro e w2 ⟨rfl, rfl⟩))
    refine bodyPost_ret (v := .tuple #[.int .i64 ad, .int .i64 0]) (by simp [results, Tryz.f49, go_sem]) rfl ⟨rfl, B1.out⟩
theorem inF_snoc (f t : Int) (l : List Int) {k : Nat} (hk : k < l.length) : inF f t (l.take (k + 1)) = if f ≤ l.getD k 0 ∧ l.getD k 0 < t then inF f t (l.take k) ++ [l.getD k 0] else inF f t (l.take k) := by
  unfold inF
  rw [take_snoc hk, filter_snoc (fun x => decide (f ≤ x) && decide (x < t))]
  by_cases h : f ≤ l.getD k 0 ∧ l.getD k 0 < t
  · rw [if_pos (by simp only [Bool.and_eq_true, decide_eq_true_eq]; exact h), if_pos h]
  · rw [if_neg (by simp only [Bool.and_eq_true, decide_eq_true_eq]; exact h), if_neg h]
set_option maxRecDepth 100000 in
set_option maxHeartbeats 1000000 in
theorem rrange23 (v : Value) (cs : List Int) (f t : Int) (w : World) (h : IAt w v cs) (hm : cs.length ≤ 100000) :
    Calls Tryz.prog 64 #[sv v, .int .i64 f, .int .i64 t] w fun e w' => LiAns w (rangeA cs f t) e w' := by
  have h0 := heap_alloc_new w (.cells #[v] 27)
  have hb := alloc_below w (.cells #[v] 27)
  have C := Lib.hid (rcheck14 v cs _ (h.below hb) hm)
  by_cases hc : (chkF cs).2 ≠ 0
  · rw [range_1 hc]
    obtain ⟨A, cap, rfl, -⟩ := h
    have c0 := (one_cell h0).1
    have B := Lib.hid hb
    unfold LiAns sv at *
    generalize chkF cs = r at *
    obtain ⟨r1, r2⟩ := r
    dsimp only at *
    have q : (r2 != 0) = true := by simpa using hc
    generalize cs.length = n at *
    clear h0 hb hc
    go_enter Tryz.func64, Tryz.ntmps64
    go_wp2_with (go_at_call 82; refine C.out.mono ?_; rintro e w1 ⟨rfl, hb1⟩; have B1 := Lib.hid (below_end B.out hb1); clear hb1)
    refine bodyPost_ret (v := .tuple #[.slice none 0 0, .int .i64 r2]) (by simp [results, Tryz.f64, go_sem]) rfl ⟨_, rfl, row_nil _ _, B1.out⟩
  · rw [range_2 hc]
    have hz : (chkF cs).2 = 0 := Classical.byContradiction hc
    have hT := (good_of_chk hz).tab
    rw [hz] at C
    have SO := Lib.hid (fun W (hb : Below w.heap.size w W) => rsorted44 v cs W (h.below hb) (fun c hc => (hT.rng c hc).2) hm)
    obtain ⟨A, cap, rfl, -⟩ := h
    have c0 := (one_cell h0).1
    have B := Lib.hid hb
    have H0 := Lib.hid h0
    have hsl := srt_len cs
    unfold LiAns sv at *
    generalize (chkF cs).1 = r1 at *
    generalize srt cs = L at *
    have IS := Lib.hid (fun k (hk : k < L.length) => inF_snoc f t L hk)
    have TL := Lib.hid (List.take_length (l := L))
    have IL := Lib.hid (fun k => (show (inF f t (L.take k)).length ≤ L.length from Nat.le_trans (List.length_filter_le _ _) (by rw [List.length_take]; omega)))
    obtain ⟨R, hR⟩ : ∃ R, inF f t L = R := ⟨_, rfl⟩
    rw [← TL.out] at hR
    rw [show inF f t L = R by rw [← TL.out]; exact hR]
    have RR := Lib.hid hR
    obtain ⟨m, hm2⟩ : ∃ m, L.length = m := ⟨_, rfl⟩
    have HM := Lib.hid hm2
    rw [hm2] at hsl IS IL TL RR
    generalize cs.length = n at *
    clear h0 hb hc hz hT hm2 hR
    go_enter Tryz.func64, Tryz.ntmps64
    go_upto_region 7 with (first
      | (go_at_call 82; refine C.out.mono ?_; rintro e w1 ⟨rfl, hb1⟩; have B1 := Lib.hid (below_end B.out hb1); have c1 := (one_cell (keep_heap hb1 H0.out)).1; clear hb1)
      | (go_at_call 95; refine (SO.out _ B1.out).mono ?_; rintro e w2 ⟨u, rfl, hr, hb2⟩; have I2 := Lib.hid hr.iat; have B2 := Lib.hid (below_end B1.out hb2); obtain ⟨A2, c2, rfl⟩ := own_form hr; clear hr hb2))
    rw [HM.out]
    have VX := Lib.hid (fun X (hx : Below w2.heap.size w2 X) k (hk : k < m) => (show ∃ b off, A2 = some ⟨b, off, none⟩ ∧ X.cell? ⟨b, off + k, none⟩ = some (.int .i64 (L.getD k 0)) by
      obtain ⟨A1, cap', e, hc⟩ := I2.out.below hx
      cases e
      obtain ⟨b, off, h1, h2⟩ := hc (by rw [HM.out]; omega)
      exact ⟨b, off, h1, h2 k (by rw [HM.out]; omega)⟩))
    go_loopw [10, 12] (fun o i wr => ∃ k : Nat, k ≤ m ∧ i = .int .i64 k ∧ Hid (wr.ownsRow w2.heap.size 3 1 o (inF f t (L.take k)).length (ic (inF f t (L.take k)))) ∧ Hid (Below w2.heap.size w2 wr)) (fun _ i _ => m - (intOf i).toNat)
    case atStart => exact ⟨0, by omega, rfl, Lib.hid (World.ownsRow_nil _ _ _ _), Lib.hid (Below.refl _ _)⟩
    case round =>
      obtain ⟨k, hk, rfl, HO, HB⟩ := hrel
      by_cases hlt : k < m
      · have hlt' : (k : Int) < (m : Int) := by omega
        obtain ⟨b1, o1, rfl, ca⟩ := VX.out _ HB.out k hlt
        have ad1 : (⟨b1, o1, none⟩ : Addr).add k = ⟨b1, o1 + k, none⟩ := by unfold Addr.add; split <;> simp_all
        have HS := Lib.hid (IS.out k hlt)
        have hil := IL.out k
        have FIN := Lib.hid (show ∀ v5 W5, W5.ownsRow w2.heap.size 3 1 v5 (inF f t (L.take (k + 1))).length (ic (inF f t (L.take (k + 1)))) → Below w2.heap.size w2 W5 →
            (∃ k_1 : Nat, k_1 ≤ m ∧ Value.int .i64 ((k : Int) + 1) = .int .i64 k_1 ∧ Hid (W5.ownsRow w2.heap.size 3 1 v5 (inF f t (L.take k_1)).length (ic (inF f t (L.take k_1)))) ∧ Hid (Below w2.heap.size w2 W5)) ∧ m - (intOf (.int .i64 ((k : Int) + 1))).toNat < m - (intOf (.int .i64 (k : Int))).toNat from by
          intro v5 W5 h1 h2
          refine ⟨⟨k + 1, by omega, by simp, Lib.hid h1, Lib.hid h2⟩, ?_⟩
          show m - ((k : Int) + 1).toNat < m - ((k : Int)).toNat
          omega)
        generalize L.getD k 0 = x at *
        by_cases h1 : f ≤ x
        rotate_left
        · have q1 : decide (f ≤ x) = false := decide_eq_false h1
          have e := Lib.hid HS.out
          rw [if_neg (fun h => h1 h.1)] at e
          clear HS h1
          go_wp2
          exact FIN.out _ _ (by rw [e.out]; exact HO.out) HB.out
        have q1 : decide (f ≤ x) = true := decide_eq_true h1
        by_cases h2 : x < t
        rotate_left
        · have q2 : decide (x < t) = false := decide_eq_false h2
          have e := Lib.hid HS.out
          rw [if_neg (fun h => h2 h.2)] at e
          clear HS h1 h2
          go_wp2
          exact FIN.out _ _ (by rw [e.out]; exact HO.out) HB.out
        have q2 : decide (x < t) = true := decide_eq_true h2
        have e := Lib.hid HS.out
        rw [if_pos ⟨h1, h2⟩] at e
        clear HS h1 h2
        go_wp2_with (at_builtin; refine push_int HO.out HB.out x rfl _ _ rfl rfl _ rfl rfl rfl (by omega) ?_; intro v5 W5 ho5 hb5 hs5)
        exact FIN.out _ _ (by rw [e.out]; exact ho5) hb5
      · have hlt' : ¬ (k : Int) < (m : Int) := by omega
        obtain rfl : k = m := by omega
        rw [RR.out] at HO
        obtain ⟨A', c', rfl⟩ := own_form HO.out
        clear IS VX
        go_wp2
        refine bodyPost_ret (v := .tuple #[.slice A' R.length c', .int .i64 0]) (by simp [results, Tryz.f64, go_sem]) rfl ⟨_, rfl, own_mono HO.out B2.out.size, below_end B2.out HB.out⟩
set_option maxRecDepth 100000 in
set_option maxHeartbeats 1000000 in
theorem rlist21 (v : Value) (cs : List Int) (w : World) (h : IAt w v cs) (hm : cs.length ≤ 100000) :
    Calls Tryz.prog 58 #[sv v] w fun e w' => LiAns w (listA cs) e w' := by
  have h0 := heap_alloc_new w (.cells #[v] 27)
  have hb := alloc_below w (.cells #[v] 27)
  have hs : (w.alloc (.cells #[v] 27)).heap.size = w.heap.size + 1 := by simp
  have C := Lib.hid ((rrange23 v cs 1 1601 _ (h.below hb) hm).mono fun e w' ⟨u, h1, h2, h3⟩ => (show ∃ u, e = Ending.returned (.tuple #[u, .int .i64 (listA cs).2]) ∧ Row w w' u (listA cs).1 ∧ Below w.heap.size w w' from ⟨u, h1, row_mono h2 (by omega), below_end hb h3⟩))
  obtain ⟨A, cap, rfl, -⟩ := h
  have c0 := (one_cell h0).1
  clear h0 hb hs
  unfold LiAns sv at *
  generalize listA cs = R at *
  obtain ⟨L, r⟩ := R
  dsimp only at *
  go_enter Tryz.func58, Tryz.ntmps58
  go_wp2_with (go_at_call 64; refine C.out.mono ?_; rintro e w1 ⟨u, rfl, ho, hb1⟩; have B1 := Lib.hid hb1; have O1 := Lib.hid ho; obtain ⟨A', c', rfl⟩ := own_form ho; clear hb1 ho)
  refine bodyPost_ret (v := .tuple #[.slice A' L.length c', .int .i64 r]) (by simp [results, Tryz.f58, go_sem]) rfl ⟨_, rfl, O1.out, B1.out⟩
end YtjkphacidpongaaGreat
end Go.Proofs
