/- The reference's sorted. -/
import Derived.Test.YtjkphacidpongaaGreatG15
namespace Go.Proofs
namespace YtjkphacidpongaaGreat
open Go.RowKit

theorem info4 : (Tryz.prog.info? 4).map (fun i => (i.zero, i.size, i.bytes)) = some (some (.bool false), 1, 1) := by kernel_rfl
theorem mk_bool (W : World) : (Instr.makeSlice 145 (.int .i64 1601) (.int .i64 1601)).run Tryz.prog W = .ok (.slice (some ⟨W.heap.size, 0, none⟩) 1601 1601) (W.alloc (.cells (metC []) 4)) := by
  obtain ⟨i0, hi, hz0, hz1, hz2⟩ := info_parts info4
  have h := run_makeSlice (P := Tryz.prog) W 145 4 i0 (.bool false) Tryz.underlying145 hi hz0 .i64 .i64 1601 1601 (by omega) (by omega) (by rw [hz1]; decide) (by rw [hz2]; decide) (by omega)
  rw [hz1] at h
  have e : ∀ n : Nat, madeCells (Value.bool false).cells (n * 1) = metG n [] := fun n => by
    rw [← metG_nil]
    apply Array.toList_inj.1
    rw [show (Value.bool false).cells = #[.bool false] from rfl, toList_madeCells_one, Nat.mul_one, Array.toList_replicate]
  have e2 : madeCells (Value.bool false).cells ((1601 : Int).toNat * 1) = metC [] := e 1601
  rw [e2] at h
  exact h
theorem nums_len : nums.length = 1600 := by unfold nums; rw [List.length_map, List.length_range]
theorem nums_get {k : Nat} (h : k < 1600) : nums.getD k 0 = (k : Int) + 1 := by
  rw [← getElem_getD (by rw [nums_len]; exact h)]
  unfold nums
  rw [List.getElem_map, List.getElem_range]
/-- the first k numbers that a table has -/
def srtU (cs : List Int) (k : Nat) : List Int := (nums.take k).filter fun x => decide (x ∈ cs)
theorem srtU_all (cs : List Int) : srtU cs 1600 = srt cs := by unfold srtU srt; rw [← nums_len, List.take_length]
theorem srtU_len (cs : List Int) (k : Nat) : (srtU cs k).length ≤ 1600 := by
  refine Nat.le_trans (List.length_filter_le _ _) ?_
  rw [List.length_take, nums_len]; omega
theorem srtU_snoc (cs : List Int) {k : Nat} (h : k < 1600) : srtU cs (k + 1) = if (k : Int) + 1 ∈ cs then srtU cs k ++ [(k : Int) + 1] else srtU cs k := by
  unfold srtU
  rw [take_snoc (by rw [nums_len]; exact h), nums_get h, filter_snoc (fun x => decide (x ∈ cs))]
  by_cases h2 : (k : Int) + 1 ∈ cs
  · rw [if_pos (decide_eq_true h2), if_pos h2]
  · rw [if_neg (by rw [decide_eq_false h2]; simp), if_neg h2]
theorem srtU_zero (cs : List Int) : srtU cs 0 = [] := rfl
set_option maxRecDepth 100000 in
set_option maxHeartbeats 1000000 in
theorem rsorted44 (v : Value) (cs : List Int) (w : World) (h : IAt w v cs) (hr : ∀ c ∈ cs, c ≤ 1600) (hm : cs.length ≤ 100000) :
    Calls Tryz.prog 95 #[v] w fun e w' => ∃ u, e = .returned u ∧ Row w w' u (srt cs) ∧ Below w.heap.size w w' := by
  have hmk := mk_bool w
  have hb0 := alloc_below w (.cells (metC []) 4)
  have hg0 := heap_alloc_new w (.cells (metC []) 4)
  have hs0 : (w.alloc (.cells (metC []) 4)).heap.size = w.heap.size + 1 := by simp
  have RG := Lib.hid (fun i (hi : i < cs.length) => hr _ (getD_mem hi))
  have TS := Lib.hid (fun k (hk : k < cs.length) => take_snoc hk)
  have TL := Lib.hid (List.take_length (l := cs))
  have SA := Lib.hid (srtU_all cs)
  have SS := Lib.hid (fun k (hk : k < 1600) => srtU_snoc cs hk)
  have SN := Lib.hid (srtU_len cs)
  have S0 := Lib.hid (srtU_zero cs)
  obtain ⟨A, cap, rfl, hA⟩ := h
  have HA := Lib.hid hA
  obtain ⟨R, hR⟩ : ∃ R, srt cs = R := ⟨_, rfl⟩
  rw [hR] at SA ⊢
  obtain ⟨m, hm2⟩ : ∃ m, cs.length = m := ⟨_, rfl⟩
  rw [hm2] at hm HA RG TS TL ⊢
  clear hA hm2 hR hr
  go_enter Tryz.func95, Tryz.ntmps95
  go_upto_region 2 with fail
  generalize w.alloc (.cells (metC []) 4) = W0 at *
  have H0 := Lib.hid hg0
  have B0 := Lib.hid hb0
  have Z0 := Lib.hid hs0
  clear hg0 hb0 hs0 hmk
  go_wp2
  go_loopw [4] (fun i wr => ∃ k : Nat, k ≤ m ∧ i = .int .i64 k ∧ Hid (wr.heap[w.heap.size]? = some (.cells (metC (cs.take k)) 4 (0, 0))) ∧ Hid (Below w.heap.size w wr)) (fun i _ => m - (intOf i).toNat)
  case atStart => exact ⟨0, by omega, rfl, H0, B0⟩
  case round =>
    obtain ⟨k, hk, rfl, HG, HB⟩ := hrel
    by_cases hlt : k < m
    · have hlt' : (k : Int) < (m : Int) := by omega
      obtain ⟨b1, o1, rfl, ca⟩ := HA.out (by omega)
      have ca' := (HB.out.cell (cell_lt (ca k hlt))).trans (ca k hlt)
      have ad1 : (⟨b1, o1, none⟩ : Addr).add k = ⟨b1, o1 + k, none⟩ := by unfold Addr.add; split <;> simp_all
      have HS := Lib.hid (TS.out k hlt)
      have rg := RG.out k hlt
      clear ca
      generalize cs.getD k 0 = x at *
      by_cases h3 : 0 < x
      · have q : decide (0 < x) = true := decide_eq_true h3
        have c1 : wr.cell? ⟨w.heap.size, x.toNat, none⟩ = some (.bool (decide (0 < x.toNat ∧ ((x.toNat : Nat) : Int) ∈ cs.take k))) := by rw [cell_of_row _ _ _ _ _ _ HG.out, met_get _ (by omega)]
        have f1 : wr.frozen? ⟨w.heap.size, x.toNat, none⟩ = false := frozen_of_row _ _ _ _ _ HG.out
        have ad2 : (⟨w.heap.size, 0, none⟩ : Addr).add x.toNat = ⟨w.heap.size, x.toNat, none⟩ := by simp [Addr.add]; exact h3
        have G := Lib.hid (show (wr.setCell ⟨w.heap.size, x.toNat, none⟩ (.bool true)).heap[w.heap.size]? = some (.cells (metC (cs.take (k + 1))) 4 (0, 0)) by rw [set_row HG.out, met_set _ (by omega), HS.out])
        have B := Lib.hid (HB.out.setCell (p := ⟨w.heap.size, x.toNat, none⟩) (Nat.le_refl _) (.bool true))
        generalize decide (0 < x.toNat ∧ ((x.toNat : Nat) : Int) ∈ cs.take k) = old at *
        have hx16 : x < 1601 := by omega
        go_wp2
        refine ⟨⟨k + 1, by omega, by simp, G, B⟩, ?_⟩
        show m - ((k : Int) + 1).toNat < m - ((k : Int)).toNat
        omega
      · have q : decide (0 < x) = false := decide_eq_false h3
        have G := Lib.hid (show wr.heap[w.heap.size]? = some (.cells (metC (cs.take (k + 1))) 4 (0, 0)) by rw [HS.out, met_skip _ (by omega)]; exact HG.out)
        go_wp2
        refine ⟨⟨k + 1, by omega, by simp, G, HB⟩, ?_⟩
        show m - ((k : Int) + 1).toNat < m - ((k : Int)).toNat
        omega
    · have hlt' : ¬ (k : Int) < (m : Int) := by omega
      obtain rfl : k = m := by omega
      rw [TL.out] at HG
      clear TS RG
      obtain ⟨W1, hW1⟩ : ∃ X, X = wr := ⟨_, rfl⟩
      subst hW1
      go_wp2
      go_loopw [5, 6] (fun o i wq => ∃ j : Nat, j ≤ 1600 ∧ i = .int .i64 ((j : Int) + 1) ∧ Hid (wq.ownsRow W1.heap.size 3 1 o (srtU cs j).length (ic (srtU cs j))) ∧ Hid (Below W1.heap.size W1 wq)) (fun _ i _ => 1700 - (intOf i).toNat)
      case atStart => exact ⟨0, by omega, rfl, Lib.hid (by rw [S0.out]; exact World.ownsRow_nil _ _ _ _), Lib.hid (Below.refl _ _)⟩
      case round =>
        obtain ⟨j, hj, rfl, HO, HQ⟩ := hrel
        by_cases hjl : j < 1600
        · have q : decide ((j : Int) + 1 ≤ 1600) = true := decide_eq_true (by omega)
          have q' : (j : Int) + 1 ≤ 1600 := by omega
          have e1 : ((j : Int) + 1).toNat = j + 1 := by omega
          have c1 : W1.cell? ⟨w.heap.size, j + 1, none⟩ = some (.bool (decide ((j : Int) + 1 ∈ cs))) := by
            rw [cell_of_row _ _ _ _ _ _ HG.out, met_get _ (by omega)]
            congr 2
            rw [Bool.eq_iff_iff]
            simp only [decide_eq_true_eq]
            rw [show ((j + 1 : Nat) : Int) = (j : Int) + 1 by omega]
            exact ⟨fun h => h.2, fun h => ⟨by omega, h⟩⟩
          have c2 := keep_cell HQ.out c1
          have ad2 : (⟨w.heap.size, 0, none⟩ : Addr).add (j + 1) = ⟨w.heap.size, j + 1, none⟩ := by simp [Addr.add]
          have HS := Lib.hid (SS.out j hjl)
          have hsl := SN.out j
          have hw1 : IntKind.i64.wrap ((j : Int) + 1 + 1) = (j : Int) + 1 + 1 := IntWalk.i64_in _ (by omega)
          have FIN := Lib.hid (show ∀ v5 W5, W5.ownsRow W1.heap.size 3 1 v5 (srtU cs (j + 1)).length (ic (srtU cs (j + 1))) → Below W1.heap.size W1 W5 →
              (∃ j_1 : Nat, j_1 ≤ 1600 ∧ Value.int .i64 ((j : Int) + 1 + 1) = .int .i64 ((j_1 : Int) + 1) ∧ Hid (W5.ownsRow W1.heap.size 3 1 v5 (srtU cs j_1).length (ic (srtU cs j_1))) ∧ Hid (Below W1.heap.size W1 W5)) ∧ 1700 - (intOf (.int .i64 ((j : Int) + 1 + 1))).toNat < 1700 - (intOf (.int .i64 ((j : Int) + 1))).toNat from by
            intro v5 W5 h1 h2
            refine ⟨⟨j + 1, by omega, by simp, Lib.hid h1, Lib.hid h2⟩, ?_⟩
            show 1700 - ((j : Int) + 1 + 1).toNat < 1700 - ((j : Int) + 1).toNat
            omega)
          by_cases hin : (j : Int) + 1 ∈ cs
          · have e := Lib.hid HS.out
            rw [if_pos hin] at e
            rw [decide_eq_true hin] at c2 c1
            clear hin HS c1 q
            go_wp2_with (at_builtin; refine push_int HO.out HQ.out ((j : Int) + 1) rfl _ _ rfl rfl _ rfl rfl rfl (by omega) ?_; intro v5 W5 ho5 hb5 hs5)
            exact FIN.out _ _ (by rw [e.out]; exact ho5) hb5
          · have e := Lib.hid HS.out
            rw [if_neg hin] at e
            rw [decide_eq_false hin] at c2 c1
            clear hin HS c1 q
            go_wp2
            exact FIN.out _ _ (by rw [e.out]; exact HO.out) HQ.out
        · have q : decide ((j : Int) + 1 ≤ 1600) = false := decide_eq_false (by omega)
          have q' : ¬ (j : Int) + 1 ≤ 1600 := by omega
          obtain rfl : j = 1600 := by omega
          rw [SA.out] at HO
          obtain ⟨A', c', rfl⟩ := own_form HO.out
          clear SS SN
          go_wp2
          refine bodyPost_ret (v := .slice A' R.length c') (by simp [results, Tryz.f95, go_sem]) rfl ⟨_, rfl, own_mono HO.out HB.out.size, below_end HB.out HQ.out⟩
end YtjkphacidpongaaGreat
end Go.Proofs
/- The reference's add. -/
namespace Go.Proofs
namespace YtjkphacidpongaaGreat
open Go.RowKit

theorem Row.iat {w W : World} {v : Value} {zs : List Int} (h : Row w W v zs) : IAt W v zs := IAt.of_own h
theorem Row.below {w W W' : World} {v : Value} {zs : List Int} (h : Row w W v zs) (hb : Below W.heap.size W W') : Row w W' v zs := own_below h hb
theorem Roomy.tabs {l c : List Int} (h : Roomy c l) (k : Nat) : Tab ((l.take k).foldl putF c) := (h.upto k).all.1
theorem Roomy.lens {l c : List Int} (h : Roomy c l) (k : Nat) : ((l.take k).foldl putF c).length = c.length := (h.upto k).all.2.1
set_option maxRecDepth 100000 in
set_option maxHeartbeats 2000000 in
theorem radd49_calm (v : Value) (cs : List Int) (a : Int) (w : World) (h : IAt w v cs) (hs : StepOk cs a) :
    Calls Tryz.prog 75 #[v, .int .i64 a] w fun e w' => ∃ u, e = .returned u ∧ Row w w' u (putF cs a) ∧ Below w.heap.size w w' := by
  have hm := hs.tab.hi
  have P := Lib.hid (rput62 v cs a w h hs.zero (by omega) hs.is)
  have US := Lib.hid (fun W u (hu : IAt W u (putF cs a)) => rused39 u (putF cs a) W hu (by rw [put_len]; omega))
  have PN := Lib.hid (put_len cs a)
  have hc := hs.calm
  simp only [crowd, decide_eq_false_iff_not, put_len] at hc
  have hu := used_le (putF cs a)
  have hu2 := addr_le (putF cs a)
  obtain ⟨A, cap, rfl, -⟩ := h
  generalize putF cs a = D at *
  generalize usedN D = p at *
  generalize addrN D = q at *
  rw [PN.out] at hu hu2
  generalize cs.length = n at *
  have q0 : decide (4 * (p : Int) ≤ 3 * (n : Int)) = true := decide_eq_true (by omega)
  have q0' : 4 * (p : Int) ≤ 3 * (n : Int) := by omega
  clear hs hc
  go_enter Tryz.func75, Tryz.ntmps75
  go_wp2_with (first
    | (go_at_call 98; refine P.out.mono ?_; rintro e w1 ⟨u, rfl, hr, hb1⟩; have R1 := Lib.hid hr; have B1 := Lib.hid hb1; have U1 := Lib.hid (US.out _ _ hr.iat); obtain ⟨A', c', rfl⟩ := own_form hr; rw [PN.out] at U1; try rw [PN.out]; clear hr hb1)
    | (go_at_call 83; refine U1.out.mono ?_; rintro e w2 ⟨rfl, rfl⟩))
  refine bodyPost_ret (v := .slice A' n c') (by simp [results, Tryz.f75, go_sem]) rfl ⟨_, rfl, ?_, B1.out⟩
  have := R1.out
  unfold Row at this ⊢
  rw [PN.out] at this ⊢
  exact this
end YtjkphacidpongaaGreat
end Go.Proofs
