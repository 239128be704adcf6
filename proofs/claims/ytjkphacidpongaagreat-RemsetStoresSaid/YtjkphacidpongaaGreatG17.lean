/- The reference's add, where the table is built anew. -/
import Derived.Test.YtjkphacidpongaaGreatG16
namespace Go.Proofs
namespace YtjkphacidpongaaGreat
open Go.RowKit

set_option maxRecDepth 100000 in
set_option maxHeartbeats 400000 in
theorem radd49_full (v : Value) (cs : List Int) (a : Int) (w : World) (h : IAt w v cs) (hG : Good cs) (ha : 1 ≤ a ∧ a ≤ 1600) (hn : a ∉ cs) (hc : crowd (putF cs a) = true) :
    Calls Tryz.prog 75 #[v, .int .i64 a] w fun e w' => ∃ u, e = .returned u ∧ Row w w' u (anewF (putF cs a)) ∧ Below w.heap.size w w' := by
  have hm := hG.tab.hi
  have hl := hG.tab.lo
  obtain ⟨hr, hp2, hT⟩ := anew_room hG ha hn
  have hnn := pow_lo hp2
  have P := Lib.hid (rput62 v cs a w h hG.zero (by omega) ha)
  have US := Lib.hid (fun W u (hu : IAt W u (putF cs a)) => rused39 u (putF cs a) W hu (by rw [put_len]; omega))
  have SO := Lib.hid (fun W u (hu : IAt W u (putF cs a)) => rsorted44 u (putF cs a) W hu (fun c hc => (hT.rng c hc).2) (by rw [put_len]; omega))
  have PN := Lib.hid (put_len cs a)
  simp only [crowd, decide_eq_true_eq, put_len] at hc
  have hu := used_le (putF cs a)
  have hu2 := addr_le (putF cs a)
  have hsl := srt_len (putF cs a)
  have EF := Lib.hid (anewF_eq (putF cs a))
  have eN := anewN_eq (putF cs a)
  rw [hT.srt_addr, put_len] at eN
  obtain ⟨A, cap, rfl, -⟩ := h
  generalize anewF (putF cs a) = D at *
  have MK := Lib.hid (fun X => mk_int Tryz.underlying25 (anewN (putF cs a)) (by omega) X)
  generalize anewN (putF cs a) = N at *
  have PT := Lib.hid (fun k (hk : k < (srt (putF cs a)).length) W u (hx : IAt W u (((srt (putF cs a)).take k).foldl putF (List.replicate N 0))) => rput62 u _ ((srt (putF cs a)).getD k 0) W hx (hr.at_ k hk).zero (by rw [hr.lens]; simp; omega) (by have := (hr.at_ k hk).is; rwa [getElem_getD hk] at this))
  have LE := Lib.hid (fun k => (hr.lens k).trans (List.length_replicate (n := N) (a := (0 : Int))))
  have SN := Lib.hid (fun k (hk : k < (srt (putF cs a)).length) => foldl_take_snoc putF (srt (putF cs a)) (List.replicate N 0) hk)
  have TL := Lib.hid (List.take_length (l := srt (putF cs a)))
  generalize srt (putF cs a) = L at *
  clear hr hT hG hn hp2
  generalize putF cs a = E at *
  generalize usedN E = p at *
  generalize addrN E = q at *
  rw [PN.out] at hu hu2
  obtain ⟨n, hn⟩ : ∃ n, cs.length = n := ⟨_, rfl⟩
  rw [hn] at hm hl hc hu hu2 eN PN
  have q0 : decide (4 * (p : Int) ≤ 3 * (n : Int)) = false := decide_eq_false (by omega)
  have q0' : ¬ 4 * (p : Int) ≤ 3 * (n : Int) := by omega
  obtain ⟨m, hm2⟩ : ∃ m, L.length = m := ⟨_, rfl⟩
  have HM := Lib.hid hm2
  rw [hm2] at hsl PT SN TL
  have hw8 : IntKind.i64.wrap (8 * (q : Int)) = 8 * (q : Int) := IntWalk.i64_in _ (by omega)
  have hw3 : IntKind.i64.wrap (3 * (n : Int)) = 3 * (n : Int) := IntWalk.i64_in _ (by omega)
  clear hc hn hm2
  by_cases hb : 3 * n < 8 * q
  · have e2 : (2 * (n : Int)) = (N : Int) := by rw [if_pos hb] at eN; omega
    have hmk := fun X => MK.out X
    rw [← e2] at hmk
    unfold tv at hmk
    have qb : decide (3 * (n : Int) < 8 * (q : Int)) = true := decide_eq_true (by omega)
    have qb' : 3 * (n : Int) < 8 * (q : Int) := by omega
    have hw2 : IntKind.i64.wrap (2 * (n : Int)) = 2 * (n : Int) := IntWalk.i64_in _ (by omega)
    clear e2 hb eN
    go_enter Tryz.func75, Tryz.ntmps75
    go_upto_region 10 with (first
      | (go_at_call 98; refine P.out.mono ?_; rintro e w1 ⟨u, rfl, hr, hb1⟩; have R1 := Lib.hid hr; have B1 := Lib.hid hb1; have U1 := Lib.hid (US.out _ _ hr.iat); obtain ⟨A', c', rfl⟩ := own_form hr; rw [PN.out] at U1; try rw [PN.out]; clear hr hb1)
      | (go_at_call 83; refine U1.out.mono ?_; rintro e w2 ⟨rfl, rfl⟩; have b3 := alloc_below w1 (.cells (ic (List.replicate N 0)).toArray 3); have HR3 := Lib.hid (TAt.row (w := w) (made_at w1 (List.replicate N 0)) B1.out.size (by simp; omega)); have SC := Lib.hid (SO.out _ _ (R1.out.iat.below b3)); rw [PN.out] at SC; have B3 := Lib.hid (below_end B1.out b3); clear b3)
      | (go_at_call 95; refine SC.out.mono ?_; rintro e w4 ⟨x, rfl, ho, hb4⟩; have R4 := Lib.hid (HR3.out.below hb4); have B4 := Lib.hid (below_end B3.out hb4); have O4 := Lib.hid ho.iat; obtain ⟨A4, c4, rfl⟩ := own_form ho; clear hb4 ho))
    rw [HM.out]
    have R0 := Lib.hid (show Row w w4 (.slice (some ⟨w1.heap.size, 0, none⟩) N N) ((L.take 0).foldl putF (List.replicate N 0)) by have := R4.out; unfold tv at this; rwa [List.length_replicate] at this)
    have VX := Lib.hid (fun X (hx : Below w4.heap.size w4 X) k (hk : k < m) => (show ∃ b off, A4 = some ⟨b, off, none⟩ ∧ X.cell? ⟨b, off + k, none⟩ = some (.int .i64 (L.getD k 0)) by
      obtain ⟨A1, cap', e, hc⟩ := O4.out.below hx
      cases e
      obtain ⟨b, off, h1, h2⟩ := hc (by rw [HM.out]; omega)
      exact ⟨b, off, h1, h2 k (by rw [HM.out]; omega)⟩))
    clear hmk
    go_wp2
    go_loopw [9, 11] (fun o i wr => ∃ k : Nat, k ≤ m ∧ i = .int .i64 k ∧ Hid (Row w wr o ((L.take k).foldl putF (List.replicate N 0))) ∧ Hid (Below w4.heap.size w4 wr)) (fun _ i _ => m - (intOf i).toNat)
    case atStart => exact ⟨0, by omega, rfl, R0, Lib.hid (Below.refl _ _)⟩
    case round =>
      obtain ⟨k, hk, rfl, HT, HG⟩ := hrel
      by_cases hlt : k < m
      · have hlt' : (k : Int) < (m : Int) := by omega
        obtain ⟨b1, o1, rfl, ca⟩ := VX.out _ HG.out k hlt
        have ad1 : (⟨b1, o1, none⟩ : Addr).add k = ⟨b1, o1 + k, none⟩ := by unfold Addr.add; split <;> simp_all
        have CD := Lib.hid (PT.out k hlt wr _ HT.out.iat)
        have SK := Lib.hid (SN.out k hlt)
        obtain ⟨A5, c5, e5⟩ := own_form HT.out
        subst e5
        generalize L.getD k 0 = x at *
        go_wp2_with (go_at_call 98; refine CD.out.mono ?_; rintro e w5 ⟨u, rfl, hr, hb5⟩; have R5 := Lib.hid (show Row w w5 u _ from row_mono hr (Nat.le_trans B4.out.size HG.out.size)); have B5 := Lib.hid (below_end HG.out hb5); obtain ⟨A6, c6, rfl⟩ := own_form hr; clear hr hb5)
        refine ⟨⟨k + 1, by omega, by simp, Lib.hid (by rw [SK.out]; exact R5.out), B5⟩, ?_⟩
        show m - ((k : Int) + 1).toNat < m - ((k : Int)).toNat
        omega
      · have hlt' : ¬ (k : Int) < (m : Int) := by omega
        obtain rfl : k = m := by omega
        have R6 := Lib.hid (show Row w wr _ D by have := HT.out; rwa [TL.out, ← EF.out] at this)
        obtain ⟨A5, c5, rfl⟩ := own_form HT.out
        generalize ((L.take k).foldl putF (List.replicate N 0)).length = z at *
        clear HT PT VX SN
        go_wp2
        refine bodyPost_ret (v := .slice A5 z c5) (by simp [results, Tryz.f75, go_sem]) rfl ⟨_, rfl, R6.out, below_end B4.out HG.out⟩
  · have e2 : (n : Int) = (N : Int) := by rw [if_neg hb] at eN; omega
    have hmk := fun X => MK.out X
    rw [← e2] at hmk
    unfold tv at hmk
    have qb : decide (3 * (n : Int) < 8 * (q : Int)) = false := decide_eq_false (by omega)
    have qb' : ¬ 3 * (n : Int) < 8 * (q : Int) := by omega
    clear e2 hb eN
    go_enter Tryz.func75, Tryz.ntmps75
    go_upto_region 10 with (first
      | (go_at_call 98; refine P.out.mono ?_; rintro e w1 ⟨u, rfl, hr, hb1⟩; have R1 := Lib.hid hr; have B1 := Lib.hid hb1; have U1 := Lib.hid (US.out _ _ hr.iat); obtain ⟨A', c', rfl⟩ := own_form hr; rw [PN.out] at U1; try rw [PN.out]; clear hr hb1)
      | (go_at_call 83; refine U1.out.mono ?_; rintro e w2 ⟨rfl, rfl⟩; have b3 := alloc_below w1 (.cells (ic (List.replicate N 0)).toArray 3); have HR3 := Lib.hid (TAt.row (w := w) (made_at w1 (List.replicate N 0)) B1.out.size (by simp; omega)); have SC := Lib.hid (SO.out _ _ (R1.out.iat.below b3)); rw [PN.out] at SC; have B3 := Lib.hid (below_end B1.out b3); clear b3)
      | (go_at_call 95; refine SC.out.mono ?_; rintro e w4 ⟨x, rfl, ho, hb4⟩; have R4 := Lib.hid (HR3.out.below hb4); have B4 := Lib.hid (below_end B3.out hb4); have O4 := Lib.hid ho.iat; obtain ⟨A4, c4, rfl⟩ := own_form ho; clear hb4 ho))
    rw [HM.out]
    have R0 := Lib.hid (show Row w w4 (.slice (some ⟨w1.heap.size, 0, none⟩) N N) ((L.take 0).foldl putF (List.replicate N 0)) by have := R4.out; unfold tv at this; rwa [List.length_replicate] at this)
    have VX := Lib.hid (fun X (hx : Below w4.heap.size w4 X) k (hk : k < m) => (show ∃ b off, A4 = some ⟨b, off, none⟩ ∧ X.cell? ⟨b, off + k, none⟩ = some (.int .i64 (L.getD k 0)) by
      obtain ⟨A1, cap', e, hc⟩ := O4.out.below hx
      cases e
      obtain ⟨b, off, h1, h2⟩ := hc (by rw [HM.out]; omega)
      exact ⟨b, off, h1, h2 k (by rw [HM.out]; omega)⟩))
    clear hmk
    go_wp2
    go_loopw [9, 11] (fun o i wr => ∃ k : Nat, k ≤ m ∧ i = .int .i64 k ∧ Hid (Row w wr o ((L.take k).foldl putF (List.replicate N 0))) ∧ Hid (Below w4.heap.size w4 wr)) (fun _ i _ => m - (intOf i).toNat)
    case atStart => exact ⟨0, by omega, rfl, R0, Lib.hid (Below.refl _ _)⟩
    case round =>
      obtain ⟨k, hk, rfl, HT, HG⟩ := hrel
      by_cases hlt : k < m
      · have hlt' : (k : Int) < (m : Int) := by omega
        obtain ⟨b1, o1, rfl, ca⟩ := VX.out _ HG.out k hlt
        have ad1 : (⟨b1, o1, none⟩ : Addr).add k = ⟨b1, o1 + k, none⟩ := by unfold Addr.add; split <;> simp_all
        have CD := Lib.hid (PT.out k hlt wr _ HT.out.iat)
        have SK := Lib.hid (SN.out k hlt)
        obtain ⟨A5, c5, e5⟩ := own_form HT.out
        subst e5
        generalize L.getD k 0 = x at *
        go_wp2_with (go_at_call 98; refine CD.out.mono ?_; rintro e w5 ⟨u, rfl, hr, hb5⟩; have R5 := Lib.hid (show Row w w5 u _ from row_mono hr (Nat.le_trans B4.out.size HG.out.size)); have B5 := Lib.hid (below_end HG.out hb5); obtain ⟨A6, c6, rfl⟩ := own_form hr; clear hr hb5)
        refine ⟨⟨k + 1, by omega, by simp, Lib.hid (by rw [SK.out]; exact R5.out), B5⟩, ?_⟩
        show m - ((k : Int) + 1).toNat < m - ((k : Int)).toNat
        omega
      · have hlt' : ¬ (k : Int) < (m : Int) := by omega
        obtain rfl : k = m := by omega
        have R6 := Lib.hid (show Row w wr _ D by have := HT.out; rwa [TL.out, ← EF.out] at this)
        obtain ⟨A5, c5, rfl⟩ := own_form HT.out
        generalize ((L.take k).foldl putF (List.replicate N 0)).length = z at *
        clear HT PT VX SN
        go_wp2
        refine bodyPost_ret (v := .slice A5 z c5) (by simp [results, Tryz.f75, go_sem]) rfl ⟨_, rfl, R6.out, below_end B4.out HG.out⟩
end YtjkphacidpongaaGreat
end Go.Proofs
/- The reference's add whole, and Check. -/
namespace Go.Proofs
namespace YtjkphacidpongaaGreat
open Go.RowKit

theorem radd49 (v : Value) (cs : List Int) (a : Int) (w : World) (h : IAt w v cs) (hG : Good cs) (ha : 1 ≤ a ∧ a ≤ 1600) (hn : a ∉ cs) :
    Calls Tryz.prog 75 #[v, .int .i64 a] w fun e w' => ∃ u, e = .returned u ∧ Row w w' u (addF cs a) ∧ Below w.heap.size w w' := by
  have hh := (hG.tab.hasF hG.zero (by omega)).2 hn
  cases hc : crowd (putF cs a) with
  | false =>
    have hs : StepOk cs a := ⟨hG.tab, hG.zero, ha, hn, hc⟩
    rw [hs.add]
    exact radd49_calm v cs a w h hs
  | true =>
    have e0 : addF cs a = anewF (putF cs a) := by unfold addF; rw [hh, if_neg (by simp), if_pos hc]
    rw [e0]
    exact radd49_full v cs a w h hG ha hn hc
/-- the doubling loop ends at a power that is the length just if the length is one -/
theorem pow_end {n len : Nat} (h : isPow n = true) (h1 : n = 8 ∨ n < 2 * len) (h2 : len < n) : isPow len = false := by
  cases hp : isPow len with
  | false => rfl
  | true =>
    exfalso
    simp only [isPow, List.contains_eq_mem, List.mem_cons, List.not_mem_nil, or_false, decide_eq_true_eq] at h hp
    rcases h with rfl | rfl | rfl | rfl | rfl | rfl | rfl | rfl | rfl | rfl | rfl <;> omega
theorem pow_small {n : Nat} (h : isPow n = true) (h2 : n < 8192) : isPow (n * 2) = true := by
  simp only [isPow, List.contains_eq_mem, List.mem_cons, List.not_mem_nil, or_false, decide_eq_true_eq] at h ⊢
  omega
theorem atF_neg {cs : List Int} {a : Int} : decide (atF cs a < 0) = !hasB cs a := by
  unfold atF
  cases hasB cs a with
  | true => rw [if_pos rfl]; simp
  | false => rw [if_neg (by simp)]; rfl
theorem atF_pos {cs : List Int} {a : Int} : decide (0 ≤ atF cs a) = hasB cs a := by
  unfold atF
  cases hasB cs a with
  | true => rw [if_pos rfl]; simp
  | false => rw [if_neg (by simp)]; rfl
theorem chk_pow {cs : List Int} (h : ¬ 8192 < cs.length) (h2 : isPow cs.length = false) : chkF cs = (-1, 6) := by unfold chkF; rw [if_neg h, if_pos h2]
theorem chk_long {cs : List Int} (h : 8192 < cs.length) : chkF cs = (-1, 3) := by unfold chkF; rw [if_pos h]
theorem size_ok {n : Nat} (h : ¬ 8192 < n) (h2 : isPow n = true) : sizeE n = 0 := by unfold sizeE; rw [if_neg h, if_pos h2]
set_option maxRecDepth 100000 in
set_option maxHeartbeats 1000000 in
theorem rcheck14_bad (v : Value) (cs : List Int) (w : World) (h : IAt w v cs) (hm : cs.length ≤ 100000) (hb : 8192 < cs.length ∨ isPow cs.length = false) :
    Calls Tryz.prog 82 #[sv v] w fun e w' => e = .returned (.tuple #[.int .i64 (chkF cs).1, .int .i64 (chkF cs).2]) ∧ Below w.heap.size w w' := by
  have h0 := heap_alloc_new w (.cells #[v] 27)
  have hb0 := alloc_below w (.cells #[v] 27)
  obtain ⟨A, cap, rfl, -⟩ := h
  have c0 := (one_cell h0).1
  have B := Lib.hid hb0
  by_cases h1 : 8192 < cs.length
  · rw [chk_long h1]
    unfold sv
    generalize cs.length = n at *
    have q : decide ((8192 : Int) < (n : Int)) = true := decide_eq_true (by omega)
    have q' : (8192 : Int) < (n : Int) := by omega
    clear h0 hb0 hb h1
    go_enter Tryz.func82, Tryz.ntmps82
    go_wp2
    refine bodyPost_ret (v := .tuple #[.int .i64 (-1), .int .i64 3]) (by simp [results, Tryz.f82, go_sem]) rfl ⟨rfl, B.out⟩
  · have hp : isPow cs.length = false := hb.resolve_left h1
    rw [chk_pow h1 hp]
    unfold sv
    have PE := Lib.hid (fun n (h : isPow n = true) (h1 : n = 8 ∨ n < 2 * cs.length) (h2 : n = cs.length) => (show False by rw [h2, hp] at h; cases h))
    generalize cs.length = m at *
    have q : decide ((8192 : Int) < (m : Int)) = false := decide_eq_false (by omega)
    have q' : ¬ (8192 : Int) < (m : Int) := by omega
    have P8 := Lib.hid (show isPow 8 = true by decide)
    have PS := Lib.hid (fun n (h : isPow n = true) (h2 : n < 8192) => pow_small h h2)
    have PL := Lib.hid (fun n (h : isPow n = true) => pow_lo h)
    clear h0 hb0 hb hp
    go_enter Tryz.func82, Tryz.ntmps82
    go_upto_region 4 with fail
    generalize w.alloc (.cells #[.slice A m cap] 27) = W0 at *
    go_wp2
    go_loopw [5] (fun i wr => ∃ n : Nat, i = .int .i64 n ∧ Hid (isPow n = true) ∧ Hid (n = 8 ∨ n < 2 * m) ∧ n ≤ 8192 ∧ 8 ≤ n ∧ Hid (W0 = wr)) (fun i _ => m - (intOf i).toNat)
    case atStart => exact ⟨8, rfl, P8, Lib.hid (.inl rfl), by omega, by omega, Lib.hid rfl⟩
    case round =>
      obtain ⟨n, rfl, HP, HN, hn, hn8, hw⟩ := hrel
      obtain rfl := hw.out
      by_cases hlt : n < m
      · have hlt' : (n : Int) < (m : Int) := by omega
        have HP2 := Lib.hid (PS.out n HP.out (by omega))
        have hw1 : IntKind.i64.wrap ((n : Int) * 2) = (n : Int) * 2 := IntWalk.i64_in _ (by omega)
        go_wp2
        refine ⟨⟨n * 2, by simp, HP2, Lib.hid (.inr (by omega)), (PL.out _ HP2.out).2, by omega, Lib.hid trivial⟩, ?_⟩
        show m - ((n : Int) * 2).toNat < m - ((n : Int)).toNat
        omega
      · have hlt' : ¬ (n : Int) < (m : Int) := by omega
        have hne : n ≠ m := fun e => PE.out n HP.out HN.out e
        have q2 : ((n : Int) != (m : Int)) = true := by simp; omega
        go_wp2
        refine bodyPost_ret (v := .tuple #[.int .i64 (-1), .int .i64 6]) (by simp [results, Tryz.f82, go_sem]) rfl ⟨rfl, B.out⟩
end YtjkphacidpongaaGreat
end Go.Proofs
