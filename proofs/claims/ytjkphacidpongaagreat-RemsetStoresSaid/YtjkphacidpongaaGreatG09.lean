/- Range, List and Len, the program's. -/
import Derived.Test.YtjkphacidpongaaGreatG08
namespace Go.Proofs
namespace YtjkphacidpongaaGreat
open Go.RowKit

def rangeA (cs : List Int) (f t : Int) : List Int × Int := if (chkF cs).2 ≠ 0 then ([], (chkF cs).2) else (inF f t (srt cs), 0)
def lenA (cs : List Int) : Int × Int := if (chkF cs).2 ≠ 0 then (0, (chkF cs).2) else (((srt cs).length : Int), 0)
/-- a list and an error -/
def LiAns (w : World) (R : List Int × Int) (e : Ending) (w' : World) : Prop := ∃ v, e = .returned (.tuple #[v, .int .i64 R.2]) ∧ Row w w' v R.1 ∧ Below w.heap.size w w'
theorem range_len (cs : List Int) (f t : Int) : (rangeA cs f t).1.length ≤ 1600 := by
  unfold rangeA
  by_cases h : (chkF cs).2 ≠ 0
  · rw [if_pos h]; exact Nat.zero_le _
  · rw [if_neg h]
    have h1 : (inF f t (srt cs)).length ≤ (srt cs).length := List.length_filter_le _ _
    have h2 := srt_len cs
    dsimp only
    omega
theorem len_range (cs : List Int) : lenA cs = (((rangeA cs 1 1601).1.length : Int), (rangeA cs 1 1601).2) := by
  unfold lenA rangeA
  rw [inF_all]
  by_cases h : (chkF cs).2 ≠ 0
  · rw [if_pos h, if_pos h]; rfl
  · rw [if_neg h, if_neg h]
theorem row_mono {w W w' : World} {v : Value} {zs : List Int} (h : Row W w' v zs) (hs : w.heap.size ≤ W.heap.size) : Row w w' v zs := own_mono h hs
set_option maxRecDepth 100000 in
set_option maxHeartbeats 1000000 in
theorem range22 (v : Value) (cs : List Int) (f t : Int) (w : World) (h : IAt w v cs) (hm : cs.length ≤ 100000) :
    Calls Tryz.prog 60 #[sv v, .int .i64 f, .int .i64 t] w fun e w' => LiAns w (rangeA cs f t) e w' := by
  have h0 := heap_alloc_new w (.cells #[v] 27)
  have hb := alloc_below w (.cells #[v] 27)
  have hIA := h.below hb
  have hs : (w.alloc (.cells #[v] 27)).heap.size = w.heap.size + 1 := by simp
  by_cases hg : (chkF cs).2 = 0
  · have hG := good_of_chk hg
    have e1 : rangeA cs f t = (inF f t (srt cs), 0) := by unfold rangeA; rw [if_neg (by simp [hg])]
    rw [e1]
    have C := Lib.hid (open42_ok v cs _ hIA hm hG)
    have F := Lib.hid (fun W g (ht : TAt W g cs) => within43 (tv g cs.length) cs f t W ht.iat hm)
    rw [wi_tab hG.tab] at F
    obtain ⟨A, cap, rfl, -⟩ := h
    have c0 := (one_cell h0).1
    have B := Lib.hid hb
    rw [hs] at C
    clear h0 hb hG hg hs e1 hIA
    unfold LiAns sv tv at *
    dsimp only
    generalize inF f t (srt cs) = L at *
    generalize cs.length = n at *
    go_enter Tryz.func60, Tryz.ntmps60
    go_wp2_with (first
      | (go_at_call 91; refine C.out.mono ?_; rintro e w1 ⟨g, rfl, hgs, ht, hb1⟩; have B1 := Lib.hid (B.out.trans (hb1.mono (by omega))); have FW := Lib.hid (F.out _ _ ht); clear hb1 ht hgs)
      | (go_at_call 92; refine FW.out.mono ?_; rintro e w2 ⟨u, rfl, ho, hb2⟩; have B2 := Lib.hid (below_end B1.out hb2); have O2 := Lib.hid (own_mono ho B1.out.size); obtain ⟨A', c', rfl⟩ := own_form ho; clear hb2 ho))
    refine bodyPost_ret (v := .tuple #[.slice A' L.length c', .int .i64 0]) (by simp [results, Tryz.f60, go_sem]) rfl ⟨_, rfl, O2.out, B2.out⟩
  · have e1 : rangeA cs f t = ([], (chkF cs).2) := by unfold rangeA; rw [if_pos hg]
    rw [e1]
    have C := Lib.hid (open42_err v cs _ hIA hm hg)
    obtain ⟨A, cap, rfl, -⟩ := h
    have c0 := (one_cell h0).1
    have B := Lib.hid hb
    rw [hs] at C
    clear h0 hb hs e1 hIA
    unfold LiAns sv at *
    dsimp only
    generalize cs.length = n at *
    generalize (chkF cs).2 = r at *
    have q : (r != 0) = true := by simpa using hg
    clear hg
    go_enter Tryz.func60, Tryz.ntmps60
    go_wp2_with (go_at_call 91; refine C.out.mono ?_; rintro e w1 ⟨rfl, hb1⟩; have B1 := Lib.hid (B.out.trans (hb1.mono (by omega))); clear hb1)
    refine bodyPost_ret (v := .tuple #[.slice none 0 0, .int .i64 r]) (by simp [results, Tryz.f60, go_sem]) rfl ⟨_, rfl, row_nil _ _, B1.out⟩
def listA (cs : List Int) : List Int × Int := rangeA cs 1 1601
set_option maxRecDepth 100000 in
set_option maxHeartbeats 1000000 in
theorem list20 (v : Value) (cs : List Int) (w : World) (h : IAt w v cs) (hm : cs.length ≤ 100000) :
    Calls Tryz.prog 57 #[sv v] w fun e w' => LiAns w (listA cs) e w' := by
  have h0 := heap_alloc_new w (.cells #[v] 27)
  have hb := alloc_below w (.cells #[v] 27)
  have hs : (w.alloc (.cells #[v] 27)).heap.size = w.heap.size + 1 := by simp
  have C := Lib.hid ((range22 v cs 1 1601 _ (h.below hb) hm).mono fun e w' ⟨u, h1, h2, h3⟩ => (show ∃ u, e = Ending.returned (.tuple #[u, .int .i64 (listA cs).2]) ∧ Row w w' u (listA cs).1 ∧ Below w.heap.size w w' from ⟨u, h1, row_mono h2 (by omega), below_end hb h3⟩))
  obtain ⟨A, cap, rfl, -⟩ := h
  have c0 := (one_cell h0).1
  clear h0 hb hs
  unfold LiAns sv at *
  generalize listA cs = R at *
  obtain ⟨L, r⟩ := R
  dsimp only at *
  go_enter Tryz.func57, Tryz.ntmps57
  go_wp2_with (go_at_call 60; refine C.out.mono ?_; rintro e w1 ⟨u, rfl, ho, hb1⟩; have B1 := Lib.hid hb1; have O1 := Lib.hid ho; obtain ⟨A', c', rfl⟩ := own_form ho; clear hb1 ho)
  refine bodyPost_ret (v := .tuple #[.slice A' L.length c', .int .i64 r]) (by simp [results, Tryz.f57, go_sem]) rfl ⟨_, rfl, O1.out, B1.out⟩
set_option maxRecDepth 100000 in
set_option maxHeartbeats 1000000 in
theorem len15 (v : Value) (cs : List Int) (w : World) (h : IAt w v cs) (hm : cs.length ≤ 100000) :
    Calls Tryz.prog 48 #[sv v] w fun e w' => e = .returned (.tuple #[.int .i64 (lenA cs).1, .int .i64 (lenA cs).2]) ∧ Below w.heap.size w w' := by
  have h0 := heap_alloc_new w (.cells #[v] 27)
  have hb := alloc_below w (.cells #[v] 27)
  have hs : (w.alloc (.cells #[v] 27)).heap.size = w.heap.size + 1 := by simp
  have C := Lib.hid ((list20 v cs _ (h.below hb) hm).mono fun e w' ⟨u, h1, h2, h3⟩ => (show ∃ u, e = Ending.returned (.tuple #[u, .int .i64 (listA cs).2]) ∧ Row w w' u (listA cs).1 ∧ Below w.heap.size w w' from ⟨u, h1, row_mono h2 (by omega), below_end hb h3⟩))
  rw [len_range]
  change Calls Tryz.prog 48 #[sv v] w fun e w' => e = .returned (.tuple #[.int .i64 (((listA cs).1.length : Int)), .int .i64 (listA cs).2]) ∧ Below w.heap.size w w'
  obtain ⟨A, cap, rfl, -⟩ := h
  have c0 := (one_cell h0).1
  clear h0 hb hs
  unfold sv at *
  generalize listA cs = R at *
  obtain ⟨L, r⟩ := R
  dsimp only at *
  go_enter Tryz.func48, Tryz.ntmps48
  go_wp2_with (go_at_call 57; refine C.out.mono ?_; rintro e w1 ⟨u, rfl, ho, hb1⟩; have B1 := Lib.hid hb1; obtain ⟨A', c', rfl⟩ := own_form ho; clear hb1 ho)
  refine bodyPost_ret (v := .tuple #[.int .i64 L.length, .int .i64 r]) (by simp [results, Tryz.f48, go_sem]) rfl ⟨rfl, B1.out⟩
end YtjkphacidpongaaGreat
end Go.Proofs
/- Of and Join, the program's. -/
namespace Go.Proofs
namespace YtjkphacidpongaaGreat
open Go.RowKit

def ofA (l : List Int) : List Int × Int := if 4000 < l.length then ([], 3) else if l.all isA = true then (l.foldl addF newF, 0) else ([], 7)
def joinA (cs ts : List Int) : List Int × Int := if (chkF cs).2 ≠ 0 then ([], (chkF cs).2) else if (chkF ts).2 ≠ 0 then ([], (chkF ts).2) else ((srt ts).foldl addF cs, 0)
/-- a set and an error -/
def SeAns (w : World) (R : List Int × Int) (e : Ending) (w' : World) : Prop := ∃ v, e = .returned (.tuple #[sv v, .int .i64 R.2]) ∧ Row w w' v R.1 ∧ Below w.heap.size w w'
theorem all_isA {l : List Int} : l.all isA = true ↔ ∀ x ∈ l, 1 ≤ x ∧ x ≤ 1600 := by
  rw [List.all_eq_true]
  exact ⟨fun h x hx => isA_iff.1 (h x hx), fun h x hx => isA_iff.2 (h x hx)⟩
theorem all_upto {l : List Int} (h : ∀ j, j < l.length → isA (l.getD j 0) = true) : l.all isA = true := by
  rw [List.all_eq_true]
  intro x hx
  obtain ⟨i, hi, rfl⟩ := mem_getD hx
  exact h i hi
theorem not_all {l : List Int} {k : Nat} (hk : k < l.length) (h : isA (l.getD k 0) = false) : ¬ l.all isA = true := fun h2 => by
  rw [List.all_eq_true] at h2
  have := h2 _ (getD_mem hk)
  rw [h] at this
  cases this
theorem of_long {l : List Int} (h : 4000 < l.length) : ofA l = ([], 3) := by unfold ofA; rw [if_pos h]
theorem of_bad {l : List Int} (h : ¬ 4000 < l.length) (h2 : ¬ l.all isA = true) : ofA l = ([], 7) := by unfold ofA; rw [if_neg h, if_neg h2]
theorem of_ok {l : List Int} (h : ¬ 4000 < l.length) (h2 : l.all isA = true) : ofA l = (l.foldl addF newF, 0) := by unfold ofA; rw [if_neg h, if_pos h2]
theorem adds_len {l cs : List Int} (hG : Good cs) (hl : ∀ x ∈ l, 1 ≤ x ∧ x ≤ 1600) : (l.foldl addF cs).length ≤ 100000 := by have := (adds_ok l hG hl).1.tab.hi; omega
end YtjkphacidpongaaGreat
end Go.Proofs
/- Join and Purge, the program's. -/
namespace Go.Proofs
namespace YtjkphacidpongaaGreat
open Go.RowKit

theorem own_far {W : World} {B g n : Nat} {v : Value} {xs : List Value} (h : W.ownsRow B 3 1 v n xs) (hg : g < B) : Apart v g := by
  intro A m c b off e1 _ e2
  subst e1 e2
  have := (h.lt b rfl).1
  omega
theorem three_boxes (w : World) (o0 o1 o2 : Obj) : (((w.alloc o0).alloc o1).alloc o2).heap[w.heap.size]? = some o0 ∧ (((w.alloc o0).alloc o1).alloc o2).heap[w.heap.size + 1]? = some o1 ∧ (((w.alloc o0).alloc o1).alloc o2).heap[w.heap.size + 2]? = some o2 ∧
    (((w.alloc o0).alloc o1).alloc o2).heap.size = w.heap.size + 3 ∧ Below w.heap.size w (((w.alloc o0).alloc o1).alloc o2) := by
  obtain ⟨h0, h1, h2, h3⟩ := two_boxes w o0 o1
  have hb := alloc_below ((w.alloc o0).alloc o1) o2
  have h4 := heap_alloc_new ((w.alloc o0).alloc o1) o2
  rw [h2] at h4
  exact ⟨keep_heap hb h0, keep_heap hb h1, h4, by rw [World.size_alloc, h2], below_end h3 hb⟩
theorem join_1 {cs ts : List Int} (h : (chkF cs).2 ≠ 0) : joinA cs ts = ([], (chkF cs).2) := by unfold joinA; rw [if_pos h]
theorem join_2 {cs ts : List Int} (h : ¬ (chkF cs).2 ≠ 0) (h2 : (chkF ts).2 ≠ 0) : joinA cs ts = ([], (chkF ts).2) := by unfold joinA; rw [if_neg h, if_pos h2]
theorem join_3 {cs ts : List Int} (h : ¬ (chkF cs).2 ≠ 0) (h2 : ¬ (chkF ts).2 ≠ 0) : joinA cs ts = ((srt ts).foldl addF cs, 0) := by unfold joinA; rw [if_neg h, if_neg h2]
theorem list_ok {ts : List Int} (h : ¬ (chkF ts).2 ≠ 0) : listA ts = (srt ts, 0) := by unfold listA rangeA; rw [if_neg h, inF_all]
theorem list_err {ts : List Int} (h : (chkF ts).2 ≠ 0) : listA ts = ([], (chkF ts).2) := by unfold listA rangeA; rw [if_pos h]
end YtjkphacidpongaaGreat
end Go.Proofs
/- Purge, the program's. -/
namespace Go.Proofs
namespace YtjkphacidpongaaGreat
open Go.RowKit

def purgeA (cs : List Int) (f t : Int) : List Int × Int × Int := if (chkF cs).2 ≠ 0 then ([], 0, (chkF cs).2) else (purgeF cs f t, ((inF f t (srt cs)).length : Int), 0)
/-- a set, a number and an error -/
def SnAns (w : World) (R : List Int × Int × Int) (e : Ending) (w' : World) : Prop := ∃ v, e = .returned (.tuple #[sv v, .int .i64 R.2.1, .int .i64 R.2.2]) ∧ Row w w' v R.1 ∧ Below w.heap.size w w'
theorem purge_1 {cs : List Int} {f t : Int} (h : (chkF cs).2 ≠ 0) : purgeA cs f t = ([], 0, (chkF cs).2) := by unfold purgeA; rw [if_pos h]
theorem purge_2 {cs : List Int} {f t : Int} (h : ¬ (chkF cs).2 ≠ 0) : purgeA cs f t = (purgeF cs f t, ((inF f t (srt cs)).length : Int), 0) := by unfold purgeA; rw [if_neg h]
theorem purge_len (cs : List Int) (f t : Int) : (purgeF cs f t).length = cs.length := by unfold purgeF; rw [List.length_map]
theorem foldl_take_snoc (F : List Int → Int → List Int) (l : List Int) (cs : List Int) {k : Nat} (hk : k < l.length) : (l.take (k + 1)).foldl F cs = F ((l.take k).foldl F cs) (l.getD k 0) := by
  rw [take_snoc hk, List.foldl_append]; rfl
theorem drops_len : ∀ (l : List Int) (cs : List Int), (l.foldl dropF cs).length = cs.length
  | [], _ => rfl
  | a :: l, cs => by rw [List.foldl_cons, drops_len l, drop_len]
set_option maxRecDepth 100000 in
set_option maxHeartbeats 2000000 in
theorem purge35 (v : Value) (cs : List Int) (f t : Int) (w : World) (h : IAt w v cs) (hm : cs.length ≤ 100000) :
    Calls Tryz.prog 67 #[sv v, .int .i64 f, .int .i64 t] w fun e w' => SnAns w (purgeA cs f t) e w' := by
  obtain ⟨h0, h1, hs, hb⟩ := two_boxes w (.cells #[v] 27) (.cells #[.slice none 0 0] 27)
  have hIA := h.below hb
  have B := Lib.hid hb
  have H1 := Lib.hid h1
  have HS := Lib.hid hs
  by_cases hg : (chkF cs).2 ≠ 0
  · rw [purge_1 hg]
    have C := Lib.hid (open42_err v cs _ hIA hm hg)
    obtain ⟨A, cap, rfl, -⟩ := h
    have c0 := (one_cell h0).1
    unfold SnAns sv at *
    generalize cs.length = n at *
    generalize (chkF cs).2 = r at *
    have q : (r != 0) = true := by simpa using hg
    clear h0 h1 hb hs hIA hg
    go_enter Tryz.func67, Tryz.ntmps67
    go_upto_region 1 with fail
    generalize (w.alloc (.cells #[.slice A n cap] 27)).alloc (.cells #[.slice none 0 0] 27) = W0 at *
    go_wp2_with (go_at_call 91; refine C.out.mono ?_; rintro e w1 ⟨rfl, hb1⟩; have B1 := Lib.hid (below_end B.out hb1); have K1 := Lib.hid (keep_heap hb1 H1.out); obtain ⟨d1, f1⟩ := one_cell K1.out; clear hb1)
    have c4 := (one_cell (set_row K1.out 0 (.slice none 0 0))).1
    refine bodyPost_ret (v := .tuple #[.agg #[.slice none 0 0], .int .i64 0, .int .i64 r]) (by simp [results, Tryz.f67, go_sem, c4]) rfl ⟨_, rfl, row_nil _ _, B1.out.setCell (p := ⟨w.heap.size + 1, 0, none⟩) (by simp) _⟩
  have hG := good_of_chk (Classical.byContradiction fun h => hg h)
  have C := Lib.hid (open42_ok v cs _ hIA hm hG)
  rw [purge_2 hg]
  have WI := Lib.hid (fun X g (ht : TAt X g cs) => within43 (tv g cs.length) cs f t X ht.iat hm)
  rw [wi_tab hG.tab] at WI
  have hpos : ∀ x ∈ inF f t (srt cs), 0 < x := in_pos
  have hrng : ∀ x ∈ inF f t (srt cs), 1 ≤ x ∧ x ≤ 1600 := fun x hx => (mem_srt.1 (List.mem_filter.1 hx).1).1
  have hll : (inF f t (srt cs)).length ≤ 1600 := Nat.le_trans (List.length_filter_le _ _) (srt_len cs)
  have DR := Lib.hid (fun k (hk : k < (inF f t (srt cs)).length) X g (hx : TAt X g (((inF f t (srt cs)).take k).foldl dropF cs)) => drop50 g _ ((inF f t (srt cs)).getD k 0) X hx (drops ((inF f t (srt cs)).take k) hG (fun x hx => hpos x (List.mem_of_mem_take hx))).1 (hrng _ (getD_mem hk)))
  have LN := Lib.hid (fun k => drops_len ((inF f t (srt cs)).take k) cs)
  have PE := Lib.hid (purge_eq hG f t)
  have PL := Lib.hid (purge_len cs f t)
  have S := Lib.hid (fun g n W => set41 (some ⟨g, 0, none⟩) n n W)
  obtain ⟨D, hD⟩ : ∃ D, purgeF cs f t = D := ⟨_, rfl⟩
  rw [hD] at PE PL ⊢
  obtain ⟨A, cap, rfl, -⟩ := h
  have c0 := (one_cell h0).1
  unfold SnAns sv tv at *
  dsimp only
  generalize inF f t (srt cs) = L at *
  have TL := Lib.hid (List.take_length (l := L))
  have SN := Lib.hid (fun k (hk : k < L.length) => foldl_take_snoc dropF L cs hk)
  obtain ⟨n, hn⟩ : ∃ n, cs.length = n := ⟨_, rfl⟩
  rw [hn] at hm C WI LN PL c0 hIA B H1 HS
  obtain ⟨m, hm2⟩ : ∃ m, L.length = m := ⟨_, rfl⟩
  have HM := Lib.hid hm2
  rw [hm2] at hll DR TL SN ⊢
  clear h0 h1 hb hs hIA hg hG hD hm2 hpos hrng
  rw [hn]
  clear hn
  go_enter Tryz.func67, Tryz.ntmps67
  go_upto_region 1 with fail
  generalize (w.alloc (.cells #[.slice A n cap] 27)).alloc (.cells #[.slice none 0 0] 27) = W0 at *
  go_upto_region 6 with (first
    | (go_at_call 91; refine C.out.mono ?_; rintro e w1 ⟨g, rfl, hgs, ht, hb1⟩; have B1 := Lib.hid (below_end B.out hb1); have K1 := Lib.hid (keep_heap hb1 H1.out); have T1 := Lib.hid ht; have G1 := Lib.hid (show w.heap.size + 2 ≤ g by have := HS.out; omega); clear hb1 hgs ht)
    | (go_at_call 92; refine (WI.out _ _ T1.out).mono ?_; rintro e w2 ⟨x, rfl, ho, hb2⟩; have B2 := Lib.hid (below_end B1.out hb2); have K2 := Lib.hid (keep_heap hb2 K1.out); have T2 := Lib.hid (T1.out.below hb2); have O2 := Lib.hid (IAt.of_own ho); have F2 := Lib.hid (own_far ho T1.out.lt); obtain ⟨A', c', rfl⟩ := own_form ho; clear hb2 ho))
  have VX := Lib.hid (fun X (hx : w2.grownBy X (some g)) k (hk : k < m) => (show ∃ b off, A' = some ⟨b, off, none⟩ ∧ X.cell? ⟨b, off + k, none⟩ = some (.int .i64 (L.getD k 0)) by
    obtain ⟨A1, cap', e, hc⟩ := O2.out.apart hx F2.out
    cases e
    obtain ⟨b, off, h1, h2⟩ := hc (by rw [HM.out]; omega)
    exact ⟨b, off, h1, h2 k (by rw [HM.out]; omega)⟩))
  have T0 := Lib.hid (show TAt w2 g ((L.take 0).foldl dropF cs) from T2.out)
  rw [HM.out]
  go_wp2
  go_loopw [12, 28] (fun y i wr => ∃ k : Nat, k ≤ m ∧ i = .int .i64 k ∧ Hid (TAt wr g ((L.take k).foldl dropF cs)) ∧ Hid (w2.grownBy wr (some g))) (fun _ i _ => m - (intOf i).toNat)
  case atStart => exact ⟨0, by omega, rfl, T0, Lib.hid ⟨rfl, rfl, rfl, Nat.le_refl _, fun _ _ _ => rfl⟩⟩
  case round =>
    obtain ⟨k, hk, rfl, HT, HG⟩ := hrel
    by_cases hlt : k < m
    · have hlt' : (k : Int) < (m : Int) := by omega
      obtain ⟨b1, o1, rfl, ca⟩ := VX.out _ HG.out k hlt
      have ad1 : (⟨b1, o1, none⟩ : Addr).add k = ⟨b1, o1 + k, none⟩ := by unfold Addr.add; split <;> simp_all
      have CD := Lib.hid (DR.out k hlt wr g HT.out)
      rw [LN.out] at CD
      have SK := Lib.hid (SN.out k hlt)
      generalize L.getD k 0 = x at *
      go_wp2_with (go_at_call 96; refine CD.out.mono ?_; rintro e w3 ⟨rfl, ht, hgr⟩; have T3 := Lib.hid ht; have G3 := Lib.hid (grown_step HG.out hgr (.inl rfl)); clear ht hgr)
      refine ⟨⟨k + 1, by omega, by simp, Lib.hid (by rw [SK.out]; exact T3.out), G3⟩, ?_⟩
      show m - ((k : Int) + 1).toNat < m - ((k : Int)).toNat
      omega
    · have hlt' : ¬ (k : Int) < (m : Int) := by omega
      obtain rfl : k = m := by omega
      have T3 := Lib.hid (show TAt wr g D by have := HT.out; rwa [TL.out, PE.out] at this)
      have B3 := Lib.hid (grown_of_old B2.out HG.out (by have := G1.out; omega))
      have K3 := Lib.hid ((HG.out.block _ (Array.getElem?_eq_some_iff.1 K2.out).1 (fun e => by injection e with e; have := G1.out; omega)).trans K2.out)
      clear HT DR VX
      go_wp2_with (go_at_call 78; refine (S.out _ _ _).mono ?_; rintro e w4 ⟨rfl, hb4⟩; have K4 := Lib.hid (keep_heap hb4 K3.out); have T4 := Lib.hid (T3.out.below hb4); have B4 := Lib.hid (below_end B3.out hb4); obtain ⟨d3, f3⟩ := one_cell K4.out; clear hb4)
      have c4 := (one_cell (set_row K4.out 0 (.slice (some ⟨g, 0, none⟩) n n))).1
      refine bodyPost_ret (v := .tuple #[.agg #[.slice (some ⟨g, 0, none⟩) n n], .int .i64 k, .int .i64 0]) (by simp [results, Tryz.f67, go_sem, c4]) rfl ⟨_, rfl, ?_, B4.out.setCell (p := ⟨w.heap.size + 1, 0, none⟩) (by simp) _⟩
      have := TAt.row (w := w) (zs := D) (set_far (i := 0) (.slice (some ⟨g, 0, none⟩) n n) (show g ≠ w.heap.size + 1 by have := G1.out; omega) T4.out) (by have := G1.out; omega) (by rw [PL.out]; exact hm)
      rw [PL.out] at this
      exact this
end YtjkphacidpongaaGreat
end Go.Proofs
