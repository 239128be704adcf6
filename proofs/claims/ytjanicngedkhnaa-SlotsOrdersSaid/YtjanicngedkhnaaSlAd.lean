/- Join and Purge, the program's. -/
import Derived.Test.YtjanicngedkhnaaSlAc
namespace Go.Proofs
namespace Ytjanicngedkhnaa
open Go.RowKit

theorem own_far {W : World} {B g n : Nat} {v : Value} {xs : List Value} (h : W.ownsRow B 3 1 v n xs) (hg : g < B) : Apart v g := by
  intro A m c b off e1 _ e2
  subst e1 e2
  have := (h.lt b rfl).1
  omega
theorem three_boxes (w : World) (o0 o1 o2 : Obj) : (((w.alloc o0).alloc o1).alloc o2).heap[w.heap.size]? = some o0 ∧ (((w.alloc o0).alloc o1).alloc o2).heap[w.heap.size + 1]? = some o1 ∧ (((w.alloc o0).alloc o1).alloc o2).heap[w.heap.size + 2]? = some o2 ∧
    (((w.alloc o0).alloc o1).alloc o2).heap.size = w.heap.size + 3 ∧ Below w.heap.size w (((w.alloc o0).alloc o1).alloc o2) := by
  obtain ⟨h0, h1, h2, h3⟩ := two_boxes w o0 o1
  have hb := alloc_below ((w.alloc o0).alloc o1) o2
  have h4 := heap_alloc_new ((w.alloc o0).alloc o1) o2
  rw [h2] at h4
  exact ⟨keep_heap hb h0, keep_heap hb h1, h4, by rw [World.size_alloc, h2], below_end h3 hb⟩
theorem join_1 {cs ts : List Int} (h : (chkF cs).2 ≠ 0) : joinA cs ts = ([], (chkF cs).2) := by unfold joinA; rw [if_pos h]
theorem join_2 {cs ts : List Int} (h : ¬ (chkF cs).2 ≠ 0) (h2 : (chkF ts).2 ≠ 0) : joinA cs ts = ([], (chkF ts).2) := by unfold joinA; rw [if_neg h, if_pos h2]
theorem join_3 {cs ts : List Int} (h : ¬ (chkF cs).2 ≠ 0) (h2 : ¬ (chkF ts).2 ≠ 0) : joinA cs ts = ((srt ts).foldl addF cs, 0) := by unfold joinA; rw [if_neg h, if_neg h2]
theorem list_ok {ts : List Int} (h : ¬ (chkF ts).2 ≠ 0) : listA ts = (srt ts, 0) := by unfold listA rangeA; rw [if_neg h, inF_all]
theorem list_err {ts : List Int} (h : (chkF ts).2 ≠ 0) : listA ts = ([], (chkF ts).2) := by unfold listA rangeA; rw [if_pos h]
set_option maxRecDepth 100000 in
set_option maxHeartbeats 2000000 in
theorem join33 (v : Value) (cs : List Int) (u : Value) (ts : List Int) (w : World) (h : IAt w v cs) (hu : IAt w u ts) (hm : cs.length ≤ 100000) (hm2 : ts.length ≤ 100000) :
    Calls Try.prog 33 #[sv v, sv u] w fun e w' => SeAns w (joinA cs ts) e w' := by
  obtain ⟨h0, h1, h2, hs, hb⟩ := three_boxes w (.cells #[v] 24) (.cells #[u] 24) (.cells #[.slice none 0 0] 24)
  have hIA := h.below hb
  have hIB := hu.below hb
  have B := Lib.hid hb
  have H2 := Lib.hid h2
  have H1 := Lib.hid h1
  have HS := Lib.hid hs
  by_cases hg : (chkF cs).2 ≠ 0
  · rw [join_1 hg]
    have C := Lib.hid (open42_err v cs _ hIA hm hg)
    obtain ⟨A, cap, rfl, -⟩ := h
    obtain ⟨A2, cap2, rfl, -⟩ := hu
    have c0 := (one_cell h0).1
    unfold SeAns sv at *
    generalize cs.length = n at *
    generalize ts.length = n2 at *
    generalize (chkF cs).2 = r at *
    have q : (r != 0) = true := by simpa using hg
    clear h0 h1 h2 hb hs hIA hIB hg
    go_enter Try.func33, Try.ntmps33
    go_upto_region 1 with fail
    generalize ((w.alloc (.cells #[.slice A n cap] 24)).alloc (.cells #[.slice A2 n2 cap2] 24)).alloc (.cells #[.slice none 0 0] 24) = W0 at *
    go_wp2_with (go_at_call 42; refine C.out.mono ?_; rintro e w1 ⟨rfl, hb1⟩; have B1 := Lib.hid (below_end B.out hb1); have K1 := Lib.hid (keep_heap hb1 H2.out); obtain ⟨d1, f1⟩ := one_cell K1.out; clear hb1)
    have c4 := (one_cell (set_row K1.out 0 (.slice none 0 0))).1
    refine bodyPost_ret (v := .tuple #[.agg #[.slice none 0 0], .int .i64 r]) (by simp [results, Try.f33, go_sem, c4]) rfl ⟨_, rfl, row_nil _ _, B1.out.setCell (p := ⟨w.heap.size + 2, 0, none⟩) (by simp) _⟩
  have hG := good_of_chk (Classical.byContradiction fun h => hg h)
  have C := Lib.hid (open42_ok v cs _ hIA hm hG)
  have LI := Lib.hid (fun X (hx : Below w.heap.size w X) => list20 u ts X (hu.below hx) hm2)
  by_cases hg2 : (chkF ts).2 ≠ 0
  · rw [join_2 hg hg2]
    rw [list_err hg2] at LI
    obtain ⟨A, cap, rfl, -⟩ := h
    obtain ⟨A2, cap2, rfl, -⟩ := hu
    have c0 := (one_cell h0).1
    unfold SeAns LiAns sv tv at *
    dsimp only at LI
    generalize cs.length = n at *
    generalize ts.length = n2 at *
    generalize (chkF ts).2 = r at *
    have q : (r != 0) = true := by simpa using hg2
    clear h0 h1 h2 hb hs hIA hIB hg hg2 hG
    go_enter Try.func33, Try.ntmps33
    go_upto_region 1 with fail
    generalize ((w.alloc (.cells #[.slice A n cap] 24)).alloc (.cells #[.slice A2 n2 cap2] 24)).alloc (.cells #[.slice none 0 0] 24) = W0 at *
    go_wp2_with (first
      | (go_at_call 42; refine C.out.mono ?_; rintro e w1 ⟨g, rfl, hgs, ht, hb1⟩; have B1 := Lib.hid (below_end B.out hb1); have K1 := Lib.hid (keep_heap hb1 H2.out); have c1 := (one_cell (keep_heap hb1 H1.out)).1; clear hb1 hgs ht)
      | (go_at_call 20; refine (LI.out _ B1.out).mono ?_; rintro e w2 ⟨x, rfl, ho, hb2⟩; have B2 := Lib.hid (below_end B1.out hb2); have K2 := Lib.hid (keep_heap hb2 K1.out); obtain ⟨d1, f1⟩ := one_cell K2.out; obtain ⟨A', c', rfl⟩ := own_form ho; clear hb2 ho))
    have c4 := (one_cell (set_row K2.out 0 (.slice none 0 0))).1
    refine bodyPost_ret (v := .tuple #[.agg #[.slice none 0 0], .int .i64 r]) (by simp [results, Try.f33, go_sem, c4]) rfl ⟨_, rfl, row_nil _ _, B2.out.setCell (p := ⟨w.heap.size + 2, 0, none⟩) (by simp) _⟩
  rw [join_3 hg hg2]
  rw [list_ok hg2] at LI
  have hsr : ∀ x ∈ srt ts, 1 ≤ x ∧ x ≤ 1600 := fun x hx => (mem_srt.1 hx).1
  have hsl := srt_len ts
  have LD := Lib.hid (adds_len hG hsr)
  have AA := Lib.hid (fun X g x (ht : TAt X g cs) (hx : IAt X x (srt ts)) (ha : Apart x g) => addAll52 g cs x (srt ts) X ht hx ha hG hsr (by omega))
  have S := Lib.hid (fun g n W => set41 (some ⟨g, 0, none⟩) n n W)
  obtain ⟨D, hD⟩ : ∃ D, (srt ts).foldl addF cs = D := ⟨_, rfl⟩
  rw [hD] at LD AA ⊢
  obtain ⟨A, cap, rfl, -⟩ := h
  obtain ⟨A2, cap2, rfl, -⟩ := hu
  have c0 := (one_cell h0).1
  unfold SeAns LiAns sv tv at *
  dsimp only at LI
  generalize srt ts = L at *
  generalize hn : cs.length = n at *
  generalize ts.length = n2 at *
  clear h0 h1 h2 hb hs hIA hIB hg hg2 hG hsr hsl hD hn
  go_enter Try.func33, Try.ntmps33
  go_upto_region 1 with fail
  generalize ((w.alloc (.cells #[.slice A n cap] 24)).alloc (.cells #[.slice A2 n2 cap2] 24)).alloc (.cells #[.slice none 0 0] 24) = W0 at *
  go_wp2_with (first
    | (go_at_call 42; refine C.out.mono ?_; rintro e w1 ⟨g, rfl, hgs, ht, hb1⟩; have B1 := Lib.hid (below_end B.out hb1); have K1 := Lib.hid (keep_heap hb1 H2.out); have c1 := (one_cell (keep_heap hb1 H1.out)).1; have T1 := Lib.hid ht; have G1 := Lib.hid (show w.heap.size + 3 ≤ g by have := HS.out; omega); clear hb1 hgs ht)
    | (go_at_call 20; refine (LI.out _ B1.out).mono ?_; rintro e w2 ⟨x, rfl, ho, hb2⟩; have B2 := Lib.hid (below_end B1.out hb2); have K2 := Lib.hid (keep_heap hb2 K1.out); have AC := Lib.hid (AA.out w2 g x (T1.out.below hb2) (IAt.of_own ho) (own_far ho T1.out.lt)); obtain ⟨A', c', rfl⟩ := own_form ho; clear hb2 ho)
    | (go_at_call 52; refine AC.out.mono ?_; rintro e w3 ⟨g', rfl, hg', ht, hgr⟩; have G2 := Lib.hid (show w.heap.size + 3 ≤ g' from by have := G1.out; have := K2.out; have := (Array.getElem?_eq_some_iff.1 K2.out).1; omega); have T3 := Lib.hid ht; have B3 := Lib.hid (grown_of_old B2.out hgr (by have := G1.out; omega)); have K3 := Lib.hid ((hgr.block _ (Array.getElem?_eq_some_iff.1 K2.out).1 (fun e => by injection e with e; have := G1.out; omega)).trans K2.out); clear ht hg' hgr)
    | (go_at_call 41; refine (S.out _ _ _).mono ?_; rintro e w4 ⟨rfl, hb4⟩; have K4 := Lib.hid (keep_heap hb4 K3.out); have T4 := Lib.hid (T3.out.below hb4); have B4 := Lib.hid (below_end B3.out hb4); obtain ⟨d3, f3⟩ := one_cell K4.out; clear hb4))
  have c4 := (one_cell (set_row K4.out 0 (.slice (some ⟨g', 0, none⟩) D.length D.length))).1
  refine bodyPost_ret (v := .tuple #[.agg #[.slice (some ⟨g', 0, none⟩) D.length D.length], .int .i64 0]) (by simp [results, Try.f33, go_sem, c4]) rfl ⟨_, rfl, TAt.row (w := w) (zs := D) (set_far _ (show g' ≠ w.heap.size + 2 by have := G2.out; omega) T4.out) (by have := G2.out; omega) LD.out, B4.out.setCell (p := ⟨w.heap.size + 2, 0, none⟩) (by simp) _⟩
end Ytjanicngedkhnaa
end Go.Proofs
