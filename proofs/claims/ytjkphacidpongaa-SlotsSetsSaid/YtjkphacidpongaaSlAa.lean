/- Has, Add and Drop, the program's. -/
import Derived.Test.YtjkphacidpongaaSlZ
namespace Go.Proofs
namespace Ytjkphacidpongaa
open Go.RowKit

theorem two_boxes (w : World) (o0 o1 : Obj) : ((w.alloc o0).alloc o1).heap[w.heap.size]? = some o0 ∧ ((w.alloc o0).alloc o1).heap[w.heap.size + 1]? = some o1 ∧ ((w.alloc o0).alloc o1).heap.size = w.heap.size + 2 ∧ Below w.heap.size w ((w.alloc o0).alloc o1) := by
  refine ⟨?_, ?_, by simp, ((Below.refl _ _).alloc (Nat.le_refl _) _).alloc (by simp) _⟩
  · rw [Below.heap_alloc _ _ _ (by simp)]; exact World.alloc_heap_new w o0
  · have := World.alloc_heap_new (w.alloc o0) o1; rwa [World.size_alloc] at this
/-- a set that a call answers: its cells are these numbers, in memory of its own -/
def Row (w w' : World) (v : Value) (zs : List Int) : Prop := w'.ownsRow w.heap.size 3 1 v zs.length (ic zs)
theorem row_nil (w w' : World) : Row w w' (.slice none 0 0) [] := World.ownsRow_nil _ _ _ _
theorem TAt.row {w W : World} {g : Nat} {zs : List Int} (h : TAt W g zs) (hg : w.heap.size ≤ g) (hl : zs.length ≤ 100000) : Row w W (tv g zs.length) zs := h.own hg (by unfold maxLen; omega)
def hasA (cs : List Int) (a : Int) : Bool × Int := if askE cs a ≠ 0 then (false, askE cs a) else (hasB cs a, 0)
def addA (cs : List Int) (a : Int) : List Int × Bool × Int := if askE cs a ≠ 0 then ([], false, askE cs a) else (addF cs a, !hasB cs a, 0)
def dropA (cs : List Int) (a : Int) : List Int × Bool × Int := if askE cs a ≠ 0 then ([], false, askE cs a) else (dropF cs a, hasB cs a, 0)
/-- a set, a Boolean and an error -/
def SbAns (w : World) (R : List Int × Bool × Int) (e : Ending) (w' : World) : Prop := ∃ v, e = .returned (.tuple #[sv v, .bool R.2.1, .int .i64 R.2.2]) ∧ Row w w' v R.1 ∧ Below w.heap.size w w'
set_option maxRecDepth 100000 in
set_option maxHeartbeats 1000000 in
theorem has25 (v : Value) (cs : List Int) (a : Int) (w : World) (h : IAt w v cs) (hm : cs.length ≤ 100000) :
    Calls Try.prog 14 #[sv v, .int .i64 a] w fun e w' => e = .returned (.tuple #[.bool (hasA cs a).1, .int .i64 (hasA cs a).2]) ∧ Below w.heap.size w w' := by
  have h0 := heap_alloc_new w (.cells #[v] 26)
  have hb := alloc_below w (.cells #[v] 26)
  have hIA := h.below hb
  have hs : (w.alloc (.cells #[v] 26)).heap.size = w.heap.size + 1 := by simp
  by_cases hg : askE cs a = 0
  · obtain ⟨hG, ha⟩ := ask_zero hg
    have e1 : hasA cs a = (hasB cs a, 0) := by unfold hasA; rw [if_neg (by simp [hg])]
    rw [e1]
    have C := Lib.hid (openFor45_ok v cs a _ hIA hm hg)
    have F := Lib.hid (fun W g (ht : TAt W g cs) => (Own.mk ht hG.zero hG.tab).find a ha)
    obtain ⟨A, cap, rfl, -⟩ := h
    have c0 := (one_cell h0).1
    have B := Lib.hid hb
    rw [hs] at C
    clear h0 hb hG hg hs e1 hIA
    unfold sv tv at *
    generalize cs.length = n at *
    generalize findF cs a = p at *
    go_enter Try.func14, Try.ntmps14
    go_wp2_with (first
      | (go_at_call 35; refine C.out.mono ?_; rintro e w1 ⟨g, rfl, hgs, ht, hb1⟩; have B1 := Lib.hid (B.out.trans (hb1.mono (by omega))); have FW := Lib.hid (F.out _ _ ht); clear hb1 ht hgs)
      | (go_at_call 42; refine FW.out.mono ?_; rintro e w2 ⟨rfl, hb2⟩; have B2 := Lib.hid (below_end B1.out hb2); clear hb2))
    refine bodyPost_ret (v := .tuple #[.bool (hasB cs a), .int .i64 0]) (by simp [results, Try.f14, go_sem]) rfl ⟨rfl, B2.out⟩
  · have e1 : hasA cs a = (false, askE cs a) := by unfold hasA; rw [if_pos hg]
    rw [e1]
    have C := Lib.hid (openFor45_err v cs a _ hIA hm hg)
    obtain ⟨A, cap, rfl, -⟩ := h
    have c0 := (one_cell h0).1
    have B := Lib.hid hb
    rw [hs] at C
    clear h0 hb hs e1 hIA
    unfold sv at *
    generalize cs.length = n at *
    generalize askE cs a = r at *
    have q : (r != 0) = true := by simpa using hg
    clear hg
    go_enter Try.func14, Try.ntmps14
    go_wp2_with (go_at_call 35; refine C.out.mono ?_; rintro e w1 ⟨rfl, hb1⟩; have B1 := Lib.hid (B.out.trans (hb1.mono (by omega))); clear hb1)
    refine bodyPost_ret (v := .tuple #[.bool false, .int .i64 r]) (by simp [results, Try.f14, go_sem]) rfl ⟨rfl, B1.out⟩
set_option maxRecDepth 100000 in
set_option maxHeartbeats 2000000 in
theorem add27 (v : Value) (cs : List Int) (a : Int) (w : World) (h : IAt w v cs) (hm : cs.length ≤ 100000) :
    Calls Try.prog 10 #[sv v, .int .i64 a] w fun e w' => SbAns w (addA cs a) e w' := by
  obtain ⟨h0, h1, hs, hb⟩ := two_boxes w (.cells #[v] 26) (.cells #[.slice none 0 0] 26)
  have hIA := h.below hb
  by_cases hg : askE cs a = 0
  · obtain ⟨hG, ha⟩ := ask_zero hg
    have e1 : addA cs a = (addF cs a, !hasB cs a, 0) := by unfold addA; rw [if_neg (by simp [hg])]
    rw [e1]
    have C := Lib.hid (openFor45_ok v cs a _ hIA hm hg)
    have F := Lib.hid (fun W g (ht : TAt W g cs) => add48 g cs a W ht hG ha)
    have S := Lib.hid (fun g n W => set41 (some ⟨g, 0, none⟩) n n W)
    have LD := Lib.hid (show (addF cs a).length ≤ 100000 by have := (add_ok hG ha).good.tab.hi; omega)
    obtain ⟨A, cap, rfl, -⟩ := h
    have c0 := (one_cell h0).1
    have B := Lib.hid hb
    have H1 := Lib.hid h1
    have HS := Lib.hid hs
    rw [hs] at C
    clear h0 h1 hb hG hg hs e1 hIA
    unfold SbAns sv tv at *
    dsimp only
    generalize hD : addF cs a = D at *
    generalize hB : hasB cs a = b at *
    have HD := Lib.hid hD
    have HB := Lib.hid hB
    clear hD hB
    generalize cs.length = n at *
    go_enter Try.func10, Try.ntmps10
    go_upto_region 1 with fail
    generalize (w.alloc (.cells #[.slice A n cap] 26)).alloc (.cells #[.slice none 0 0] 26) = W0 at *
    go_wp2_with (first
      | (go_at_call 35; refine C.out.mono ?_; rintro e w1 ⟨g, rfl, hgs, ht, hb1⟩; have B1 := Lib.hid (B.out.trans (hb1.mono (by have := HS.out; omega))); have FW := Lib.hid (F.out _ _ ht); have G1 := Lib.hid hgs; have K1 := Lib.hid (keep_heap (hb1.mono (by have := HS.out; omega)) H1.out); clear hb1 ht hgs)
      | (go_at_call 37; refine FW.out.mono ?_; rintro e w2 ⟨⟨g', he, hg', ht⟩, hgr⟩; rw [HD.out, HB.out] at he; rw [HD.out] at ht; subst he; unfold tv; have T2 := Lib.hid ht; have B2 := Lib.hid (grown_of_old B1.out hgr (by have := G1.out; omega)); have K2 := Lib.hid ((hgr.block _ (Array.getElem?_eq_some_iff.1 K1.out).1 (fun e => by injection e with e; have := G1.out; omega)).trans K1.out); have G2 := Lib.hid (show w.heap.size + 2 ≤ g' from hg'.elim (fun e => by rw [e]; exact G1.out) (fun h => Nat.le_trans (by have := B1.out.size; have := G1.out; have := (Array.getElem?_eq_some_iff.1 K1.out).1; omega) h)); clear ht hg' hgr)
      | (go_at_call 34; refine (S.out _ _ _).mono ?_; rintro e w3 ⟨rfl, hb3⟩; have K3 := Lib.hid (keep_heap hb3 K2.out); have T3 := Lib.hid (T2.out.below hb3); have B3 := Lib.hid (below_end B2.out hb3); obtain ⟨d3, f3⟩ := one_cell K3.out; clear hb3))
    have c4 := (one_cell (set_row K3.out 0 (.slice (some ⟨g', 0, none⟩) D.length D.length))).1
    refine bodyPost_ret (v := .tuple #[.agg #[.slice (some ⟨g', 0, none⟩) D.length D.length], .bool (!b), .int .i64 0]) (by simp [results, Try.f10, go_sem, c4]) rfl ⟨_, rfl, TAt.row (set_far _ (by have := G2.out; omega) T3.out) (by have := G2.out; omega) LD.out, B3.out.setCell (p := ⟨w.heap.size + 1, 0, none⟩) (Nat.le_succ _) _⟩
  · have e1 : addA cs a = ([], false, askE cs a) := by unfold addA; rw [if_pos hg]
    rw [e1]
    have C := Lib.hid (openFor45_err v cs a _ hIA hm hg)
    obtain ⟨A, cap, rfl, -⟩ := h
    have c0 := (one_cell h0).1
    have B := Lib.hid hb
    have H1 := Lib.hid h1
    rw [hs] at C
    clear h0 h1 hb e1 hIA
    unfold SbAns sv at *
    dsimp only
    generalize cs.length = n at *
    generalize askE cs a = r at *
    have q : (r != 0) = true := by simpa using hg
    clear hg
    go_enter Try.func10, Try.ntmps10
    go_upto_region 1 with fail
    generalize (w.alloc (.cells #[.slice A n cap] 26)).alloc (.cells #[.slice none 0 0] 26) = W0 at *
    go_wp2_with (go_at_call 35; refine C.out.mono ?_; rintro e w1 ⟨rfl, hb1⟩; have B1 := Lib.hid (B.out.trans (hb1.mono (by omega))); have K1 := Lib.hid (keep_heap (hb1.mono (by omega)) H1.out); obtain ⟨d1, f1⟩ := one_cell K1.out; clear hb1)
    have c4 := (one_cell (set_row K1.out 0 (.slice none 0 0))).1
    refine bodyPost_ret (v := .tuple #[.agg #[.slice none 0 0], .bool false, .int .i64 r]) (by simp [results, Try.f10, go_sem, c4]) rfl ⟨_, rfl, row_nil _ _, B1.out.setCell (p := ⟨w.heap.size + 1, 0, none⟩) (Nat.le_succ _) _⟩
set_option maxRecDepth 100000 in
set_option maxHeartbeats 2000000 in
theorem drop29 (v : Value) (cs : List Int) (a : Int) (w : World) (h : IAt w v cs) (hm : cs.length ≤ 100000) :
    Calls Try.prog 9 #[sv v, .int .i64 a] w fun e w' => SbAns w (dropA cs a) e w' := by
  obtain ⟨h0, h1, hs, hb⟩ := two_boxes w (.cells #[v] 26) (.cells #[.slice none 0 0] 26)
  have hIA := h.below hb
  by_cases hg : askE cs a = 0
  · obtain ⟨hG, ha⟩ := ask_zero hg
    have e1 : dropA cs a = (dropF cs a, hasB cs a, 0) := by unfold dropA; rw [if_neg (by simp [hg])]
    rw [e1]
    have C := Lib.hid (openFor45_ok v cs a _ hIA hm hg)
    have F := Lib.hid (fun W g (ht : TAt W g cs) => drop50 g cs a W ht hG ha)
    have S := Lib.hid (fun g n W => set41 (some ⟨g, 0, none⟩) n n W)
    obtain ⟨A, cap, rfl, -⟩ := h
    have c0 := (one_cell h0).1
    have B := Lib.hid hb
    have H1 := Lib.hid h1
    have HS := Lib.hid hs
    rw [hs] at C
    clear h0 h1 hb hG hg hs e1 hIA
    unfold SbAns sv tv at *
    dsimp only
    have LN := Lib.hid (drop_len cs a)
    generalize dropF cs a = D at *
    generalize hasB cs a = b at *
    generalize cs.length = n at *
    go_enter Try.func9, Try.ntmps9
    go_upto_region 1 with fail
    generalize (w.alloc (.cells #[.slice A n cap] 26)).alloc (.cells #[.slice none 0 0] 26) = W0 at *
    go_wp2_with (first
      | (go_at_call 35; refine C.out.mono ?_; rintro e w1 ⟨g, rfl, hgs, ht, hb1⟩; have B1 := Lib.hid (B.out.trans (hb1.mono (by have := HS.out; omega))); have FW := Lib.hid (F.out _ _ ht); have G1 := Lib.hid hgs; have K1 := Lib.hid (keep_heap (hb1.mono (by have := HS.out; omega)) H1.out); clear hb1 ht hgs)
      | (go_at_call 36; refine FW.out.mono ?_; rintro e w2 ⟨rfl, ht, hgr⟩; have T2 := Lib.hid ht; have B2 := Lib.hid (grown_of_old B1.out hgr (by have := G1.out; omega)); have K2 := Lib.hid ((hgr.block _ (Array.getElem?_eq_some_iff.1 K1.out).1 (fun e => by injection e with e; have := G1.out; omega)).trans K1.out); clear ht hgr)
      | (go_at_call 34; refine (S.out _ _ _).mono ?_; rintro e w3 ⟨rfl, hb3⟩; have K3 := Lib.hid (keep_heap hb3 K2.out); have T3 := Lib.hid (T2.out.below hb3); have B3 := Lib.hid (below_end B2.out hb3); obtain ⟨d3, f3⟩ := one_cell K3.out; clear hb3))
    have c4 := (one_cell (set_row K3.out 0 (.slice (some ⟨g, 0, none⟩) n n))).1
    refine bodyPost_ret (v := .tuple #[.agg #[.slice (some ⟨g, 0, none⟩) n n], .bool b, .int .i64 0]) (by simp [results, Try.f9, go_sem, c4]) rfl ⟨_, rfl, by rw [← LN.out]; exact TAt.row (set_far _ (by have := G1.out; omega) T3.out) (by have := G1.out; omega) (by rw [LN.out]; exact hm), B3.out.setCell (p := ⟨w.heap.size + 1, 0, none⟩) (Nat.le_succ _) _⟩
  · have e1 : dropA cs a = ([], false, askE cs a) := by unfold dropA; rw [if_pos hg]
    rw [e1]
    have C := Lib.hid (openFor45_err v cs a _ hIA hm hg)
    obtain ⟨A, cap, rfl, -⟩ := h
    have c0 := (one_cell h0).1
    have B := Lib.hid hb
    have H1 := Lib.hid h1
    rw [hs] at C
    clear h0 h1 hb e1 hIA
    unfold SbAns sv at *
    dsimp only
    generalize cs.length = n at *
    generalize askE cs a = r at *
    have q : (r != 0) = true := by simpa using hg
    clear hg
    go_enter Try.func9, Try.ntmps9
    go_upto_region 1 with fail
    generalize (w.alloc (.cells #[.slice A n cap] 26)).alloc (.cells #[.slice none 0 0] 26) = W0 at *
    go_wp2_with (go_at_call 35; refine C.out.mono ?_; rintro e w1 ⟨rfl, hb1⟩; have B1 := Lib.hid (B.out.trans (hb1.mono (by omega))); have K1 := Lib.hid (keep_heap (hb1.mono (by omega)) H1.out); obtain ⟨d1, f1⟩ := one_cell K1.out; clear hb1)
    have c4 := (one_cell (set_row K1.out 0 (.slice none 0 0))).1
    refine bodyPost_ret (v := .tuple #[.agg #[.slice none 0 0], .bool false, .int .i64 r]) (by simp [results, Try.f9, go_sem, c4]) rfl ⟨_, rfl, row_nil _ _, B1.out.setCell (p := ⟨w.heap.size + 1, 0, none⟩) (Nat.le_succ _) _⟩
end Ytjkphacidpongaa
end Go.Proofs
