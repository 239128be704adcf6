/- add and addAll whole; drop. -/
import Derived.Test.YtjkphacidpongaaGreatG07
namespace Go.Proofs
namespace YtjkphacidpongaaGreat
open Go.RowKit

set_option maxRecDepth 100000 in
set_option maxHeartbeats 2000000 in
theorem add48_full (g : Nat) (cs : List Int) (a : Int) (W : World) (h : TAt W g cs) (hG : Good cs) (ha : 1 ≤ a ∧ a ≤ 1600) (hn : a ∉ cs) (hc : crowd (putF cs a) = true) :
    Calls Tryz.prog 103 #[tv g cs.length, .int .i64 a] W fun e W' => ∃ g', e = .returned (.tuple #[tv g' (anewF (putF cs a)).length, .bool true]) ∧ W.heap.size ≤ g' ∧ TAt W' g' (anewF (putF cs a)) ∧ W.grownBy W' (some g) := by
  have hO : Own W g cs := ⟨h, hG.zero, hG.tab⟩
  have hh := (hG.tab.hasF hG.zero (by omega)).2 hn
  obtain ⟨hr, hp2, hT⟩ := anew_room hG ha hn
  have F := Lib.hid (hO.find a ha)
  have hl : 0 < cs.length := by have := hG.tab.lo; omega
  have hm := hG.tab.hi
  have hp := pos_lt a hl (freeI cs a)
  have KC := Lib.hid (fun w1 (hb : Below W.heap.size W w1) => crowded56 (tv g (putF cs a).length) (putF cs a) (w1.setCell ⟨g, pos a cs.length (freeI cs a), none⟩ (.int .i64 a)) (TAt.iat ((h.below hb).set _ a)) (by rw [put_len]; omega))
  have AN := Lib.hid (fun w1 (hb : Below W.heap.size W w1) => anew61 g (putF cs a) (w1.setCell ⟨g, pos a cs.length (freeI cs a), none⟩ (.int .i64 a)) ((h.below hb).set _ a) hT hr hp2)
  rw [put_len, hc] at KC
  rw [put_len] at AN
  have TC := Lib.hid (fun w1 (hb : Below W.heap.size W w1) => (h.below hb).cell hp)
  rw [hh, find_free hh] at F
  have hp' : (pos a cs.length (freeI cs a) : Int) < (cs.length : Int) := by omega
  have ad : (⟨g, 0, none⟩ : Addr).add (pos a cs.length (freeI cs a)) = ⟨g, pos a cs.length (freeI cs a), none⟩ := by unfold Addr.add; split <;> simp_all
  unfold tv at *
  generalize pos a cs.length (freeI cs a) = p at *
  generalize anewF (putF cs a) = D at *
  generalize D.length = N at *
  generalize cs.getD p 0 = old at *
  generalize cs.length = n at *
  clear h hG hO hh hr hp2 hT hc hn
  go_enter Tryz.func103, Tryz.ntmps103
  go_wp2_with (first
    | (go_at_call 119; refine F.out.mono ?_; rintro e w1 ⟨rfl, hb⟩; have B := Lib.hid hb; clear hb; obtain ⟨t1, f1⟩ := TC.out _ B.out)
    | (go_at_call 126; refine (KC.out _ B.out).mono ?_; rintro e w2 ⟨rfl, rfl⟩)
    | (go_at_call 127; refine (AN.out _ B.out).mono ?_; rintro e w3 ⟨g', rfl, hgs, ht, hb3⟩; have T3 := Lib.hid ht; have B3 := Lib.hid hb3; have G3 := Lib.hid hgs; clear ht hb3 hgs))
  refine bodyPost_ret (v := .tuple #[.slice (some ⟨g', 0, none⟩) N N, .bool true]) (by simp [results, Tryz.f103, go_sem]) rfl ⟨g', rfl, ?_, T3.out, ?_⟩
  · have h1 := G3.out; have h2 := B.out.size; rw [size_set] at h1; omega
  · exact grown_below (below_grown B.out (grown_set _ g p _)) B3.out
/-- what add answers -/
structure AddAns (W : World) (g : Nat) (cs : List Int) (a : Int) (e : Ending) (W' : World) : Prop where
  ex : ∃ g', e = .returned (.tuple #[tv g' (addF cs a).length, .bool (!hasB cs a)]) ∧ (g' = g ∨ W.heap.size ≤ g') ∧ TAt W' g' (addF cs a)
  grown : W.grownBy W' (some g)
theorem add48 (g : Nat) (cs : List Int) (a : Int) (W : World) (h : TAt W g cs) (hG : Good cs) (ha : 1 ≤ a ∧ a ≤ 1600) :
    Calls Tryz.prog 103 #[tv g cs.length, .int .i64 a] W fun e W' => AddAns W g cs a e W' := by
  by_cases hm : a ∈ cs
  · have hh := (hG.tab.has hG.zero (by omega)).2 hm
    refine (add48_in g cs a W ⟨h, hG.zero, hG.tab⟩ ha hh).mono ?_
    rintro e W' ⟨rfl, hb⟩
    refine ⟨⟨g, ?_, .inl rfl, ?_⟩, grown_of_below hb _⟩
    · rw [add_in hG (by omega) hm, hh]; rfl
    · rw [add_in hG (by omega) hm]; exact h.below hb
  · have hh := (hG.tab.hasF hG.zero (by omega)).2 hm
    cases hc : crowd (putF cs a) with
    | false =>
      have hs : StepOk cs a := ⟨hG.tab, hG.zero, ha, hm, hc⟩
      refine (add48_calm g cs a W h hs).mono ?_
      rintro e W' ⟨rfl, ht, hg⟩
      refine ⟨⟨g, ?_, .inl rfl, ?_⟩, hg⟩
      · rw [hs.add, hh, put_len]; rfl
      · rw [hs.add]; exact ht
    | true =>
      refine (add48_full g cs a W h hG ha hm hc).mono ?_
      rintro e W' ⟨g', rfl, hgs, ht, hg⟩
      have e0 : addF cs a = anewF (putF cs a) := by unfold addF; rw [hh, if_neg (by simp), if_pos hc]
      refine ⟨⟨g', ?_, .inr hgs, ?_⟩, hg⟩
      · rw [e0, hh]; rfl
      · rw [e0]; exact ht
theorem adds_upto {l cs : List Int} (h : Good cs) (hl : ∀ x ∈ l, 1 ≤ x ∧ x ≤ 1600) (k : Nat) : Good ((l.take k).foldl addF cs) := (adds_ok (l.take k) h (fun x hx => hl x (List.mem_of_mem_take hx))).1
set_option maxRecDepth 100000 in
set_option maxHeartbeats 1000000 in
theorem addAll52 (g : Nat) (cs : List Int) (v : Value) (l : List Int) (W : World) (h : TAt W g cs) (hv : IAt W v l) (hA : Apart v g) (hG : Good cs) (hl : ∀ x ∈ l, 1 ≤ x ∧ x ≤ 1600) (hll : l.length ≤ 100000) :
    Calls Tryz.prog 137 #[tv g cs.length, v] W fun e W' => ∃ g', e = .returned (tv g' (l.foldl addF cs).length) ∧ (g' = g ∨ W.heap.size ≤ g') ∧ TAt W' g' (l.foldl addF cs) ∧ W.grownBy W' (some g) := by
  have AD := Lib.hid (fun k (hk : k < l.length) X g2 (hx : TAt X g2 ((l.take k).foldl addF cs)) => add48 g2 _ (l.getD k 0) X hx (adds_upto hG hl k) (hl _ (getD_mem hk)))
  have SN := Lib.hid (fun k (hk : k < l.length) => (show (l.take (k + 1)).foldl addF cs = addF ((l.take k).foldl addF cs) (l.getD k 0) by rw [take_snoc hk, List.foldl_append]; rfl))
  have VC := Lib.hid (fun X (hx : W.grownBy X (some g)) => hv.apart hx hA)
  obtain ⟨A, cap, rfl, -⟩ := hv
  have H := Lib.hid h
  have TL := Lib.hid (List.take_length (l := l))
  obtain ⟨m, hm2⟩ : ∃ m, l.length = m := ⟨_, rfl⟩
  have VX := Lib.hid (fun X (hx : W.grownBy X (some g)) k (hk : k < m) => (show ∃ b off, A = some ⟨b, off, none⟩ ∧ X.cell? ⟨b, off + k, none⟩ = some (.int .i64 (l.getD k 0)) by
    obtain ⟨A', cap', e, hc⟩ := VC.out X hx
    cases e
    obtain ⟨b, off, h1, h2⟩ := hc (by omega)
    exact ⟨b, off, h1, h2 k (by omega)⟩))
  rw [hm2] at AD SN TL hll ⊢
  have H0 := Lib.hid (show ((l.take 0).foldl addF cs) = cs by simp)
  unfold tv at *
  clear h hA VC hm2 hG hl
  go_enter Tryz.func137, Tryz.ntmps137
  go_wp2
  go_loopw [0, 6, 9] (fun t a i wr => ∃ k g2 n2 : Nat, k ≤ m ∧ i = .int .i64 k ∧ t = .slice (some ⟨g2, 0, none⟩) n2 n2 ∧ Hid (n2 = ((l.take k).foldl addF cs).length) ∧ Hid (g2 = g ∨ W.heap.size ≤ g2) ∧ Hid (TAt wr g2 ((l.take k).foldl addF cs)) ∧ Hid (W.grownBy wr (some g))) (fun _ _ i _ => m - (intOf i).toNat)
  case atStart => exact ⟨0, g, cs.length, by omega, rfl, rfl, Lib.hid (by rw [H0.out]), Lib.hid (.inl rfl), Lib.hid (by rw [H0.out]; exact H.out), Lib.hid ⟨rfl, rfl, rfl, Nat.le_refl _, fun _ _ _ => rfl⟩⟩
  case round =>
    obtain ⟨k, g2, n2, hk, rfl, rfl, HN, HO, HT, HG⟩ := hrel
    by_cases hlt : k < m
    rotate_left
    · have hlt' : ¬ (k : Int) < (m : Int) := by omega
      obtain rfl : k = m := by omega
      rw [TL.out] at HT HN
      clear AD SN VX TL
      go_wp2
      refine bodyPost_ret (v := .slice (some ⟨g2, 0, none⟩) n2 n2) (by simp [results, Tryz.f137, go_sem]) rfl ⟨g2, by rw [← HN.out], HO.out, HT.out, HG.out⟩
    have hlt' : (k : Int) < (m : Int) := by omega
    obtain ⟨b1, o1, rfl, ca⟩ := VX.out _ HG.out k hlt
    have ad1 : (⟨b1, o1, none⟩ : Addr).add k = ⟨b1, o1 + k, none⟩ := by unfold Addr.add; split <;> simp_all
    have C := Lib.hid (AD.out k hlt wr g2 HT.out)
    rw [← HN.out] at C
    have S := Lib.hid (SN.out k hlt)
    generalize l.getD k 0 = x at *
    generalize ((l.take k).foldl addF cs) = d at *
    go_wp2_with (go_at_call 103; refine C.out.mono ?_; rintro e w1 ⟨⟨g3, he, hg3, ht⟩, hg⟩; subst he; unfold tv; have T1 := Lib.hid ht; have O1 := Lib.hid (show g3 = g ∨ W.heap.size ≤ g3 from hg3.elim (fun e => by rw [e]; exact HO.out) (fun h => .inr (Nat.le_trans HG.out.size h))); have G1 := Lib.hid (grown_step HG.out hg HO.out); clear ht hg hg3)
    refine ⟨⟨k + 1, g3, (addF d x).length, by omega, by simp, rfl, Lib.hid (by rw [S.out]), O1, Lib.hid (by rw [S.out]; exact T1.out), G1⟩, ?_⟩
    show m - ((k : Int) + 1).toNat < m - ((k : Int)).toNat
    omega
set_option maxRecDepth 100000 in
set_option maxHeartbeats 1000000 in
theorem drop50 (g : Nat) (cs : List Int) (a : Int) (W : World) (h : TAt W g cs) (hG : Good cs) (ha : 1 ≤ a ∧ a ≤ 1600) :
    Calls Tryz.prog 96 #[tv g cs.length, .int .i64 a] W fun e W' => e = .returned (.bool (hasB cs a)) ∧ TAt W' g (dropF cs a) ∧ W.grownBy W' (some g) := by
  have F := Lib.hid ((Own.mk h hG.zero hG.tab).find a ha)
  have hl : 0 < cs.length := by have := hG.tab.lo; omega
  cases hh : hasB cs a with
  | false =>
    rw [hh] at F
    have TA := Lib.hid (fun w1 (hb : Below W.heap.size W w1) => h.below hb)
    rw [drop_no hh]
    unfold tv at *
    generalize findF cs a = p at *
    generalize cs.length = n at *
    clear h hG hh
    go_enter Tryz.func96, Tryz.ntmps96
    go_wp2_with (go_at_call 119; refine F.out.mono ?_; rintro e w1 ⟨rfl, hb⟩; have B := Lib.hid hb; clear hb)
    refine bodyPost_ret (v := .bool false) (by simp [results, Tryz.f96, go_sem]) rfl ⟨rfl, TA.out _ B.out, grown_of_below B.out _⟩
  | true =>
    have hp := pos_lt a hl (stopI cs a)
    rw [hh, find_stop_at hh] at F
    have TA := Lib.hid (fun w1 (hb : Below W.heap.size W w1) => (h.below hb).set (pos a cs.length (stopI cs a)) (-1))
    have TC := Lib.hid (fun w1 (hb : Below W.heap.size W w1) => (h.below hb).cell hp)
    rw [drop_yes hh]
    have hp' : (pos a cs.length (stopI cs a) : Int) < (cs.length : Int) := by omega
    have ad : (⟨g, 0, none⟩ : Addr).add (pos a cs.length (stopI cs a)) = ⟨g, pos a cs.length (stopI cs a), none⟩ := by unfold Addr.add; split <;> simp_all
    unfold tv at *
    generalize pos a cs.length (stopI cs a) = p at *
    generalize cs.set p (-1) = ds at *
    generalize cs.getD p 0 = old at *
    generalize cs.length = n at *
    clear h hG hh
    go_enter Tryz.func96, Tryz.ntmps96
    go_wp2_with (go_at_call 119; refine F.out.mono ?_; rintro e w1 ⟨rfl, hb⟩; have B := Lib.hid hb; clear hb; obtain ⟨t1, f1⟩ := TC.out _ B.out)
    refine bodyPost_ret (v := .bool true) (by simp [results, Tryz.f96, go_sem]) rfl ⟨rfl, TA.out _ B.out, below_grown B.out (grown_set _ g p _)⟩
end YtjkphacidpongaaGreat
end Go.Proofs
/- Has, Add and Drop, the program's. -/
namespace Go.Proofs
namespace YtjkphacidpongaaGreat
open Go.RowKit

theorem two_boxes (w : World) (o0 o1 : Obj) : ((w.alloc o0).alloc o1).heap[w.heap.size]? = some o0 ∧ ((w.alloc o0).alloc o1).heap[w.heap.size + 1]? = some o1 ∧ ((w.alloc o0).alloc o1).heap.size = w.heap.size + 2 ∧ Below w.heap.size w ((w.alloc o0).alloc o1) := by
  refine ⟨?_, ?_, by simp, ((Below.refl _ _).alloc (Nat.le_refl _) _).alloc (by simp) _⟩
  · rw [Below.heap_alloc _ _ _ (by simp)]; exact World.alloc_heap_new w o0
  · have := World.alloc_heap_new (w.alloc o0) o1; rwa [World.size_alloc] at this
/-- a set that a call answers: its cells are these numbers, in memory of its own -/
def Row (w w' : World) (v : Value) (zs : List Int) : Prop := w'.ownsRow w.heap.size 3 1 v zs.length (ic zs)
theorem row_nil (w w' : World) : Row w w' (.slice none 0 0) [] := World.ownsRow_nil _ _ _ _
theorem TAt.row {w W : World} {g : Nat} {zs : List Int} (h : TAt W g zs) (hg : w.heap.size ≤ g) (hl : zs.length ≤ 100000) : Row w W (tv g zs.length) zs := h.own hg (by unfold maxLen; omega)
def hasA (cs : List Int) (a : Int) : Bool × Int := if askE cs a ≠ 0 then (false, askE cs a) else (hasB cs a, 0)
def addA (cs : List Int) (a : Int) : List Int × Bool × Int := if askE cs a ≠ 0 then ([], false, askE cs a) else (addF cs a, !hasB cs a, 0)
def dropA (cs : List Int) (a : Int) : List Int × Bool × Int := if askE cs a ≠ 0 then ([], false, askE cs a) else (dropF cs a, hasB cs a, 0)
/-- a set, a Boolean and an error -/
def SbAns (w : World) (R : List Int × Bool × Int) (e : Ending) (w' : World) : Prop := ∃ v, e = .returned (.tuple #[sv v, .bool R.2.1, .int .i64 R.2.2]) ∧ Row w w' v R.1 ∧ Below w.heap.size w w'
set_option maxRecDepth 100000 in
set_option maxHeartbeats 2000000 in
theorem add27 (v : Value) (cs : List Int) (a : Int) (w : World) (h : IAt w v cs) (hm : cs.length ≤ 100000) :
    Calls Tryz.prog 85 #[sv v, .int .i64 a] w fun e w' => SbAns w (addA cs a) e w' := by
  obtain ⟨h0, h1, hs, hb⟩ := two_boxes w (.cells #[v] 27) (.cells #[.slice none 0 0] 27)
  have hIA := h.below hb
  by_cases hg : askE cs a = 0
  · obtain ⟨hG, ha⟩ := ask_zero hg
    have e1 : addA cs a = (addF cs a, !hasB cs a, 0) := by unfold addA; rw [if_neg (by simp [hg])]
    rw [e1]
    have C := Lib.hid (openFor45_ok v cs a _ hIA hm hg)
    have F := Lib.hid (fun W g (ht : TAt W g cs) => add48 g cs a W ht hG ha)
    have S := Lib.hid (fun g n W => set41 (some ⟨g, 0, none⟩) n n W)
    have LD := Lib.hid (show (addF cs a).length ≤ 100000 by have := (add_ok hG ha).good.tab.hi; omega)
    obtain ⟨A, cap, rfl, -⟩ := h
    have c0 := (one_cell h0).1
    have B := Lib.hid hb
    have H1 := Lib.hid h1
    have HS := Lib.hid hs
    rw [hs] at C
    clear h0 h1 hb hG hg hs e1 hIA
    unfold SbAns sv tv at *
    dsimp only
    generalize hD : addF cs a = D at *
    generalize hB : hasB cs a = b at *
    have HD := Lib.hid hD
    have HB := Lib.hid hB
    clear hD hB
    generalize cs.length = n at *
    go_enter Tryz.func85, Tryz.ntmps85
    go_upto_region 1 with fail
    generalize (w.alloc (.cells #[.slice A n cap] 27)).alloc (.cells #[.slice none 0 0] 27) = W0 at *
    go_wp2_with (first
      | (go_at_call 102; refine C.out.mono ?_; rintro e w1 ⟨g, rfl, hgs, ht, hb1⟩; have B1 := Lib.hid (B.out.trans (hb1.mono (by have := HS.out; omega))); have FW := Lib.hid (F.out _ _ ht); have G1 := Lib.hid hgs; have K1 := Lib.hid (keep_heap (hb1.mono (by have := HS.out; omega)) H1.out); clear hb1 ht hgs)
      | (go_at_call 103; refine FW.out.mono ?_; rintro e w2 ⟨⟨g', he, hg', ht⟩, hgr⟩; rw [HD.out, HB.out] at he; rw [HD.out] at ht; subst he; unfold tv; have T2 := Lib.hid ht; have B2 := Lib.hid (grown_of_old B1.out hgr (by have := G1.out; omega)); have K2 := Lib.hid ((hgr.block _ (Array.getElem?_eq_some_iff.1 K1.out).1 (fun e => by injection e with e; have := G1.out; omega)).trans K1.out); have G2 := Lib.hid (show w.heap.size + 2 ≤ g' from hg'.elim (fun e => by rw [e]; exact G1.out) (fun h => Nat.le_trans (by have := B1.out.size; have := G1.out; have := (Array.getElem?_eq_some_iff.1 K1.out).1; omega) h)); clear ht hg' hgr)
      | (go_at_call 78; refine (S.out _ _ _).mono ?_; rintro e w3 ⟨rfl, hb3⟩; have K3 := Lib.hid (keep_heap hb3 K2.out); have T3 := Lib.hid (T2.out.below hb3); have B3 := Lib.hid (below_end B2.out hb3); obtain ⟨d3, f3⟩ := one_cell K3.out; clear hb3))
    have c4 := (one_cell (set_row K3.out 0 (.slice (some ⟨g', 0, none⟩) D.length D.length))).1
    refine bodyPost_ret (v := .tuple #[.agg #[.slice (some ⟨g', 0, none⟩) D.length D.length], .bool (!b), .int .i64 0]) (by simp [results, Tryz.f85, go_sem, c4]) rfl ⟨_, rfl, TAt.row (set_far _ (by have := G2.out; omega) T3.out) (by have := G2.out; omega) LD.out, B3.out.setCell (p := ⟨w.heap.size + 1, 0, none⟩) (Nat.le_succ _) _⟩
  · have e1 : addA cs a = ([], false, askE cs a) := by unfold addA; rw [if_pos hg]
    rw [e1]
    have C := Lib.hid (openFor45_err v cs a _ hIA hm hg)
    obtain ⟨A, cap, rfl, -⟩ := h
    have c0 := (one_cell h0).1
    have B := Lib.hid hb
    have H1 := Lib.hid h1
    rw [hs] at C
    clear h0 h1 hb e1 hIA
    unfold SbAns sv at *
    dsimp only
    generalize cs.length = n at *
    generalize askE cs a = r at *
    have q : (r != 0) = true := by simpa using hg
    clear hg
    go_enter Tryz.func85, Tryz.ntmps85
    go_upto_region 1 with fail
    generalize (w.alloc (.cells #[.slice A n cap] 27)).alloc (.cells #[.slice none 0 0] 27) = W0 at *
    go_wp2_with (go_at_call 102; refine C.out.mono ?_; rintro e w1 ⟨rfl, hb1⟩; have B1 := Lib.hid (B.out.trans (hb1.mono (by omega))); have K1 := Lib.hid (keep_heap (hb1.mono (by omega)) H1.out); obtain ⟨d1, f1⟩ := one_cell K1.out; clear hb1)
    have c4 := (one_cell (set_row K1.out 0 (.slice none 0 0))).1
    refine bodyPost_ret (v := .tuple #[.agg #[.slice none 0 0], .bool false, .int .i64 r]) (by simp [results, Tryz.f85, go_sem, c4]) rfl ⟨_, rfl, row_nil _ _, B1.out.setCell (p := ⟨w.heap.size + 1, 0, none⟩) (Nat.le_succ _) _⟩
set_option maxRecDepth 100000 in
set_option maxHeartbeats 2000000 in
theorem drop29 (v : Value) (cs : List Int) (a : Int) (w : World) (h : IAt w v cs) (hm : cs.length ≤ 100000) :
    Calls Tryz.prog 84 #[sv v, .int .i64 a] w fun e w' => SbAns w (dropA cs a) e w' := by
  obtain ⟨h0, h1, hs, hb⟩ := two_boxes w (.cells #[v] 27) (.cells #[.slice none 0 0] 27)
  have hIA := h.below hb
  by_cases hg : askE cs a = 0
  · obtain ⟨hG, ha⟩ := ask_zero hg
    have e1 : dropA cs a = (dropF cs a, hasB cs a, 0) := by unfold dropA; rw [if_neg (by simp [hg])]
    rw [e1]
    have C := Lib.hid (openFor45_ok v cs a _ hIA hm hg)
    have F := Lib.hid (fun W g (ht : TAt W g cs) => drop50 g cs a W ht hG ha)
    have S := Lib.hid (fun g n W => set41 (some ⟨g, 0, none⟩) n n W)
    obtain ⟨A, cap, rfl, -⟩ := h
    have c0 := (one_cell h0).1
    have B := Lib.hid hb
    have H1 := Lib.hid h1
    have HS := Lib.hid hs
    rw [hs] at C
    clear h0 h1 hb hG hg hs e1 hIA
    unfold SbAns sv tv at *
    dsimp only
    have LN := Lib.hid (drop_len cs a)
    generalize dropF cs a = D at *
    generalize hasB cs a = b at *
    generalize cs.length = n at *
    go_enter Tryz.func84, Tryz.ntmps84
    go_upto_region 1 with fail
    generalize (w.alloc (.cells #[.slice A n cap] 27)).alloc (.cells #[.slice none 0 0] 27) = W0 at *
    go_wp2_with (first
      | (go_at_call 102; refine C.out.mono ?_; rintro e w1 ⟨g, rfl, hgs, ht, hb1⟩; have B1 := Lib.hid (B.out.trans (hb1.mono (by have := HS.out; omega))); have FW := Lib.hid (F.out _ _ ht); have G1 := Lib.hid hgs; have K1 := Lib.hid (keep_heap (hb1.mono (by have := HS.out; omega)) H1.out); clear hb1 ht hgs)
      | (go_at_call 96; refine FW.out.mono ?_; rintro e w2 ⟨rfl, ht, hgr⟩; have T2 := Lib.hid ht; have B2 := Lib.hid (grown_of_old B1.out hgr (by have := G1.out; omega)); have K2 := Lib.hid ((hgr.block _ (Array.getElem?_eq_some_iff.1 K1.out).1 (fun e => by injection e with e; have := G1.out; omega)).trans K1.out); clear ht hgr)
      | (go_at_call 78; refine (S.out _ _ _).mono ?_; rintro e w3 ⟨rfl, hb3⟩; have K3 := Lib.hid (keep_heap hb3 K2.out); have T3 := Lib.hid (T2.out.below hb3); have B3 := Lib.hid (below_end B2.out hb3); obtain ⟨d3, f3⟩ := one_cell K3.out; clear hb3))
    have c4 := (one_cell (set_row K3.out 0 (.slice (some ⟨g, 0, none⟩) n n))).1
    refine bodyPost_ret (v := .tuple #[.agg #[.slice (some ⟨g, 0, none⟩) n n], .bool b, .int .i64 0]) (by simp [results, Tryz.f84, go_sem, c4]) rfl ⟨_, rfl, by rw [← LN.out]; exact TAt.row (set_far _ (by have := G1.out; omega) T3.out) (by have := G1.out; omega) (by rw [LN.out]; exact hm), B3.out.setCell (p := ⟨w.heap.size + 1, 0, none⟩) (Nat.le_succ _) _⟩
  · have e1 : dropA cs a = ([], false, askE cs a) := by unfold dropA; rw [if_pos hg]
    rw [e1]
    have C := Lib.hid (openFor45_err v cs a _ hIA hm hg)
    obtain ⟨A, cap, rfl, -⟩ := h
    have c0 := (one_cell h0).1
    have B := Lib.hid hb
    have H1 := Lib.hid h1
    rw [hs] at C
    clear h0 h1 hb e1 hIA
    unfold SbAns sv at *
    dsimp only
    generalize cs.length = n at *
    generalize askE cs a = r at *
    have q : (r != 0) = true := by simpa using hg
    clear hg
    go_enter Tryz.func84, Tryz.ntmps84
    go_upto_region 1 with fail
    generalize (w.alloc (.cells #[.slice A n cap] 27)).alloc (.cells #[.slice none 0 0] 27) = W0 at *
    go_wp2_with (go_at_call 102; refine C.out.mono ?_; rintro e w1 ⟨rfl, hb1⟩; have B1 := Lib.hid (B.out.trans (hb1.mono (by omega))); have K1 := Lib.hid (keep_heap (hb1.mono (by omega)) H1.out); obtain ⟨d1, f1⟩ := one_cell K1.out; clear hb1)
    have c4 := (one_cell (set_row K1.out 0 (.slice none 0 0))).1
    refine bodyPost_ret (v := .tuple #[.agg #[.slice none 0 0], .bool false, .int .i64 r]) (by simp [results, Tryz.f84, go_sem, c4]) rfl ⟨_, rfl, row_nil _ _, B1.out.setCell (p := ⟨w.heap.size + 1, 0, none⟩) (Nat.le_succ _) _⟩
end YtjkphacidpongaaGreat
end Go.Proofs
