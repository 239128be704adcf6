/- Purge, the program's. -/
import Derived.Test.YtjkphacidpongaaSlAd
namespace Go.Proofs
namespace Ytjkphacidpongaa
open Go.RowKit

def purgeA (cs : List Int) (f t : Int) : List Int × Int × Int := if (chkF cs).2 ≠ 0 then ([], 0, (chkF cs).2) else (purgeF cs f t, ((inF f t (srt cs)).length : Int), 0)
/-- a set, a number and an error -/
def SnAns (w : World) (R : List Int × Int × Int) (e : Ending) (w' : World) : Prop := ∃ v, e = .returned (.tuple #[sv v, .int .i64 R.2.1, .int .i64 R.2.2]) ∧ Row w w' v R.1 ∧ Below w.heap.size w w'
theorem purge_1 {cs : List Int} {f t : Int} (h : (chkF cs).2 ≠ 0) : purgeA cs f t = ([], 0, (chkF cs).2) := by unfold purgeA; rw [if_pos h]
theorem purge_2 {cs : List Int} {f t : Int} (h : ¬ (chkF cs).2 ≠ 0) : purgeA cs f t = (purgeF cs f t, ((inF f t (srt cs)).length : Int), 0) := by unfold purgeA; rw [if_neg h]
theorem purge_len (cs : List Int) (f t : Int) : (purgeF cs f t).length = cs.length := by unfold purgeF; rw [List.length_map]
theorem foldl_take_snoc (F : List Int → Int → List Int) (l : List Int) (cs : List Int) {k : Nat} (hk : k < l.length) : (l.take (k + 1)).foldl F cs = F ((l.take k).foldl F cs) (l.getD k 0) := by
  rw [take_snoc hk, List.foldl_append]; rfl
theorem drops_len : ∀ (l : List Int) (cs : List Int), (l.foldl dropF cs).length = cs.length
  | [], _ => rfl
  | a :: l, cs => by rw [List.foldl_cons, drops_len l, drop_len]
set_option maxRecDepth 100000 in
set_option maxHeartbeats 2000000 in
theorem purge35 (v : Value) (cs : List Int) (f t : Int) (w : World) (h : IAt w v cs) (hm : cs.length ≤ 100000) :
    Calls Try.prog 60 #[sv v, .int .i64 f, .int .i64 t] w fun e w' => SnAns w (purgeA cs f t) e w' := by
  obtain ⟨h0, h1, hs, hb⟩ := two_boxes w (.cells #[v] 26) (.cells #[.slice none 0 0] 26)
  have hIA := h.below hb
  have B := Lib.hid hb
  have H1 := Lib.hid h1
  have HS := Lib.hid hs
  by_cases hg : (chkF cs).2 ≠ 0
  · rw [purge_1 hg]
    have C := Lib.hid (open42_err v cs _ hIA hm hg)
    obtain ⟨A, cap, rfl, -⟩ := h
    have c0 := (one_cell h0).1
    unfold SnAns sv at *
    generalize cs.length = n at *
    generalize (chkF cs).2 = r at *
    have q : (r != 0) = true := by simpa using hg
    clear h0 h1 hb hs hIA hg
    go_enter Try.func60, Try.ntmps60
    go_upto_region 1 with fail
    generalize (w.alloc (.cells #[.slice A n cap] 26)).alloc (.cells #[.slice none 0 0] 26) = W0 at *
    go_wp2_with (go_at_call 66; refine C.out.mono ?_; rintro e w1 ⟨rfl, hb1⟩; have B1 := Lib.hid (below_end B.out hb1); have K1 := Lib.hid (keep_heap hb1 H1.out); obtain ⟨d1, f1⟩ := one_cell K1.out; clear hb1)
    have c4 := (one_cell (set_row K1.out 0 (.slice none 0 0))).1
    refine bodyPost_ret (v := .tuple #[.agg #[.slice none 0 0], .int .i64 0, .int .i64 r]) (by simp [results, Try.f60, go_sem, c4]) rfl ⟨_, rfl, row_nil _ _, B1.out.setCell (p := ⟨w.heap.size + 1, 0, none⟩) (by simp) _⟩
  have hG := good_of_chk (Classical.byContradiction fun h => hg h)
  have C := Lib.hid (open42_ok v cs _ hIA hm hG)
  rw [purge_2 hg]
  have WI := Lib.hid (fun X g (ht : TAt X g cs) => within43 (tv g cs.length) cs f t X ht.iat hm)
  rw [wi_tab hG.tab] at WI
  have hpos : ∀ x ∈ inF f t (srt cs), 0 < x := in_pos
  have hrng : ∀ x ∈ inF f t (srt cs), 1 ≤ x ∧ x ≤ 1600 := fun x hx => (mem_srt.1 (List.mem_filter.1 hx).1).1
  have hll : (inF f t (srt cs)).length ≤ 1600 := Nat.le_trans (List.length_filter_le _ _) (srt_len cs)
  have DR := Lib.hid (fun k (hk : k < (inF f t (srt cs)).length) X g (hx : TAt X g (((inF f t (srt cs)).take k).foldl dropF cs)) => drop50 g _ ((inF f t (srt cs)).getD k 0) X hx (drops ((inF f t (srt cs)).take k) hG (fun x hx => hpos x (List.mem_of_mem_take hx))).1 (hrng _ (getD_mem hk)))
  have LN := Lib.hid (fun k => drops_len ((inF f t (srt cs)).take k) cs)
  have PE := Lib.hid (purge_eq hG f t)
  have PL := Lib.hid (purge_len cs f t)
  have S := Lib.hid (fun g n W => set41 (some ⟨g, 0, none⟩) n n W)
  obtain ⟨D, hD⟩ : ∃ D, purgeF cs f t = D := ⟨_, rfl⟩
  rw [hD] at PE PL ⊢
  obtain ⟨A, cap, rfl, -⟩ := h
  have c0 := (one_cell h0).1
  unfold SnAns sv tv at *
  dsimp only
  generalize inF f t (srt cs) = L at *
  have TL := Lib.hid (List.take_length (l := L))
  have SN := Lib.hid (fun k (hk : k < L.length) => foldl_take_snoc dropF L cs hk)
  obtain ⟨n, hn⟩ : ∃ n, cs.length = n := ⟨_, rfl⟩
  rw [hn] at hm C WI LN PL c0 hIA B H1 HS
  obtain ⟨m, hm2⟩ : ∃ m, L.length = m := ⟨_, rfl⟩
  have HM := Lib.hid hm2
  rw [hm2] at hll DR TL SN ⊢
  clear h0 h1 hb hs hIA hg hG hD hm2 hpos hrng
  rw [hn]
  clear hn
  go_enter Try.func60, Try.ntmps60
  go_upto_region 1 with fail
  generalize (w.alloc (.cells #[.slice A n cap] 26)).alloc (.cells #[.slice none 0 0] 26) = W0 at *
  go_upto_region 6 with (first
    | (go_at_call 66; refine C.out.mono ?_; rintro e w1 ⟨g, rfl, hgs, ht, hb1⟩; have B1 := Lib.hid (below_end B.out hb1); have K1 := Lib.hid (keep_heap hb1 H1.out); have T1 := Lib.hid ht; have G1 := Lib.hid (show w.heap.size + 2 ≤ g by have := HS.out; omega); clear hb1 hgs ht)
    | (go_at_call 69; refine (WI.out _ _ T1.out).mono ?_; rintro e w2 ⟨x, rfl, ho, hb2⟩; have B2 := Lib.hid (below_end B1.out hb2); have K2 := Lib.hid (keep_heap hb2 K1.out); have T2 := Lib.hid (T1.out.below hb2); have O2 := Lib.hid (IAt.of_own ho); have F2 := Lib.hid (own_far ho T1.out.lt); obtain ⟨A', c', rfl⟩ := own_form ho; clear hb2 ho))
  have VX := Lib.hid (fun X (hx : w2.grownBy X (some g)) k (hk : k < m) => (show ∃ b off, A' = some ⟨b, off, none⟩ ∧ X.cell? ⟨b, off + k, none⟩ = some (.int .i64 (L.getD k 0)) by
    obtain ⟨A1, cap', e, hc⟩ := O2.out.apart hx F2.out
    cases e
    obtain ⟨b, off, h1, h2⟩ := hc (by rw [HM.out]; omega)
    exact ⟨b, off, h1, h2 k (by rw [HM.out]; omega)⟩))
  have T0 := Lib.hid (show TAt w2 g ((L.take 0).foldl dropF cs) from T2.out)
  rw [HM.out]
  go_wp2
  go_loopw [12, 28] (fun y i wr => ∃ k : Nat, k ≤ m ∧ i = .int .i64 k ∧ Hid (TAt wr g ((L.take k).foldl dropF cs)) ∧ Hid (w2.grownBy wr (some g))) (fun _ i _ => m - (intOf i).toNat)
  case atStart => exact ⟨0, by omega, rfl, T0, Lib.hid ⟨rfl, rfl, rfl, Nat.le_refl _, fun _ _ _ => rfl⟩⟩
  case round =>
    obtain ⟨k, hk, rfl, HT, HG⟩ := hrel
    by_cases hlt : k < m
    · have hlt' : (k : Int) < (m : Int) := by omega
      obtain ⟨b1, o1, rfl, ca⟩ := VX.out _ HG.out k hlt
      have ad1 : (⟨b1, o1, none⟩ : Addr).add k = ⟨b1, o1 + k, none⟩ := by unfold Addr.add; split <;> simp_all
      have CD := Lib.hid (DR.out k hlt wr g HT.out)
      rw [LN.out] at CD
      have SK := Lib.hid (SN.out k hlt)
      generalize L.getD k 0 = x at *
      go_wp2_with (go_at_call 36; refine CD.out.mono ?_; rintro e w3 ⟨rfl, ht, hgr⟩; have T3 := Lib.hid ht; have G3 := Lib.hid (grown_step HG.out hgr (.inl rfl)); clear ht hgr)
      refine ⟨⟨k + 1, by omega, by simp, Lib.hid (by rw [SK.out]; exact T3.out), G3⟩, ?_⟩
      show m - ((k : Int) + 1).toNat < m - ((k : Int)).toNat
      omega
    · have hlt' : ¬ (k : Int) < (m : Int) := by omega
      obtain rfl : k = m := by omega
      have T3 := Lib.hid (show TAt wr g D by have := HT.out; rwa [TL.out, PE.out] at this)
      have B3 := Lib.hid (grown_of_old B2.out HG.out (by have := G1.out; omega))
      have K3 := Lib.hid ((HG.out.block _ (Array.getElem?_eq_some_iff.1 K2.out).1 (fun e => by injection e with e; have := G1.out; omega)).trans K2.out)
      clear HT DR VX
      go_wp2_with (go_at_call 34; refine (S.out _ _ _).mono ?_; rintro e w4 ⟨rfl, hb4⟩; have K4 := Lib.hid (keep_heap hb4 K3.out); have T4 := Lib.hid (T3.out.below hb4); have B4 := Lib.hid (below_end B3.out hb4); obtain ⟨d3, f3⟩ := one_cell K4.out; clear hb4)
      have c4 := (one_cell (set_row K4.out 0 (.slice (some ⟨g, 0, none⟩) n n))).1
      refine bodyPost_ret (v := .tuple #[.agg #[.slice (some ⟨g, 0, none⟩) n n], .int .i64 k, .int .i64 0]) (by simp [results, Try.f60, go_sem, c4]) rfl ⟨_, rfl, ?_, B4.out.setCell (p := ⟨w.heap.size + 1, 0, none⟩) (by simp) _⟩
      have := TAt.row (w := w) (zs := D) (set_far (i := 0) (.slice (some ⟨g, 0, none⟩) n n) (show g ≠ w.heap.size + 1 by have := G1.out; omega) T4.out) (by have := G1.out; omega) (by rw [PL.out]; exact hm)
      rw [PL.out] at this
      exact this
end Ytjkphacidpongaa
end Go.Proofs
