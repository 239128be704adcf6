/- The law ObjectsFields answers true, for every input. -/
import Derived.Test.YtmgoonahpndfoaaObFw
import Derived.Test.YtmgoonahpndfoaaObOpen
namespace Go.Proofs
namespace Ytmgoonahpndfoaa
open Go.RowKit

theorem set_r {w : World} {v : Value} {ws rs : List Int} (h : Ar w v ws) {a f t z : Int} (hz : 0 ≤ z ∧ z ≤ 18446744073709551615) (e : setQ ws a f t z = (rs, 0)) (hu : ∀ x ∈ rs, Hd.UI x) (hl : rs.length ≤ 1601) :
    Calls Try.prog 34 #[v, fldV a f t z] w fun e w' => RAns w rs e w' := by
  have := set34 v ws a f t z w h hz
  rw [e] at this
  refine this.mono ?_
  rintro e w' ⟨u, rfl, ho, hb⟩
  exact ⟨u, rfl, Lib.hid (own_ar ho hu (by omega)), hb⟩
theorem whQ_ui {t z : Int} {n : Nat} (hz : 0 ≤ z ∧ z ≤ 18446744073709551615) (ht : z % 2 = 1 ∨ (0 ≤ t ∧ t < n)) (hn : n ≤ 1601) : Hd.UI (whQ t z) := by
  unfold whQ
  split
  · exact hz
  · rename_i h
    have := ht.resolve_left h
    exact ⟨by omega, by omega⟩
theorem fields6 (v : Value) (ws : List Int) (a f t z a' f' t' z' : Int) (w : World) (h : Ar w v ws)
    (hx : (Lit.int .i64 a).wf = true ∧ (Lit.int .i64 f).wf = true ∧ (Lit.int .i64 t).wf = true ∧ (Lit.int .u64 z).wf = true) (hy : (Lit.int .i64 a').wf = true ∧ (Lit.int .i64 f').wf = true ∧ (Lit.int .i64 t').wf = true ∧ (Lit.int .u64 z').wf = true) :
    Calls Try.prog 6 #[v, fldV a f t z, fldV a' f' t' z'] w fun e w' => e = .returned (.bool true) ∧ Below w.heap.size w w' := by
  have hz := Hd.wf_u64 hx.2.2.2
  have hz' := Hd.wf_u64 hy.2.2.2
  clear hx hy
  have hA := h
  obtain ⟨A, cap, rfl, -, -⟩ := h.open
  by_cases hn : 300 < ws.length
  · exact fields6_long A ws.length cap a f t z a' f' t' z' w hn h.len
  by_cases hE : (setQ ws a f t z).2 = 0
  rotate_left
  · have e : setQ ws a f t z = ([], (setQ ws a f t z).2) := by rw [← setQ_err hE]
    exact fields6_err A ws.length cap a f t z a' f' t' z' _ w (by omega) hE (Lib.hid (fun W hb => by
      have := set34 _ ws a f t z W (hA.below hb) hz
      rwa [e] at this))
  obtain ⟨k, P, R, rfl, ho, h0, hf, ht⟩ := setQ_ok hE
  have e := setQ_is ho h0 hf ht
  have hr := atQ_range (k := k) h0 hf
  have hcu := whQ_ui hz ht ho.len
  have hfit := ho.fit
  have hlen := ho.len
  have hsum := ho.sum
  have hone := ho.one
  have hi : atQ k P f z < ws.length := by omega
  have ho' := ob_set ho hr.1 hi (whQ t z)
  have hd := diffs_set ws 0 (atQ k P f z) (whQ t z) hi
  rw [Nat.zero_add] at hd
  have hvu := set_ui hA.ui hcu (atQ k P f z)
  have hvl : (ws.set (atQ k P f z) (whQ t z)).length = ws.length := List.length_set
  have hfP : f ≤ 63 := by
    by_cases hp : z % 2 = 1
    · rw [if_pos hp] at hf; omega
    · rw [if_neg hp] at hf; omega
  -- the contracts
  have C1 : Hid (∀ W, Below w.heap.size w W → Calls Try.prog 34 #[.slice A ws.length cap, fldV k f t z] W fun e w' => RAns W (ws.set (atQ k P f z) (whQ t z)) e w') :=
    Lib.hid (fun W hb => set_r (hA.below hb) hz e hvu (by omega))
  have C2 : Hid (∀ W u, Below w.heap.size w W → Ar W u (ws.set (atQ k P f z) (whQ t z)) → Calls Try.prog 35 #[.slice A ws.length cap, u] W fun e w' => LAns W (diffs 0 ws (ws.set (atQ k P f z) (whQ t z))) e w') :=
    Lib.hid (fun W u hb hu => differ35 _ _ _ _ W (hA.below hb) hu ho.chk ho'.chk hvl.symm)
  have C3 : Hid (∀ W, Below w.heap.size w W → Calls Try.prog 15 #[.slice A ws.length cap, .int .i64 (k : Int)] W fun e w' => e = .returned (.tuple #[.agg #[.int .i64 P, .int .i64 R], .int .i64 0]) ∧ Below W.heap.size W w') :=
    Lib.hid (fun W hb => by have := shape15 _ ws k W (hA.below hb); rwa [ho.is] at this)
  have hvs : ∀ j, (ws.set (atQ k P f z) (whQ t z)).getD j 0 = if j = atQ k P f z then whQ t z else ws.getD j 0 := set_get hi _
  have hmid : (setQ ws (k : Int) f' t' z').2 ≠ 0 ∨ ∃ ars bs cs ds : List Int, setQ ws (k : Int) f' t' z' = (ars, 0) ∧ (∀ x ∈ ars, Hd.UI x) ∧ ars.length ≤ 1601 ∧ setQ (ws.set (atQ k P f z) (whQ t z)) (k : Int) f' t' z' = (bs, 0) ∧ (∀ x ∈ bs, Hd.UI x) ∧ bs.length ≤ 1601 ∧
      setQ ars (k : Int) f t z = (cs, 0) ∧ (∀ x ∈ cs, Hd.UI x) ∧ cs.length ≤ 1601 ∧ chkF bs = 0 ∧ chkF cs = 0 ∧ bs.length = cs.length ∧ diffs 0 bs cs = ds ∧ ((f = f' ∧ z % 2 = z' % 2) ∨ ds = []) := by
    by_cases hE' : (setQ ws (k : Int) f' t' z').2 = 0
    rotate_left
    · exact .inl hE'
    right
    obtain ⟨k2, P2, R2, hk2, ho2, h02, hf2, ht2⟩ := setQ_ok hE'
    obtain rfl : k = k2 := by omega
    have hPR := ho.is.symm.trans ho2.is
    simp only [Prod.mk.injEq] at hPR
    obtain rfl : P = P2 := by omega
    obtain rfl : R = R2 := by omega
    have hr2 := atQ_range (k := k) h02 hf2
    have hi2 : atQ k P f' z' < ws.length := by omega
    have hcu2 := whQ_ui hz' ht2 ho.len
    have ho2' := ob_set ho hr2.1 hi2 (whQ t' z')
    have e2 := setQ_is ho h02 hf2 ht2
    have e3 := setQ_is ho' h02 hf2 (t := t') (by rw [hvl]; exact ht2)
    have hal : (ws.set (atQ k P f' z') (whQ t' z')).length = ws.length := List.length_set
    have e4 := setQ_is ho2' h0 hf (t := t) (by rw [hal]; exact ht)
    refine ⟨_, _, _, _, e2, set_ui hA.ui hcu2 _, by omega, e3, set_ui hvu hcu2 _, by rw [List.length_set]; omega, e4, set_ui (set_ui hA.ui hcu2 _) hcu _, by rw [List.length_set]; omega, ?_, ?_, by simp only [List.length_set], rfl, ?_⟩
    · exact set_chk _ ho'.chk (by omega)
    · exact set_chk _ ho2'.chk (by omega)
    · by_cases hs : f = f' ∧ z % 2 = z' % 2
      · exact .inl hs
      · right
        have hne : atQ k P f z ≠ atQ k P f' z' := fun q => hs (atQ_inj h0 hf h02 hf2 q)
        rw [List.set_comm _ _ hne]
        exact diffs_same _ 0
  have C5e : (setQ ws (k : Int) f' t' z').2 ≠ 0 → Hid (∀ W, Below w.heap.size w W → Calls Try.prog 34 #[.slice A ws.length cap, fldV k f' t' z'] W fun e w' => CAns W ([], (setQ ws (k : Int) f' t' z').2) e w') := fun q =>
    Lib.hid (fun W hb => by
      have e5 : setQ ws (k : Int) f' t' z' = ([], (setQ ws (k : Int) f' t' z').2) := by rw [← setQ_err q]
      have := set34 _ ws k f' t' z' W (hA.below hb) hz'
      rwa [e5] at this)
  have ha1 : 1 ≤ (k : Int) ∧ (k : Int) ≤ 1601 := ⟨by omega, by omega⟩
  have hn' : ws.length ≤ 300 := by omega
  by_cases hp : z % 2 = 1
  · have hat : (k : Int) + 1 + f + (P : Int) = ((atQ k P f z : Nat) : Int) := by unfold atQ; rw [if_pos hp]; omega
    have C4 : Hid (∀ W u, Ar W u (ws.set (atQ k P f z) (whQ t z)) → Calls Try.prog 24 #[u, .int .i64 (k : Int), .int .i64 f] W fun e w' => e = .returned (.tuple #[.int .u64 z, .int .i64 0]) ∧ Below W.heap.size W w') :=
      Lib.hid (fun W u hu => by
        have := raw24 u _ k f W hu
        have e6 : rawF (ws.set (atQ k P f z) (whQ t z)) k f = (z, 0) := by
          unfold rawF
          rw [ho'.is, if_pos rfl]
          simp only [Int.toNat_natCast]
          rw [if_pos hp] at hf
          unfold rdF
          rw [part_length (by rw [hvl]; omega), if_pos ⟨h0, hf⟩, part_get (by omega), hvs, if_pos (by unfold atQ; rw [if_pos hp]), show whQ t z = z from if_pos hp]
        rwa [e6] at this)
    generalize ws.set (atQ k P f z) (whQ t z) = vs at *
    by_cases hl : ws.getD (atQ k P f z) 0 = whQ t z
    · rw [if_pos hl] at hd
      rw [hd] at C2
      rcases hmid with q | ⟨ars, bs, cs, ds, q1, q2, q3, q4, q5, q6, q7, q8, q9, q10, q11, q12, q13, q14⟩
      · exact fields6_odd_nil_yerr A ws.length cap k f t z a' f' t' z' P R _ vs w hn' hz hz' hp ha1 ⟨h0, hfP⟩ (by omega) hat C1 C2 C3 C4 _ q (C5e q)
      · have D5 := Lib.hid (fun (W : World) (hb : Below w.heap.size w W) => set_r (Ar.below (W := w) hA hb) hz' q1 q2 q3)
        have D6 := Lib.hid (fun (W : World) u (hu : Ar W u vs) => set_r hu hz' q4 q5 q6)
        have D7 := Lib.hid (fun (W : World) u (hu : Ar W u ars) => set_r hu hz q7 q8 q9)
        have D8 := Lib.hid (fun (W : World) b c (hb : Ar W b bs) (hc : Ar W c cs) => differ35 b c bs cs W hb hc q10 q11 q12)
        rw [q13] at D8
        by_cases hs : f = f' ∧ z % 2 = z' % 2
        · exact fields6_odd_nil_same A ws.length cap k f t z a' f' t' z' P R _ vs w hn' hz hz' hp ha1 ⟨h0, hfP⟩ (by omega) hat C1 C2 C3 C4 ars bs cs ds D5 D6 D7 D8 hs.1 hs.2
        · rw [q14.resolve_left hs] at D8
          by_cases hff : f = f'
          · exact fields6_odd_nil_np A ws.length cap k f t z a' f' t' z' P R _ vs w hn' hz hz' hp ha1 ⟨h0, hfP⟩ (by omega) hat C1 C2 C3 C4 ars bs cs [] D5 D6 D7 D8 hff (fun q => hs ⟨hff, q⟩)
          · exact fields6_odd_nil_nf A ws.length cap k f t z a' f' t' z' P R _ vs w hn' hz hz' hp ha1 ⟨h0, hfP⟩ (by omega) hat C1 C2 C3 C4 ars bs cs [] D5 D6 D7 D8 hff
    · rw [if_neg hl] at hd
      rw [hd] at C2
      rcases hmid with q | ⟨ars, bs, cs, ds, q1, q2, q3, q4, q5, q6, q7, q8, q9, q10, q11, q12, q13, q14⟩
      · exact fields6_odd_one_yerr A ws.length cap k f t z a' f' t' z' P R _ vs w hn' hz hz' hp ha1 ⟨h0, hfP⟩ (by omega) hat C1 C2 C3 C4 _ q (C5e q)
      · have D5 := Lib.hid (fun (W : World) (hb : Below w.heap.size w W) => set_r (Ar.below (W := w) hA hb) hz' q1 q2 q3)
        have D6 := Lib.hid (fun (W : World) u (hu : Ar W u vs) => set_r hu hz' q4 q5 q6)
        have D7 := Lib.hid (fun (W : World) u (hu : Ar W u ars) => set_r hu hz q7 q8 q9)
        have D8 := Lib.hid (fun (W : World) b c (hb : Ar W b bs) (hc : Ar W c cs) => differ35 b c bs cs W hb hc q10 q11 q12)
        rw [q13] at D8
        by_cases hs : f = f' ∧ z % 2 = z' % 2
        · exact fields6_odd_one_same A ws.length cap k f t z a' f' t' z' P R _ vs w hn' hz hz' hp ha1 ⟨h0, hfP⟩ (by omega) hat C1 C2 C3 C4 ars bs cs ds D5 D6 D7 D8 hs.1 hs.2
        · rw [q14.resolve_left hs] at D8
          by_cases hff : f = f'
          · exact fields6_odd_one_np A ws.length cap k f t z a' f' t' z' P R _ vs w hn' hz hz' hp ha1 ⟨h0, hfP⟩ (by omega) hat C1 C2 C3 C4 ars bs cs [] D5 D6 D7 D8 hff (fun q => hs ⟨hff, q⟩)
          · exact fields6_odd_one_nf A ws.length cap k f t z a' f' t' z' P R _ vs w hn' hz hz' hp ha1 ⟨h0, hfP⟩ (by omega) hat C1 C2 C3 C4 ars bs cs [] D5 D6 D7 D8 hff
  · have hat : (k : Int) + 1 + f = ((atQ k P f z : Nat) : Int) := by unfold atQ; rw [if_neg hp]; omega
    have htr := ht.resolve_left hp
    have C4 : Hid (∀ W u, Ar W u (ws.set (atQ k P f z) (whQ t z)) → Calls Try.prog 22 #[u, .int .i64 (k : Int), .int .i64 f] W fun e w' => e = .returned (.tuple #[.int .i64 t, .int .i64 0]) ∧ Below W.heap.size W w') :=
      Lib.hid (fun W u hu => by
        have := pointer22 u _ k f W hu
        have e6 : ptrF (ws.set (atQ k P f z) (whQ t z)) k f = (t, 0) := by
          unfold ptrF
          rw [ho'.is, if_pos rfl]
          simp only [Int.toNat_natCast]
          rw [if_neg hp] at hf
          have e7 : rdF (part (ws.set (atQ k P f z) (whQ t z)) (k + 1) P) f = (t, 0) := by
            unfold rdF
            rw [part_length (by rw [hvl]; omega), if_pos ⟨h0, hf⟩, part_get (by omega), hvs, if_pos (by unfold atQ; rw [if_neg hp]), show whQ t z = t from if_neg hp]
          unfold gtF adrF
          rw [e7, if_pos rfl, if_neg (by omega)]
        rwa [e6] at this)
    generalize ws.set (atQ k P f z) (whQ t z) = vs at *
    by_cases hl : ws.getD (atQ k P f z) 0 = whQ t z
    · rw [if_pos hl] at hd
      rw [hd] at C2
      rcases hmid with q | ⟨ars, bs, cs, ds, q1, q2, q3, q4, q5, q6, q7, q8, q9, q10, q11, q12, q13, q14⟩
      · exact fields6_even_nil_yerr A ws.length cap k f t z a' f' t' z' P R _ vs w hn' hz hz' hp ha1 ⟨h0, hfP⟩ (by omega) hat C1 C2 C3 C4 _ q (C5e q)
      · have D5 := Lib.hid (fun (W : World) (hb : Below w.heap.size w W) => set_r (Ar.below (W := w) hA hb) hz' q1 q2 q3)
        have D6 := Lib.hid (fun (W : World) u (hu : Ar W u vs) => set_r hu hz' q4 q5 q6)
        have D7 := Lib.hid (fun (W : World) u (hu : Ar W u ars) => set_r hu hz q7 q8 q9)
        have D8 := Lib.hid (fun (W : World) b c (hb : Ar W b bs) (hc : Ar W c cs) => differ35 b c bs cs W hb hc q10 q11 q12)
        rw [q13] at D8
        by_cases hs : f = f' ∧ z % 2 = z' % 2
        · exact fields6_even_nil_same A ws.length cap k f t z a' f' t' z' P R _ vs w hn' hz hz' hp ha1 ⟨h0, hfP⟩ (by omega) hat C1 C2 C3 C4 ars bs cs ds D5 D6 D7 D8 hs.1 hs.2
        · rw [q14.resolve_left hs] at D8
          by_cases hff : f = f'
          · exact fields6_even_nil_np A ws.length cap k f t z a' f' t' z' P R _ vs w hn' hz hz' hp ha1 ⟨h0, hfP⟩ (by omega) hat C1 C2 C3 C4 ars bs cs [] D5 D6 D7 D8 hff (fun q => hs ⟨hff, q⟩)
          · exact fields6_even_nil_nf A ws.length cap k f t z a' f' t' z' P R _ vs w hn' hz hz' hp ha1 ⟨h0, hfP⟩ (by omega) hat C1 C2 C3 C4 ars bs cs [] D5 D6 D7 D8 hff
    · rw [if_neg hl] at hd
      rw [hd] at C2
      rcases hmid with q | ⟨ars, bs, cs, ds, q1, q2, q3, q4, q5, q6, q7, q8, q9, q10, q11, q12, q13, q14⟩
      · exact fields6_even_one_yerr A ws.length cap k f t z a' f' t' z' P R _ vs w hn' hz hz' hp ha1 ⟨h0, hfP⟩ (by omega) hat C1 C2 C3 C4 _ q (C5e q)
      · have D5 := Lib.hid (fun (W : World) (hb : Below w.heap.size w W) => set_r (Ar.below (W := w) hA hb) hz' q1 q2 q3)
        have D6 := Lib.hid (fun (W : World) u (hu : Ar W u vs) => set_r hu hz' q4 q5 q6)
        have D7 := Lib.hid (fun (W : World) u (hu : Ar W u ars) => set_r hu hz q7 q8 q9)
        have D8 := Lib.hid (fun (W : World) b c (hb : Ar W b bs) (hc : Ar W c cs) => differ35 b c bs cs W hb hc q10 q11 q12)
        rw [q13] at D8
        by_cases hs : f = f' ∧ z % 2 = z' % 2
        · exact fields6_even_one_same A ws.length cap k f t z a' f' t' z' P R _ vs w hn' hz hz' hp ha1 ⟨h0, hfP⟩ (by omega) hat C1 C2 C3 C4 ars bs cs ds D5 D6 D7 D8 hs.1 hs.2
        · rw [q14.resolve_left hs] at D8
          by_cases hff : f = f'
          · exact fields6_even_one_np A ws.length cap k f t z a' f' t' z' P R _ vs w hn' hz hz' hp ha1 ⟨h0, hfP⟩ (by omega) hat C1 C2 C3 C4 ars bs cs [] D5 D6 D7 D8 hff (fun q => hs ⟨hff, q⟩)
          · exact fields6_even_one_nf A ws.length cap k f t z a' f' t' z' P R _ vs w hn' hz hz' hp ha1 ⟨h0, hfP⟩ (by omega) hat C1 C2 C3 C4 ars bs cs [] D5 D6 D7 D8 hff
end Ytmgoonahpndfoaa
end Go.Proofs
