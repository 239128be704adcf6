/- The law WalkTargets answers true. -/
import Derived.Test.YteeghjhkfaeflaaQWlC0
namespace Go.Proofs
namespace Yteeghjhkfaeflaa
open Go.RowKit

theorem refs_good {ws : List Int} {f t : Int} (h : (refsF ws f t).2 = 0) : (wcF ws f t).2 = 0 ∧ (∀ x ∈ visL ws f t, (refF ws x).2 = 0) ∧ refsF ws f t = ((visL ws f t).flatMap (fun x => (refF ws x).1), 0) := by
  have hw : (wcF ws f t).2 = 0 := Classical.byContradiction fun hn => by rw [refs_bad hn] at h; exact hn h
  have e : refsF ws f t = if errsF (fun x => (refF ws x).2) (visL ws f t) = 0 then ((visL ws f t).flatMap (fun x => (refF ws x).1), 0) else ([], errsF (fun x => (refF ws x).2) (visL ws f t)) := col_ok _ _ hw
  have he : errsF (fun x => (refF ws x).2) (visL ws f t) = 0 := Classical.byContradiction fun hn => by rw [e, if_neg hn] at h; exact hn h
  rw [if_pos he] at e
  refine ⟨hw, fun x hx => ?_, e⟩
  apply Classical.byContradiction
  intro hn
  obtain ⟨j, hj, rfl⟩ := List.getElem_of_mem hx
  have : ∀ (l : List Int) (e0 : Int), e0 ≠ 0 → l.foldl (fun e x => firE e ((refF ws x).2)) e0 ≠ 0 := by
    intro l
    induction l with
    | nil => intro e0 h; exact h
    | cons x l ih => intro e0 h; rw [List.foldl_cons, show firE e0 (refF ws x).2 = e0 from if_neg h]; exact ih e0 h
  rw [← List.take_append_drop j (visL ws f t), List.drop_eq_getElem_cons hj] at he
  unfold errsF at he
  rw [List.foldl_append, List.foldl_cons] at he
  refine this _ _ ?_ he
  unfold firE
  split
  · exact hn
  · assumption
theorem ref_each {ws : List Int} (hu : ∀ z ∈ ws, Hd.UI z) {x : Int} (h0 : (objF ws x).2.2 = 0) (h : (refF ws x).2 = 0) :
    (refF ws x).1.map Prod.fst = (sltF ws x).1 ∧ ∀ p ∈ (refF ws x).1, ∃ s : Nat, p.1 = (s : Int) ∧ s < ws.length ∧ ws.getD s 0 = p.2 ∧ 0 ≤ p.2 ∧ p.2 ≤ 1600 := by
  rcases obj_cases ws x with ⟨E, hE, e⟩ | ⟨n, P, R, rfl, ho⟩
  · rw [e] at h0; exact absurd h0 hE
  · have es : sltF ws n = (upL (n + 1) P, 0) := by unfold sltF; rw [ho.is]; simp
    have ep : ptrsF ws n = adrsF (part ws (n + 1) P) := by unfold ptrsF; rw [ho.is]; simp
    have hpl : (part ws (n + 1) P).length = P := part_length (by have := ho.fit; omega)
    have ef : firE (sltF ws n).2 (ptrsF ws n).2 = (ptrsF ws n).2 := by rw [es]; rfl
    have hp0 : (ptrsF ws n).2 = 0 := by
      unfold refF at h; rw [ef] at h
      split at h
      · assumption
      · exact h
    have er : (refF ws n).1 = (upL (n + 1) P).zip (part ws (n + 1) P) := by
      unfold refF; rw [ef, if_pos hp0, es, ep]
      rw [ep] at hp0
      unfold adrsF at hp0 ⊢
      dsimp only at *
      split
      · rfl
      · rename_i hh; rw [if_neg hh] at hp0; cases hp0
    have hall : ∀ z ∈ part ws (n + 1) P, z ≤ 1600 := by
      rw [ep] at hp0
      unfold adrsF at hp0
      dsimp only at hp0
      split at hp0
      · rename_i hh
        intro z hz
        have := List.all_eq_true.1 hh z hz
        simpa using this
      · cases hp0
    rw [er, es]
    constructor
    · exact List.map_fst_zip (by rw [upL_length, hpl]; exact Nat.le_refl _)
    · intro p hp
      obtain ⟨i, hi, rfl⟩ := List.getElem_of_mem hp
      rw [List.length_zip, upL_length, hpl] at hi
      have hi' : i < P := by omega
      have h1 : (upL (n + 1) P)[i]'(by rw [upL_length]; exact hi') = ((n + 1 + i : Nat) : Int) := by
        have := upL_get (n + 1) P i hi'
        rw [List.getD_eq_getElem?_getD, List.getElem?_eq_getElem (by rw [upL_length]; exact hi')] at this
        simp only [Option.getD_some] at this
        rw [this]; push_cast; omega
      have h2 : (part ws (n + 1) P)[i]'(by rw [hpl]; exact hi') = ws.getD (n + 1 + i) 0 := by
        have := part_get (ws := ws) (k := n + 1) hi'
        rw [List.getD_eq_getElem?_getD, List.getElem?_eq_getElem (by rw [hpl]; exact hi')] at this
        simpa using this
      have h3 := hall _ (List.getElem_mem (by rw [hpl]; exact hi'))
      have h4 := get_nat hu (n + 1 + i)
      rw [h2] at h3
      simp only [List.getElem_zip]
      refine ⟨n + 1 + i, h1, by have := ho.fit; omega, h2.symm, by rw [h2]; exact h4.1, by rw [h2]; exact h3⟩
theorem refs_all {ws : List Int} (hu : ∀ z ∈ ws, Hd.UI z) : ∀ (l : List Int), (∀ x ∈ l, (objF ws x).2.2 = 0) → (∀ x ∈ l, (refF ws x).2 = 0) →
    (l.flatMap (fun x => (refF ws x).1)).map Prod.fst = l.flatMap (fun x => (sltF ws x).1) ∧ ∀ p ∈ l.flatMap (fun x => (refF ws x).1), ∃ s : Nat, p.1 = (s : Int) ∧ s < ws.length ∧ ws.getD s 0 = p.2 ∧ 0 ≤ p.2 ∧ p.2 ≤ 1600
  | [], _, _ => by simp
  | x :: l, h1, h2 => by
    obtain ⟨i1, i2⟩ := refs_all hu l (fun y hy => h1 y (by simp [hy])) (fun y hy => h2 y (by simp [hy]))
    obtain ⟨j1, j2⟩ := ref_each hu (h1 x (by simp)) (h2 x (by simp))
    rw [List.flatMap_cons, List.flatMap_cons, List.map_append, i1, j1]
    refine ⟨rfl, fun p hp => ?_⟩
    rcases List.mem_append.1 hp with hp | hp
    · exact j2 p hp
    · exact i2 p hp
theorem in_at {lo hi : Int} {l : List (Int × Int)} {j : Nat} (hj : j < l.length) (h : inB lo hi l[j] = true) : (inL lo hi (l.take j)).length < (inL lo hi l).length ∧ (inL lo hi l).getD (inL lo hi (l.take j)).length 0 = l[j].1 := by
  have e : inL lo hi l = inL lo hi (l.take j) ++ (l[j].1 :: inL lo hi (l.drop (j + 1))) := by
    conv => lhs; rw [← List.take_append_drop j l, List.drop_eq_getElem_cons hj]
    unfold inL
    rw [List.filter_append, List.map_append, List.filter_cons, if_pos h, List.map_cons]
  rw [e]
  constructor
  · simp
  · simp [List.getD_eq_getElem?_getD]
set_option maxRecDepth 100000 in
set_option maxHeartbeats 2000000 in
theorem targets8_far (A : Option Addr) (n cap : Nat) (x0 x1 y0 y1 : Int) (w : World) (hf : 200 < n) :
    Calls Try.prog 8 #[.slice A n cap, .agg #[.int .i64 x0, .int .i64 x1], .agg #[.int .i64 y0, .int .i64 y1]] w fun e w' => e = .returned (.bool true) ∧ Below w.heap.size w w' := by
  have q : decide ((200 : Int) < (n : Int)) = true := decide_eq_true (by omega)
  clear hf
  go_enter Try.func8, Try.ntmps8
  go_wp2_with (go_at_call 12; refine (awake12 _).mono ?_; rintro e w1 ⟨rfl, hb1⟩)
  exact bodyPost_ret (v := .bool true) (by simp [results, Try.f8, go_sem]) rfl ⟨rfl, below_end (below_end (alloc_below w _) (alloc_below _ _)) hb1⟩
set_option maxRecDepth 100000 in
set_option maxHeartbeats 2000000 in
theorem targets8_bad (v : Value) (ws : List Int) (x0 x1 y0 y1 : Int) (w : World) (h : Ar w v ws) (hf : ¬ 200 < ws.length) (hs : (refsF ws x0 x1).2 ≠ 0) :
    Calls Try.prog 8 #[v, .agg #[.int .i64 x0, .int .i64 x1], .agg #[.int .i64 y0, .int .i64 y1]] w fun e w' => e = .returned (.bool true) ∧ Below w.heap.size w w' := by
  have E := Lib.hid (fun W (hb : Below w.heap.size w W) => refs24 v ws x0 x1 W (h.below hb))
  have e0 : (refsF ws x0 x1).1 = [] := by
    by_cases hw : (wcF ws x0 x1).2 = 0
    · have e : refsF ws x0 x1 = if errsF (fun x => (refF ws x).2) (visL ws x0 x1) = 0 then ((visL ws x0 x1).flatMap (fun x => (refF ws x).1), 0) else ([], errsF (fun x => (refF ws x).2) (visL ws x0 x1)) := col_ok _ _ hw
      rw [e] at hs ⊢
      split
      · rename_i hh; rw [if_pos hh] at hs; exact absurd rfl hs
      · rfl
    · rw [refs_bad hw]
  unfold RfAns at E
  rw [e0] at E
  obtain ⟨Av, cv, rfl, -, -⟩ := h.open
  have q : decide ((200 : Int) < (ws.length : Int)) = false := decide_eq_false (by omega)
  have q2 : ((refsF ws x0 x1).2 != 0) = true := by simpa using hs
  generalize (refsF ws x0 x1).2 = c at *
  have B0 := Lib.hid (below_end (alloc_below w (.cells #[.int .i64 x0, .int .i64 x1] 23)) (alloc_below _ (.cells #[.int .i64 y0, .int .i64 y1] 23)))
  clear h hf hs e0
  go_enter Try.func8, Try.ntmps8
  go_wp2_with (first
    | (go_at_call 24; refine (E.out _ B0.out).mono ?_; rintro e w1 ⟨u, rfl, ho, hb⟩; have HB := Lib.hid (below_end B0.out hb); obtain ⟨Au, cu, rfl⟩ := own_form ho; clear ho hb)
    | (go_at_call 12; refine (awake12 _).mono ?_; rintro e w1 ⟨rfl, hb1⟩))
  exact bodyPost_ret (v := .bool true) (by simp [results, Try.f8, go_sem]) rfl ⟨rfl, below_end HB.out hb1⟩
set_option maxRecDepth 100000 in
set_option maxHeartbeats 4000000 in
theorem targets8_in (v : Value) (ws : List Int) (x0 x1 y0 y1 : Int) (w : World) (h : Ar w v ws) (hf : ¬ 200 < ws.length) (hs : (refsF ws x0 x1).2 = 0) :
    Calls Try.prog 8 #[v, .agg #[.int .i64 x0, .int .i64 x1], .agg #[.int .i64 y0, .int .i64 y1]] w fun e w' => e = .returned (.bool true) ∧ Below w.heap.size w w' := by
  have E24 := Lib.hid (fun W (hb : Below w.heap.size w W) => (refs24 v ws x0 x1 W (h.below hb)).mono fun e w' h => h.own2)
  have E22 := Lib.hid (fun W (hb : Below w.heap.size w W) => (slots22 v ws x0 x1 W (h.below hb)).mono fun e w' h => h.own2)
  have E27 := Lib.hid (fun W (hb : Below w.heap.size w W) => (into27 v ws x0 x1 y0 y1 W (h.below hb)).mono fun e w' h => h.own2)
  obtain ⟨hw, hre, hrf⟩ := refs_good hs
  obtain ⟨ra1, ra2⟩ := refs_all h.ui (visL ws x0 x1) (fun x hx => (vis_obj x hx).1) hre
  have hlen := refs_len ws x0 x1
  have hin : intoF ws x0 x1 y0 y1 = (inL y0 y1 (refsF ws x0 x1).1, 0) := by unfold intoF; rw [if_neg (by simp [hs])]
  rw [hin] at E27
  rw [slots_ok hw, ← ra1] at E22
  rw [hrf] at E24 E27 hlen
  have HAW := Lib.hid h.at_
  have hwl := h.len
  obtain ⟨Av, cv, rfl, -, -⟩ := h.open
  have q : decide ((200 : Int) < (ws.length : Int)) = false := decide_eq_false (by omega)
  clear h hs hin hre hrf ra1 hw
  dsimp only at E22 E24 E27 hlen
  generalize (visL ws x0 x1).flatMap (fun x => (refF ws x).1) = l at *
  obtain ⟨m, hm⟩ : ∃ m, l.length = m := ⟨_, rfl⟩
  have HM := Lib.hid hm
  have HM2 := Lib.hid (show (l.map Prod.fst).length = m by rw [List.length_map, hm])
  have RA := Lib.hid ra2
  obtain ⟨il, hil⟩ : ∃ il, (inL y0 y1 l).length = il := ⟨_, rfl⟩
  have HIL := Lib.hid hil
  have hil2 : il ≤ 102464 := by have := in_len y0 y1 l; omega
  rw [hm] at hlen
  have n0 : ((m : Int) != (m : Int)) = false := by simp
  have N0 := Lib.hid (keep_heap (alloc_below _ (.cells #[.int .i64 y0, .int .i64 y1] 23)) (heap_alloc_new w (.cells #[.int .i64 x0, .int .i64 x1] 23)))
  have M0 := Lib.hid (heap_alloc_new (w.alloc (.cells #[.int .i64 x0, .int .i64 x1] 23)) (.cells #[.int .i64 y0, .int .i64 y1] 23))
  have B0 := Lib.hid (below_end (alloc_below w (.cells #[.int .i64 x0, .int .i64 x1] 23)) (alloc_below _ (.cells #[.int .i64 y0, .int .i64 y1] 23)))
  simp only [World.size_alloc] at M0
  clear hm hil ra2
  go_enter Try.func8, Try.ntmps8
  go_upto_region 3 with (fail)
  generalize (w.alloc (.cells #[.int .i64 x0, .int .i64 x1] 23)).alloc (.cells #[.int .i64 y0, .int .i64 y1] 23) = W0 at *
  obtain ⟨t0, t1, -, -⟩ := two_free N0.out
  go_upto_region 6 with (go_at_call 24; refine (E24.out _ B0.out).mono ?_; rintro e w1 ⟨v1, rfl, X1, hb1⟩)
  have B1 := Lib.hid (below_end B0.out hb1)
  have N1 := Lib.hid (keep_heap hb1 N0.out)
  have M1 := Lib.hid (keep_heap hb1 M0.out)
  clear t0 t1 hb1 N0 B0 M0
  obtain ⟨t0, t1, -, -⟩ := two_free N1.out
  go_upto_region 7 with (go_at_call 22; refine (E22.out _ B1.out).mono ?_; rintro e w2 ⟨v2, rfl, X2, hb2⟩)
  have B2 := Lib.hid (below_end B1.out hb2)
  have N2 := Lib.hid (keep_heap hb2 N1.out)
  have M2 := Lib.hid (keep_heap hb2 M1.out)
  have Y1 := Lib.hid (X1.out.below hb2)
  clear t0 t1 hb2 N1 B1 X1 M1
  obtain ⟨t0, t1, -, -⟩ := two_free N2.out
  obtain ⟨u0, u1, -, -⟩ := two_free M2.out
  go_upto_region 8 with (go_at_call 27; refine (E27.out _ B2.out).mono ?_; rintro e w3 ⟨v3, rfl, X3, hb3⟩)
  have B3 := Lib.hid (below_end B2.out hb3)
  have M3 := Lib.hid (keep_heap hb3 M2.out)
  have Z1 := Lib.hid (Y1.out.below hb3)
  have Z2 := Lib.hid (X2.out.below hb3)
  clear t0 t1 u0 u1 hb3 N2 B2 Y1 X2 M2
  obtain ⟨A1, c1, rfl, ha1⟩ := Z1.out
  obtain ⟨A2, c2, rfl, ha2⟩ := Z2.out
  obtain ⟨A3, c3, rfl, ha3⟩ := X3.out
  have HA1 := Lib.hid ha1
  have HA2 := Lib.hid ha2
  have HA3 := Lib.hid ha3
  have HAW3 := Lib.hid (HAW.out.below B3.out)
  rw [HM.out] at HA1 ⊢
  rw [HM2.out] at HA2 ⊢
  rw [HIL.out] at HA3 ⊢
  clear ha1 ha2 ha3 Z1 Z2 X3 HAW
  go_upto_region 12 with (fail)
  go_loopw [12, 13] (fun k i wr => ∃ j k' : Nat, j ≤ m ∧ i = .int .i64 j ∧ k = .int .i64 k' ∧ Hid (k' = (inL y0 y1 (l.take j)).length) ∧ Hid (Below w3.heap.size w3 wr)) (fun _ i _ => m - (intOf i).toNat)
  case atStart => exact ⟨0, 0, by omega, rfl, rfl, Lib.hid rfl, Lib.hid (Below.refl _ _)⟩
  case round =>
    obtain ⟨j, k, hj, rfl, rfl, HK, hB⟩ := hrel
    by_cases hlt : j < m
    rotate_left
    · have ek : j = m := by omega
      have hlt' : ¬ (j : Int) < (m : Int) := by omega
      have ht : l.take j = l := List.take_of_length_le (by rw [HM.out]; omega)
      have hk := HK.out
      rw [ht, HIL.out] at hk
      subst hk
      have n6 : ((k : Int) == (k : Int)) = true := by simp
      clear ek ht
      go_wp2_with (go_at_call 12; refine (awake12 _).mono ?_; rintro e w6 ⟨rfl, hb6⟩)
      exact bodyPost_ret (v := .bool true) (by simp [results, Try.f8, go_sem]) rfl ⟨rfl, below_end (below_end B3.out hB.out) hb6⟩
    have hlt' : (j : Int) < (m : Int) := by omega
    have hjl : j < l.length := by rw [HM.out]; exact hlt
    obtain ⟨u0, u1, -, -⟩ := two_free (keep_heap hB.out M3.out)
    obtain ⟨b1, o1, rfl, ca⟩ := HA1.out (by omega)
    obtain ⟨b2, o2, rfl, cb⟩ := HA2.out (by omega)
    have ca1 := keep_cell hB.out (ca _ _ (pc_get l j hjl).1)
    have ca2 := keep_cell hB.out (ca _ _ (pc_get l j hjl).2)
    rw [← Nat.add_assoc] at ca2
    have cb1 := keep_cell hB.out (cb j _ (ic_get (l.map Prod.fst) j (by rw [HM2.out]; exact hlt)))
    have hgl : l.getD j (0, 0) = l[j] := by simp [List.getD_eq_getElem?_getD, hjl]
    have hgm : (l.map Prod.fst).getD j 0 = l[j].1 := by simp [List.getD_eq_getElem?_getD, hjl]
    rw [hgl] at ca1 ca2
    rw [hgm] at cb1
    obtain ⟨s, hs1, hs2, hs3, hs4, hs5⟩ := RA.out l[j] (List.getElem_mem hjl)
    have hia := Lib.hid (fun h => in_at (lo := y0) (hi := y1) hjl h)
    have LS := Lib.hid (in_snoc y0 y1 (l.take j) (l.getD j (0, 0)))
    rw [← pair_take hjl, hgl] at LS
    obtain ⟨cwv, wcw⟩ : ∃ bw ow, Av = some ⟨bw, ow, none⟩ ∧ wr.cell? ⟨bw, ow + s, none⟩ = some (.int .u64 (ws.getD s 0)) := by
      obtain ⟨Aw, capw, hee, hww⟩ := HAW3.out.below hB.out
      simp only [Value.slice.injEq] at hee
      obtain ⟨rfl, -, -⟩ := hee
      obtain ⟨bw, ow, rfl, hc⟩ := hww (by omega)
      exact ⟨bw, ow, rfl, hc s _ (wc_get ws s hs2)⟩
    obtain ⟨ow, rfl, cw⟩ := wcw
    rw [hs3] at cw
    generalize l[j] = x at *
    obtain ⟨xs, z⟩ := x
    dsimp only at *
    subst hs1
    have adw : (⟨cwv, ow, none⟩ : Addr).add s = ⟨cwv, ow + s, none⟩ := by unfold Addr.add; split <;> simp_all
    have ad1 : (⟨b1, o1, none⟩ : Addr).add (j * 2) = ⟨b1, o1 + j * 2, none⟩ := by unfold Addr.add; split <;> simp_all
    have ad2 : (⟨b2, o2, none⟩ : Addr).add j = ⟨b2, o2 + j, none⟩ := by unfold Addr.add; split <;> simp_all
    have n1 : ((s : Int) != (s : Int)) = false := by simp
    have n2 : (z != z) = false := by simp
    have ez : IntKind.u64.wrap z = z := IntWalk.u64_in _ (by omega)
    have q1 : decide (z < 0) = false := decide_eq_false (by omega)
    have q2 : decide (1600 < z) = false := decide_eq_false (by omega)
    have hs2' : (s : Int) < (ws.length : Int) := by omega
    have fin : ∀ (W : World) (k2 : Nat), Hid (Below w3.heap.size w3 W) → k2 = (inL y0 y1 (l.take (j + 1))).length → (∃ j' k' : Nat, j' ≤ m ∧ Value.int .i64 ((j : Int) + 1) = .int .i64 j' ∧ Value.int .i64 (k2 : Int) = .int .i64 k' ∧ Hid (k' = (inL y0 y1 (l.take j')).length) ∧ Hid (Below w3.heap.size w3 W)) ∧ m - (intOf (.int .i64 ((j : Int) + 1))).toNat < m - (intOf (.int .i64 (j : Int))).toNat := by
      intro W k2 h1 h2
      refine ⟨⟨j + 1, k2, by omega, by simp, rfl, Lib.hid h2, h1⟩, ?_⟩
      show m - ((j : Int) + 1).toNat < m - ((j : Int)).toNat
      omega
    have FIN := Lib.hid fin
    have hkl := HK.out
    clear fin ca cb hs3 hgl hgm
    go_wp2
    go_quiet (fail)
    have hBd := Lib.hid (show Below w3.heap.size w3 (wr.drewN nq) from below_drewN hB.out _)
    obtain ⟨u0', u1'⟩ := (⟨u0, u1⟩ : (wr.drewN nq).cell? ⟨w.heap.size + 1, 0, none⟩ = some (.int .i64 y0) ∧ (wr.drewN nq).cell? ⟨w.heap.size + 1, 1, none⟩ = some (.int .i64 y1))
    obtain ⟨a1', a2'⟩ := (⟨ca1, ca2⟩ : (wr.drewN nq).cell? ⟨b1, o1 + j * 2, none⟩ = some (.int .i64 (s : Int)) ∧ (wr.drewN nq).cell? ⟨b1, o1 + j * 2 + 1, none⟩ = some (.int .i64 z))
    generalize wr.drewN nq = w4 at *
    clear u0 u1 ca1 ca2 cb1 cw hB
    go_upto_region 16 with (fail)
    by_cases hin : inB y0 y1 ((s : Int), z) = true
    rotate_left
    · have hk2 := LS.out
      rw [if_neg hin] at hk2
      have HK2 := Lib.hid (show k = (inL y0 y1 (l.take (j + 1))).length by rw [hk2]; exact hkl)
      by_cases hz : z = 0
      · have q5 : (z == 0) = true := by simpa using hz
        clear hk2 hkl hin hz hia LS
        go_quiet (fail)
        go_wp2
        exact FIN.out _ k (Lib.hid (below_drewN hBd.out _)) HK2.out
      have q5 : (z == 0) = false := by simpa using hz
      by_cases hlo : z < y0
      · have q6 : decide (z < y0) = true := decide_eq_true hlo
        clear hk2 hkl hin hz hia LS hlo
        go_quiet (fail)
        go_wp2
        exact FIN.out _ k (Lib.hid (below_drewN hBd.out _)) HK2.out
      have q6 : decide (z < y0) = false := decide_eq_false hlo
      have q7 : decide (y1 ≤ z) = true := decide_eq_true (by
        apply Classical.byContradiction
        intro hn
        apply hin
        simp only [inB, Bool.and_eq_true, decide_eq_true_eq]
        exact ⟨⟨hz, by omega⟩, by omega⟩)
      clear hk2 hkl hin hz hia LS hlo
      go_quiet (fail)
      go_wp2
      exact FIN.out _ k (Lib.hid (below_drewN hBd.out _)) HK2.out
    · have hk2 := LS.out
      rw [if_pos hin] at hk2
      obtain ⟨hi1, hi2⟩ := hia.out hin
      rw [← hkl, HIL.out] at hi1
      rw [← hkl] at hi2
      simp only [inB, Bool.and_eq_true, decide_eq_true_eq] at hin
      obtain ⟨⟨hz, hlo⟩, hhi⟩ := hin
      have q5 : (z == 0) = false := by simpa using hz
      have q6 : decide (z < y0) = false := decide_eq_false (by omega)
      have q7 : decide (y1 ≤ z) = false := decide_eq_false (by omega)
      have q8 : decide ((il : Int) ≤ (k : Int)) = false := decide_eq_false (by omega)
      have q9 : decide (il ≤ k) = false := decide_eq_false (by omega)
      have q10 : ¬ il ≤ k := by omega
      obtain ⟨b3, o3, rfl, cc⟩ := HA3.out (by omega)
      have c3' := keep_cell hBd.out (cc k _ (ic_get _ k (by rw [HIL.out]; exact hi1)))
      rw [hi2] at c3'
      have ad3 : (⟨b3, o3, none⟩ : Addr).add k = ⟨b3, o3 + k, none⟩ := by unfold Addr.add; split <;> simp_all
      have hi1' : (k : Int) < (il : Int) := by omega
      have e7 : IntKind.i64.wrap ((k : Int) + 1) = (k : Int) + 1 := IntWalk.i64_in _ (by omega)
      have K1 := Lib.hid (show ((k : Int) + 1) = ((k + 1 : Nat) : Int) by omega)
      have HK2 := Lib.hid (show k + 1 = (inL y0 y1 (l.take (j + 1))).length by rw [hk2, List.length_append, List.length_singleton, hkl])
      clear hk2 hkl hi1 hi2 hz hlo hhi hia LS cc
      go_quiet (fail)
      obtain ⟨a1'', c3''⟩ := (⟨a1', c3'⟩ : (w4.drewN nq).cell? ⟨b1, o1 + j * 2, none⟩ = some (.int .i64 (s : Int)) ∧ (w4.drewN nq).cell? ⟨b3, o3 + k, none⟩ = some (.int .i64 (s : Int)))
      have hBe := Lib.hid (show Below w3.heap.size w3 (w4.drewN nq) from below_drewN hBd.out _)
      generalize w4.drewN nq = w5 at *
      clear a1' a2' c3' u0' u1' hBd
      go_wp2
      go_quiet (fail)
      go_wp2
      rw [K1.out]
      exact FIN.out _ (k + 1) (Lib.hid (below_drewN hBe.out _)) HK2.out
theorem targets8 (v : Value) (ws : List Int) (x0 x1 y0 y1 : Int) (w : World) (h : Ar w v ws) :
    Calls Try.prog 8 #[v, .agg #[.int .i64 x0, .int .i64 x1], .agg #[.int .i64 y0, .int .i64 y1]] w fun e w' => e = .returned (.bool true) ∧ Below w.heap.size w w' := by
  by_cases hf : 200 < ws.length
  · obtain ⟨A, cap, rfl, -, -⟩ := h.open
    exact targets8_far A ws.length cap x0 x1 y0 y1 w hf
  · by_cases hs : (refsF ws x0 x1).2 = 0
    · exact targets8_in v ws x0 x1 y0 y1 w h hf hs
    · exact targets8_bad v ws x0 x1 y0 y1 w h hf hs
end Yteeghjhkfaeflaa
end Go.Proofs
