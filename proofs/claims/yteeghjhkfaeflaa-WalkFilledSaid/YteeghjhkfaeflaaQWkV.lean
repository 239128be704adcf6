/- The reference's Refs. -/
import Derived.Test.YteeghjhkfaeflaaQWkU
import Derived.Deep.RegionHeld3
namespace Go.Proofs
namespace Yteeghjhkfaeflaa
open Go.RowKit

theorem refs_bad {ws : List Int} {f t : Int} (h : (wcF ws f t).2 ≠ 0) : refsF ws f t = ([], (wcF ws f t).2) := col_bad _ _ h
theorem ref_vis {ws : List Int} {f t : Int} {x : Int} (h : x ∈ visL ws f t) : (refF ws x).2 = (ptrsF ws x).2 ∧ ((ptrsF ws x).2 = 0 → (refF ws x).1 = (sltF ws x).1.zip (ptrsF ws x).1 ∧ (ptrsF ws x).1.length = (sltF ws x).1.length ∧ (ptrsF ws x).1.length ≤ 63 ∧ ∀ k, k < (ptrsF ws x).1.length → (sltF ws x).1.getD k 0 = x + 1 + k) := by
  have h0 : (sltF ws x).2 = 0 := (slt_err ws x).trans (vis_obj x h).1
  have e : firE (sltF ws x).2 (ptrsF ws x).2 = (ptrsF ws x).2 := by unfold firE; rw [if_pos h0]
  have hsp := slt_ptrs ws x
  rw [e] at hsp
  refine ⟨?_, fun hp => ?_⟩
  · unfold refF
    rw [e]
    split
    · rename_i hh; exact hh.symm
    · rfl
  · obtain ⟨-, -, h1, h2⟩ := hsp hp
    refine ⟨by unfold refF; rw [e, if_pos hp], h1.symm, by omega, fun k hk => ?_⟩
    rw [slt_err] at h0
    rcases obj_cases ws x with ⟨E, hE, eo⟩ | ⟨n, P, R, rfl, ho⟩
    · rw [eo] at h0; exact absurd h0 hE
    · have es : (sltF ws n).1 = upL (n + 1) P := by unfold sltF; rw [ho.is]; simp
      rw [es] at h1 ⊢
      rw [upL_length] at h1
      rw [upL_get _ _ _ (by omega)]
      omega
/-- what the reference gathers: the references of the first objects, and the first error -/
theorem errs_take {fe : Int → Int} {l : List Int} {j : Nat} (hj : j < l.length) (h : errsF fe (l.take j) = 0) : errsF fe (l.take (j + 1)) = fe l[j] := by
  rw [List.take_add_one, List.getElem?_eq_getElem hj, Option.toList_some, errs_snoc, h]; rfl
theorem errs_more (fe : Int → Int) (l : List Int) : ∀ (m : List Int), errsF fe l ≠ 0 → errsF fe (l ++ m) = errsF fe l := by
  intro m h
  unfold errsF at *
  rw [List.foldl_append]
  generalize l.foldl (fun e x => firE e (fe x)) 0 = e at *
  induction m with
  | nil => rfl
  | cons x m ih => rw [List.foldl_cons, show firE e (fe x) = e from if_neg h]; exact ih
theorem errs_stop {fe : Int → Int} {l : List Int} {j : Nat} (hj : j < l.length) (h : errsF fe (l.take j) = 0) (hx : fe l[j] ≠ 0) : errsF fe l = fe l[j] := by
  have h1 := errs_take hj h
  have h2 := errs_more fe (l.take (j + 1)) (l.drop (j + 1)) (by rw [h1]; exact hx)
  rw [List.take_append_drop] at h2
  rw [h2, h1]

theorem rows_apart {W : World} {B C n m : Nat} {u v : Value} {xs ys : List Value} (h1 : W.ownsRow B 3 1 u n xs) (h2 : W.ownsRow C 57 2 v m ys) : u.ownBlock = none ∨ u.ownBlock ≠ v.ownBlock := by
  rcases h1.2 with ⟨rfl, -⟩ | ⟨g, c, cur, rfl, -, hg, -⟩
  · exact .inl rfl
  · rcases h2.2 with ⟨rfl, -⟩ | ⟨g2, c2, cur2, rfl, -, hg2, -⟩
    · right; simp [Value.ownBlock]
    · right
      intro e
      simp only [Value.ownBlock, Option.some.injEq] at e
      rw [← e, hg] at hg2
      cases hg2
section
attribute [local go_sem ↓] fold_append
set_option maxRecDepth 100000 in
set_option maxHeartbeats 2000000 in
theorem rrefs25 (v : Value) (ws : List Int) (f t : Int) (w : World) (h : Ar w v ws) :
    Calls Try.prog 25 #[v, .int .i64 f, .int .i64 t] w fun e w' => RfAns w (refsF ws f t) e w' := by
  have E := Lib.hid ((robjs16 v ws f t w h).mono fun e w' h => h.own2)
  have Z := Lib.hid (fun (a : Int) W (hb : Below w.heap.size w W) => rpointers27 v ws a W (h.below hb))
  unfold IAns at Z
  obtain ⟨Av, cv, rfl, -, -⟩ := h.open
  clear h
  unfold RfAns
  by_cases hs : (wcF ws f t).2 = 0
  rotate_left
  · rw [refs_bad hs]
    rw [wc_bad hs] at E
    generalize wcF ws f t = c at *
    obtain ⟨c1, c2⟩ := c
    dsimp only at *
    have q : (c2 != 0) = true := by simpa using hs
    clear hs
    go_enter Try.func25, Try.ntmps25
    go_wp2_with (go_at_call 16; refine E.out.mono ?_; rintro e w1 ⟨u, rfl, hx, hb⟩; have HB := Lib.hid hb; clear hb)
    exact bodyPost_ret (v := .tuple #[.slice none 0 0, .int .i64 c2]) (by simp [results, Try.f25, go_sem]) rfl ⟨_, rfl, World.ownsRow_nil _ _ _ _, HB.out⟩
  have hR : refsF ws f t = if errsF (fun x => (refF ws x).2) (visL ws f t) = 0 then ((visL ws f t).flatMap (fun x => (refF ws x).1), 0) else ([], errsF (fun x => (refF ws x).2) (visL ws f t)) := col_ok _ _ hs
  rw [objs_eq, if_pos hs] at E
  have hvo := Lib.hid (fun x hx => ref_vis (ws := ws) (f := f) (t := t) (x := x) hx)
  have hvb := Lib.hid (fun x hx => vis_obj (ws := ws) (f := f) (t := t) x hx)
  have hst := Lib.hid (str_ok (wc_zero hs).1)
  have hlen := visL_len1 ws f t
  clear hs
  dsimp only at E
  generalize refsF ws f t = R at *
  generalize visL ws f t = l at *
  have HR := Lib.hid hR
  obtain ⟨m, hm⟩ : ∃ m, l.length = m := ⟨_, rfl⟩
  have HM := Lib.hid hm
  have HL := Lib.hid hlen
  rw [hm] at hlen
  clear hm hR
  go_enter Try.func25, Try.ntmps25
  go_upto_region 6 with (go_at_call 16; refine E.out.mono ?_; rintro e w1 ⟨u, rfl, hx, hb⟩; have HB := Lib.hid hb; clear hb; obtain ⟨A, cp, rfl, hc⟩ := hx.out; have HA := Lib.hid hc; clear hc hx)
  rw [HM.out]
  go_loopw [10, 11] (fun o i wr => ∃ j : Nat, j ≤ m ∧ i = .int .i64 j ∧ Hid (errsF (fun x => (refF ws x).2) (l.take j) = 0) ∧ Hid (wr.ownsRow w1.heap.size 57 2 o ((l.take j).flatMap (fun x => (refF ws x).1)).length (pc ((l.take j).flatMap (fun x => (refF ws x).1)))) ∧ Hid (Below w1.heap.size w1 wr)) (fun _ i _ => m - (intOf i).toNat)
  case atStart => exact ⟨0, by omega, rfl, Lib.hid rfl, Lib.hid (World.ownsRow_nil _ _ _ _), Lib.hid (Below.refl _ _)⟩
  case round =>
    obtain ⟨j, hj, rfl, HZ, hown, hB⟩ := hrel
    by_cases hlt : j < m
    rotate_left
    · have ek : j = m := by omega
      have hlt' : ¬ (j : Int) < (m : Int) := by omega
      have ht : l.take j = l := List.take_of_length_le (by rw [HM.out]; omega)
      have hz := HZ.out
      rw [ht] at hown hz
      have hr := HR.out
      rw [if_pos hz] at hr
      have HRR := Lib.hid hr
      clear ek ht hr hz
      obtain ⟨A', c', rfl⟩ := own_form hown.out
      go_wp2
      exact bodyPost_ret (v := .tuple #[.slice A' (l.flatMap (fun x => (refF ws x).1)).length c', .int .i64 0]) (by simp [results, Try.f25, go_sem]) rfl ⟨_, by rw [HRR.out], by rw [HRR.out]; exact own_mono hown.out HB.out.size, below_end HB.out hB.out⟩
    have hlt' : (j : Int) < (m : Int) := by omega
    have hjl : j < l.length := by rw [HM.out]; exact hlt
    obtain ⟨b1, o1, rfl, ca⟩ := HA.out (by omega)
    have ca' := keep_cell hB.out (ca j _ (ic_get l j hjl))
    have ad1 : (⟨b1, o1, none⟩ : Addr).add j = ⟨b1, o1 + j, none⟩ := by unfold Addr.add; split <;> simp_all
    have hg : l.getD j 0 = l[j] := by simp [List.getD_eq_getElem?_getD, hjl]
    have FT := Lib.hid (flat_take (fun x => (refF ws x).1) hjl)
    have ET := Lib.hid (errs_take hjl HZ.out)
    have EP := Lib.hid (errs_stop (fe := fun x => (refF ws x).2) hjl HZ.out)
    have hbd := Lib.hid (flat_bound (fun x => (refF ws x).1) (ref_len ws) l HL.out j)
    obtain ⟨hv1, hv2⟩ := hvo.out l[j] (List.getElem_mem hjl)
    have hrng := hvb.out l[j] (List.getElem_mem hjl)
    rw [hg] at ca'
    have C0 := Lib.hid (ca j _ (ic_get l j hjl))
    rw [hg] at C0
    generalize l[j] = x at *
    have ZX := Lib.hid (Z.out x wr (below_end HB.out hB.out))
    (try dsimp only at FT ET EP)
    rw [hv1] at ET EP
    clear ca hg
    obtain ⟨Al, cl, rfl⟩ := own_form hown.out
    by_cases hpe : (ptrsF ws x).2 = 0
    rotate_left
    · have hr := HR.out
      rw [EP.out hpe, if_neg hpe] at hr
      have HRR := Lib.hid hr
      generalize (ptrsF ws x).2 = pe at *
      have q : (pe != 0) = true := by simpa using hpe
      clear hpe hr hv1 hv2 EP ET HR
      go_wp2_with (go_at_call 48; refine ZX.out.mono ?_; rintro e w2 ⟨u2, rfl, x2, hb2⟩; have HB2 := Lib.hid (below_end hB.out hb2); clear hb2 x2)
      exact bodyPost_ret (v := .tuple #[.slice none 0 0, .int .i64 pe]) (by simp [results, Try.f25, go_sem]) rfl ⟨_, by rw [HRR.out], by rw [HRR.out]; exact World.ownsRow_nil _ _ _ _, below_end HB.out HB2.out⟩
    obtain ⟨hr1, hr2, hr3, hr4⟩ := hv2 hpe
    rw [hpe] at ET ZX
    have HS := Lib.hid hr4
    have HS2 := Lib.hid hr2
    rw [hr1] at FT
    generalize (ptrsF ws x).1 = pl at *
    generalize (sltF ws x).1 = sl at *
    clear hv1 hv2 EP hpe hr1 hr2 hr4
    generalize hacc : (l.take j).flatMap (fun x => (refF ws x).1) = acc at *
    clear hacc
    obtain ⟨n, hn⟩ : ∃ n, pl.length = n := ⟨_, rfl⟩
    have HN := Lib.hid hn
    have h63 : n ≤ 63 := by omega
    clear hn hr3
    have hx1 : 1 ≤ x ∧ x ≤ 1601 := by have := hst.out; omega
    go_upto_region 12 with (go_at_call 48; refine ZX.out.mono ?_; rintro e w2 ⟨u2, rfl, x2, hb2⟩; have HB2 := Lib.hid (below_end hB.out hb2); have O2 := Lib.hid (own_below hown.out hb2); clear hb2; obtain ⟨Ap, cpp, rfl⟩ := own_form x2; have HP := Lib.hid x2; clear x2)
    have HP2 := Lib.hid (show w2.ownsRow wr.heap.size 3 1 (.slice Ap n cpp) n (ic pl) by have := HP.out; rwa [HN.out] at this)
    rw [HN.out]
    clear ca' hrng HP
    go_loopw [10, 14] (fun o i wr2 => ∃ k : Nat, k ≤ n ∧ i = .int .i64 k ∧ Hid (wr2.ownsRow w1.heap.size 57 2 o (acc ++ (sl.zip pl).take k).length (pc (acc ++ (sl.zip pl).take k))) ∧ Hid (wr2.ownsRow wr.heap.size 3 1 (.slice Ap n cpp) n (ic pl)) ∧ Hid (Below w1.heap.size w1 wr2)) (fun _ i _ => n - (intOf i).toNat)
    case atStart => exact ⟨0, by omega, rfl, Lib.hid (by simpa using O2.out), HP2, HB2⟩
    case round =>
      obtain ⟨k, hk, rfl, hown2, hop, hB3⟩ := hrel
      by_cases hlk : k < n
      · have hlk' : (k : Int) < (n : Int) := by omega
        have hkl : k < pl.length := by rw [HN.out]; exact hlk
        obtain ⟨g2, cg2, hee⟩ := own_some hop.out (by omega)
        simp only [Value.slice.injEq] at hee
        obtain ⟨rfl, -, rfl⟩ := hee
        have cb' := (hop.out.cellAt k (by omega)).trans (ic_get pl k hkl)
        have cx := keep_cell hB3.out C0.out
        have ad2 : (⟨g2, 0, none⟩ : Addr).add k = ⟨g2, k, none⟩ := by unfold Addr.add; split <;> simp_all
        have ZT := Lib.hid (show (sl.zip pl).take (k + 1) = (sl.zip pl).take k ++ [(x + 1 + (k : Int), pl.getD k 0)] by
          have hks : k < sl.length := by rw [← HS2.out]; exact hkl
          rw [List.take_add_one, List.getElem?_eq_getElem (by rw [List.length_zip]; omega), ← HS.out k hkl]
          simp [List.getD_eq_getElem?_getD, List.getElem?_eq_getElem hks, List.getElem?_eq_getElem hkl])
        have hlz : (acc ++ (sl.zip pl).take k).length + 1 ≤ 1000000 := by
          have h1 := hbd.out
          have h2 : ((sl.zip pl).take k).length ≤ k := by rw [List.length_take]; omega
          rw [List.length_append]; omega
        generalize pl.getD k 0 = z at *
        have e1 : IntKind.i64.wrap (x + 1) = x + 1 := IntWalk.i64_in _ (by omega)
        have e2 : IntKind.i64.wrap (x + 1 + (k : Int)) = x + 1 + (k : Int) := IntWalk.i64_in _ (by omega)
        have ZT2 := Lib.hid (show acc ++ (sl.zip pl).take (k + 1) = (acc ++ (sl.zip pl).take k) ++ [(x + 1 + (k : Int), z)] by rw [ZT.out, List.append_assoc])
        generalize hcc : acc ++ (sl.zip pl).take k = cc at *
        have HCC := Lib.hid hcc
        clear hcc
        obtain ⟨Ac, cc2, rfl⟩ := own_form hown2.out
        have hgb := alloc_below wr (.cells #[.int .i64 (x + 1 + (k : Int)), .int .i64 z] 57)
        have hgd : Below wr.heap.size wr (wr.alloc (.cells #[.int .i64 (x + 1 + (k : Int)), .int .i64 z] 57)).drew := hgb.drew
        obtain ⟨l', W', hr, ho, hgr⟩ := app_any Try.underlying39 info57 rfl (own_below hown2.out hgd) (u := .slice (some ⟨wr.heap.size, 0, none⟩) 1 1) (m := 1) (news := pc [(x + 1 + (k : Int), z)]) ⟨_, _, rfl, fun _ => ⟨wr.heap.size, 0, rfl, fun i u hi => by
          show (wr.alloc (.cells #[.int .i64 (x + 1 + (k : Int)), .int .i64 z] 57)).cell? _ = _
          rw [cell_of_row _ _ _ _ _ _ (heap_alloc_new wr _), Nat.zero_add]; simpa [pc] using hi⟩⟩ (pc_length _) (pc_one _) hlz (by decide) (by decide) (Nat.le_trans hB3.out.size hgd.size)
        obtain ⟨A2, c2, rfl⟩ := own_form ho
        have hapart := rows_apart (own_below hop.out hgd) (own_below hown2.out hgd)
        have HOP := Lib.hid ((own_below hop.out hgd).kept hgr hapart)
        have HB4 := Lib.hid ((hB3.out.trans (hgd.mono hB3.out.size)).grown hgr (Nat.le_trans hB3.out.size hgd.size) (fun q hq => ((own_below hown2.out hgd).lt q hq).1))
        have HO := Lib.hid ho
        have s0 := Lib.hid (show wr.drew.cell? ⟨b1, o1 + j, none⟩ = some (.int .i64 x) ∧ wr.drew.cell? ⟨g2, k, none⟩ = some (.int .i64 z) from ⟨cx, cb'⟩)
        have s1 := Lib.hid (show (wr.alloc (.cells #[.int .i64 (x + 1 + (k : Int)), .int .i64 z] 57)).drew.cell? ⟨b1, o1 + j, none⟩ = some (.int .i64 x) ∧ (wr.alloc (.cells #[.int .i64 (x + 1 + (k : Int)), .int .i64 z] 57)).drew.cell? ⟨g2, k, none⟩ = some (.int .i64 z) from ⟨keep_cell hgd cx, keep_cell hgd cb'⟩)
        have s2 := Lib.hid (show W'.cell? ⟨b1, o1 + j, none⟩ = some (.int .i64 x) ∧ W'.cell? ⟨g2, k, none⟩ = some (.int .i64 z) from ⟨keep_cell HB4.out C0.out, by
          have := (HOP.out.cellAt k (by omega)); rw [this]; exact (hop.out.cellAt k (by omega)).symm.trans cb'⟩)
        clear hgb hgd hapart ho hgr
        go_wp2
        go_region_held3 (fun W => W.cell? ⟨b1, o1 + j, none⟩ = some (.int .i64 x) ∧ W.cell? ⟨g2, k, none⟩ = some (.int .i64 z)) (first | with_reducible exact s0.out | with_reducible exact s1.out | with_reducible exact s2.out) (first | fail | fail)
        go_wp2
        refine ⟨⟨k + 1, by omega, ?_, ?_, HOP, HB4⟩, ?_⟩
        · show Value.int .i64 ((k : Int) + 1) = .int .i64 ((k + 1 : Nat) : Int)
          simp
        · show Hid (W'.ownsRow w1.heap.size 57 2 (.slice A2 (cc.length + 1) c2) (acc ++ (sl.zip pl).take (k + 1)).length (pc (acc ++ (sl.zip pl).take (k + 1))))
          rw [ZT2.out, pc_append, List.length_append, List.length_singleton]; exact HO
        · show n - ((k : Int) + 1).toNat < n - ((k : Int)).toNat
          omega
      · have ek : k = n := by omega
        have hlk' : ¬ (k : Int) < (n : Int) := by omega
        have ht : (sl.zip pl).take k = sl.zip pl := List.take_of_length_le (by rw [List.length_zip]; have := HN.out; omega)
        rw [ht] at hown2
        clear ek ht
        go_wp2
        refine ⟨⟨j + 1, by omega, by simp, ET, ?_, hB3⟩, ?_⟩
        · rw [FT.out]; exact hown2
        · show m - ((j : Int) + 1).toNat < m - ((j : Int)).toNat
          omega
end
end Yteeghjhkfaeflaa
end Go.Proofs
