/- The reference's Slots and Into; two lists of references compared. -/
import Derived.Test.YteeghjhkfaeflaaG31
namespace Go.Proofs
namespace Yteeghjhkfaeflaa
open Go.RowKit

theorem slots_bad {ws : List Int} {f t : Int} (h : (wcF ws f t).2 ≠ 0) : slotsF ws f t = ([], (wcF ws f t).2) := col_bad _ _ h
theorem slots_ok {ws : List Int} {f t : Int} (h : (wcF ws f t).2 = 0) : slotsF ws f t = ((visL ws f t).flatMap (fun x => (sltF ws x).1), 0) := by
  unfold slotsF
  rw [col_ok _ _ h, if_pos (errs_all (fun x hx => by rw [slt_err]; exact (vis_obj x hx).1))]
theorem flat_take {α : Type} (fl : Int → List α) {l : List Int} {j : Nat} (hj : j < l.length) : (l.take (j + 1)).flatMap fl = (l.take j).flatMap fl ++ fl l[j] := by
  rw [List.take_add_one, List.getElem?_eq_getElem hj, Option.toList_some, List.flatMap_append, List.flatMap_cons, List.flatMap_nil, List.append_nil]
theorem flat_bound {α : Type} (fl : Int → List α) (h : ∀ x, (fl x).length ≤ 64) (l : List Int) (hl : l.length ≤ 1601) (j : Nat) : ((l.take j).flatMap fl).length ≤ 102464 := by
  have h1 := flat_len fl h (l.take j)
  have h2 : (l.take j).length ≤ l.length := by rw [List.length_take]; omega
  omega
theorem visL_len1 (ws : List Int) (f t : Int) : (visL ws f t).length ≤ 1601 := vis_len ws f t

section
attribute [local go_sem ↓] fold_append
set_option maxRecDepth 100000 in
set_option maxHeartbeats 1000000 in
theorem rslots23 (v : Value) (ws : List Int) (f t : Int) (w : World) (h : Ar w v ws) :
    Calls Try.prog 23 #[v, .int .i64 f, .int .i64 t] w fun e w' => IAns w (slotsF ws f t) e w' := by
  have E := Lib.hid ((robjs16 v ws f t w h).mono fun e w' h => h.own2)
  have Z := Lib.hid (fun (a : Int) W (hb : Below w.heap.size w W) => (rslots20 v ws a W (h.below hb)).mono fun e w' h => h.own2)
  obtain ⟨Av, cv, rfl, -, -⟩ := h.open
  clear h
  unfold IAns
  by_cases hs : (wcF ws f t).2 = 0
  rotate_left
  · rw [slots_bad hs]
    rw [wc_bad hs] at E
    generalize wcF ws f t = c at *
    obtain ⟨c1, c2⟩ := c
    dsimp only at *
    have q : (c2 != 0) = true := by simpa using hs
    clear hs
    go_enter Try.func23, Try.ntmps23
    go_wp2_with (go_at_call 16; refine E.out.mono ?_; rintro e w1 ⟨u, rfl, hx, hb⟩; have HB := Lib.hid hb; clear hb)
    exact bodyPost_ret (v := .tuple #[.slice none 0 0, .int .i64 c2]) (by simp [results, Try.f23, go_sem]) rfl ⟨_, rfl, World.ownsRow_nil _ _ _ _, HB.out⟩
  rw [slots_ok hs]
  rw [objs_eq, if_pos hs] at E
  have hvo := Lib.hid (fun x hx => (slt_err ws x).trans (vis_obj (ws := ws) (f := f) (t := t) x hx).1)
  have hlen := visL_len1 ws f t
  clear hs
  dsimp only at *
  generalize visL ws f t = l at *
  obtain ⟨m, hm⟩ : ∃ m, l.length = m := ⟨_, rfl⟩
  have HM := Lib.hid hm
  have HL := Lib.hid hlen
  rw [hm] at hlen
  clear hm
  go_enter Try.func23, Try.ntmps23
  go_upto_region 6 with (go_at_call 16; refine E.out.mono ?_; rintro e w1 ⟨u, rfl, hx, hb⟩; have HB := Lib.hid hb; clear hb; obtain ⟨A, cp, rfl, hc⟩ := hx.out; have HA := Lib.hid hc; clear hc hx)
  rw [HM.out]
  go_loopw [10, 11] (fun o i wr => ∃ j : Nat, j ≤ m ∧ i = .int .i64 j ∧ Hid (wr.ownsRow w1.heap.size 3 1 o ((l.take j).flatMap (fun x => (sltF ws x).1)).length (ic ((l.take j).flatMap (fun x => (sltF ws x).1)))) ∧ Hid (Below w1.heap.size w1 wr)) (fun _ i _ => m - (intOf i).toNat)
  case atStart => exact ⟨0, by omega, rfl, Lib.hid (World.ownsRow_nil _ _ _ _), Lib.hid (Below.refl _ _)⟩
  case round =>
    obtain ⟨j, hj, rfl, hown, hB⟩ := hrel
    by_cases hlt : j < m
    · have hlt' : (j : Int) < (m : Int) := by omega
      have hjl : j < l.length := by rw [HM.out]; exact hlt
      obtain ⟨b1, o1, rfl, ca⟩ := HA.out (by omega)
      have ca' := keep_cell hB.out (ca j _ (ic_get l j hjl))
      have ad1 : (⟨b1, o1, none⟩ : Addr).add j = ⟨b1, o1 + j, none⟩ := by unfold Addr.add; split <;> simp_all
      have hg : l.getD j 0 = l[j] := by simp [List.getD_eq_getElem?_getD, hjl]
      have FT := Lib.hid (flat_take (fun x => (sltF ws x).1) hjl)
      have hbd := Lib.hid (flat_bound (fun x => (sltF ws x).1) (fun x => Nat.le_trans (slt_len ws x) (by decide)) l HL.out j)
      have hv := hvo.out l[j] (List.getElem_mem hjl)
      have hsl := Lib.hid (slt_len ws l[j])
      rw [hg] at ca'
      generalize l[j] = x at *
      have ZX := Lib.hid (Z.out x wr (below_end HB.out hB.out))
      rw [hv] at ZX
      (try dsimp only at FT)
      generalize (sltF ws x).1 = sx at *
      generalize (l.take j).flatMap (fun x => (sltF ws x).1) = acc at *
      clear ca hg hv
      obtain ⟨Al, cl, rfl⟩ := own_form hown.out
      go_upto_region 9 with (go_at_call 45; refine ZX.out.mono ?_; rintro e w2 ⟨u2, rfl, x2, hb2⟩; have X2 := Lib.hid x2.out; have HB2 := Lib.hid (below_end hB.out hb2); have O2 := Lib.hid (own_below hown.out hb2); clear hb2 x2)
      obtain ⟨l', W', hr, ho, hgr⟩ := app_any Try.underlying29 info3 rfl O2.out (u := u2) (m := sx.length) (news := ic sx) X2.out (ic_len1 sx) (ic_one sx) (by have := hbd.out; have := hsl.out; omega) (by decide) (by decide) HB2.out.size
      obtain ⟨A2, c2, rfl⟩ := own_form ho
      have HO := Lib.hid ho
      have HG := Lib.hid (HB2.out.grown hgr HB2.out.size (fun k hk => (O2.out.lt k hk).1))
      clear ho hgr
      go_wp2
      refine ⟨⟨j + 1, by omega, by simp, ?_, HG⟩, ?_⟩
      · rw [FT.out, List.length_append, ic_append]; exact HO
      · show m - ((j : Int) + 1).toNat < m - ((j : Int)).toNat
        omega
    · have ek : j = m := by omega
      have hlt' : ¬ (j : Int) < (m : Int) := by omega
      have ht : l.take j = l := List.take_of_length_le (by rw [HM.out]; omega)
      rw [ht] at hown
      clear ek ht
      obtain ⟨A', c', rfl⟩ := own_form hown.out
      go_wp2
      exact bodyPost_ret (v := .tuple #[.slice A' (l.flatMap (fun x => (sltF ws x).1)).length c', .int .i64 0]) (by simp [results, Try.f23, go_sem]) rfl ⟨_, rfl, by have := own_mono hown.out HB.out.size; simpa only [List.length_flatMap] using this, below_end HB.out hB.out⟩
end
set_option maxRecDepth 100000 in
set_option maxHeartbeats 1000000 in
theorem rsame26 (xs : List (Int × Int)) (v1 v2 : Value) (W : World) (hm : xs.length ≤ 1000000) (h1 : XAt W v1 xs.length (pc xs)) (h2 : XAt W v2 xs.length (pc xs)) :
    Calls Try.prog 26 #[v1, v2] W fun e w' => e = .returned (.bool true) ∧ Below W.heap.size W w' := by
  obtain ⟨A1, c1, rfl, ha⟩ := h1
  obtain ⟨A2, c2, rfl, hb⟩ := h2
  have HA1 := Lib.hid ha
  have HA2 := Lib.hid hb
  obtain ⟨m, hmm⟩ : ∃ m, xs.length = m := ⟨_, rfl⟩
  have HM := Lib.hid hmm
  rw [hmm] at hm ⊢
  clear ha hb hmm
  have n0 : ((m : Int) != (m : Int)) = false := by simp
  go_enter Try.func26, Try.ntmps26
  go_wp2
  go_loopw [5] (fun i wr => ∃ j : Nat, j ≤ m ∧ i = .int .i64 j ∧ Hid (Below W.heap.size W wr)) (fun i _ => m - (intOf i).toNat)
  case atStart => exact ⟨0, by omega, rfl, Lib.hid (Below.refl _ _)⟩
  case round =>
    obtain ⟨j, hj, rfl, hB⟩ := hrel
    by_cases hlt : j < m
    · have hlt' : (j : Int) < (m : Int) := by omega
      have hjl : j < xs.length := by rw [HM.out]; exact hlt
      obtain ⟨b1, o1, rfl, ca⟩ := HA1.out (by omega)
      obtain ⟨b2, o2, rfl, cb⟩ := HA2.out (by omega)
      have a1 := keep_cell hB.out (ca _ _ (pc_get xs j hjl).1)
      have a2 := keep_cell hB.out (ca _ _ (pc_get xs j hjl).2)
      have a3 := keep_cell hB.out (cb _ _ (pc_get xs j hjl).1)
      have a4 := keep_cell hB.out (cb _ _ (pc_get xs j hjl).2)
      rw [← Nat.add_assoc] at a2 a4
      have ad1 : (⟨b1, o1, none⟩ : Addr).add (j * 2) = ⟨b1, o1 + j * 2, none⟩ := by unfold Addr.add; split <;> simp_all
      have ad2 : (⟨b2, o2, none⟩ : Addr).add (j * 2) = ⟨b2, o2 + j * 2, none⟩ := by unfold Addr.add; split <;> simp_all
      generalize xs.getD j (0, 0) = x at *
      obtain ⟨y, z⟩ := x
      dsimp only at *
      have NE := fun W => Hd.neR y z W
      clear ca cb
      go_wp2
      go_quiet (fail)
      go_wp2
      refine ⟨⟨j + 1, by omega, by simp, Lib.hid (below_drewN hB.out _)⟩, ?_⟩
      show m - ((j : Int) + 1).toNat < m - ((j : Int)).toNat
      omega
    · have ek : j = m := by omega
      have hlt' : ¬ (j : Int) < (m : Int) := by omega
      go_wp2
      go_ret
      exact ⟨rfl, hB.out⟩
end Yteeghjhkfaeflaa
end Go.Proofs
