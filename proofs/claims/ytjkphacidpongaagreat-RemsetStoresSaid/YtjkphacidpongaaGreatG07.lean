/- within: the numbers of a table between two bounds, sorted. -/
import Derived.Test.YtjkphacidpongaaGreatG06
import Derived.Test.YtjkphacidpongaaGreatShelf
import Derived.Sort.OwnSortedInts
namespace Go.Proofs
namespace YtjkphacidpongaaGreat
open Go.RowKit

def wiB (f t x : Int) : Bool := isA x && (decide (f ≤ x) && decide (x < t))
theorem wiB_eq (f t x : Int) : wiB f t x = (isA x && (decide (f ≤ x) && decide (x < t))) := rfl
/-- the numbers of a list from f on, and below t, sorted -/
def wiF (cs : List Int) (f t : Int) : List Int := (cs.filter fun x => wiB f t x).mergeSort (fun x y => decide (x ≤ y))
theorem wi_tab {cs : List Int} (h : Tab cs) (f t : Int) : wiF cs f t = inF f t (srt cs) := h.sort_eq f t
theorem wi_len (cs : List Int) (f t : Int) : (wiF cs f t).length ≤ cs.length := by
  unfold wiF; rw [List.length_mergeSort]; exact List.length_filter_le _ _
theorem filter_snoc (p : Int → Bool) (l : List Int) (x : Int) : (l ++ [x]).filter p = if p x = true then l.filter p ++ [x] else l.filter p := by
  rw [List.filter_append]
  by_cases h : p x = true <;> simp [h]
theorem wi_snoc (cs : List Int) (f t : Int) (k : Nat) (hk : k < cs.length) : (cs.take (k + 1)).filter (wiB f t) = if wiB f t (cs.getD k 0) = true then (cs.take k).filter (wiB f t) ++ [cs.getD k 0] else (cs.take k).filter (wiB f t) := by
  rw [take_snoc hk]; exact filter_snoc (wiB f t) (cs.take k) (cs.getD k 0)
theorem nsort_none (p : Option Addr) (cap : Nat) (w : World) : Calls Tryz.prog 61 #[.slice p 0 cap] w fun e w' => e = .returned (.tuple #[]) ∧ w' = w := Tryz.slices_Sort_int_none p cap w
/-- the sort of a row of the call's own -/
theorem sort59 {W w : World} {v : Value} {zs : List Int} (hown : W.ownsRow w.heap.size 3 1 v zs.length (ic zs)) (hB : Below w.heap.size w W) (hl : zs.length ≤ 100000) :
    Calls Tryz.prog 61 #[v] W fun e W' => e = .returned (.tuple #[]) ∧ W'.ownsRow w.heap.size 3 1 v zs.length (ic (zs.mergeSort fun x y => decide (x ≤ y))) ∧ Below w.heap.size w W' := by
  rcases hown.2 with ⟨rfl, h0⟩ | ⟨g, cap, cur, rfl, hg, hh, hnc, hcap, hcur, hxs⟩
  · have hz : zs = [] := List.eq_nil_of_length_eq_zero h0
    subst hz
    refine (nsort_none none 0 W).mono ?_
    rintro e W' ⟨rfl, rfl⟩
    exact ⟨rfl, by simpa using hown, hB⟩
  · by_cases h0 : zs = []
    · subst h0
      refine (nsort_none _ cap W).mono ?_
      rintro e W' ⟨rfl, rfl⟩
      exact ⟨rfl, by simpa using hown, hB⟩
    · have hx : cur.toList.take zs.length = zs.map (Value.int .i64) := by rw [Nat.mul_one] at hxs; exact hxs
      have hH := holds_of_blockI hh hx
      refine (Tryz.slices_Sort_int g 0 cap zs W hH (Array.getElem?_eq_some_iff.1 hh).1 (by omega)).mono ?_
      rintro e W' ⟨rfl, n, os, rfl⟩
      have hs := ownsRow_sortedI (n := n) (os := os) (ts := zs.mergeSort fun x y => decide (x ≤ y)) (ss := zs) (List.length_mergeSort _) hg hh hnc hcap hcur
      exact ⟨rfl, hs, hB.grown (grownBy_sortedI (g := g) (n := n) (os := os) (w := W) _) hB.size (fun k e => by injection e with e; omega)⟩
set_option maxRecDepth 100000 in
set_option maxHeartbeats 1000000 in
theorem within43 (v : Value) (cs : List Int) (f t : Int) (w : World) (h : IAt w v cs) (hm : cs.length ≤ 100000) :
    Calls Tryz.prog 92 #[v, .int .i64 f, .int .i64 t] w fun e w' => ∃ u, e = .returned u ∧ w'.ownsRow w.heap.size 3 1 u (wiF cs f t).length (ic (wiF cs f t)) ∧ Below w.heap.size w w' := by
  obtain ⟨A, cap, rfl, hA⟩ := h
  have HA := Lib.hid hA
  clear hA
  have FL := Lib.hid (fun k => (List.length_filter_le (wiB f t) (cs.take k) : ((cs.take k).filter (wiB f t)).length ≤ (cs.take k).length))
  have FS := Lib.hid (wi_snoc cs f t)
  have WF := Lib.hid (show wiF cs f t = ((cs.take cs.length).filter (wiB f t)).mergeSort (fun x y => decide (x ≤ y)) by rw [List.take_length]; rfl)
  obtain ⟨R, hR⟩ : ∃ R, wiF cs f t = R := ⟨_, rfl⟩
  rw [hR] at WF ⊢
  obtain ⟨m, hm2⟩ : ∃ m, cs.length = m := ⟨_, rfl⟩
  rw [hm2] at hm HA FS WF ⊢
  clear hm2 hR
  go_enter Tryz.func92, Tryz.ntmps92
  go_wp2
  go_loopw [7, 9, 12] (fun l x i wr => ∃ k : Nat, k ≤ m ∧ i = .int .i64 k ∧ Hid (wr.ownsRow w.heap.size 3 1 l ((cs.take k).filter (wiB f t)).length (ic ((cs.take k).filter (wiB f t)))) ∧ Hid (Below w.heap.size w wr)) (fun _ _ i _ => m - (intOf i).toNat)
  case atStart => exact ⟨0, by omega, rfl, Lib.hid (World.ownsRow_nil _ _ _ _), Lib.hid (Below.refl _ _)⟩
  case round =>
    obtain ⟨k, hk, rfl, HO, HB⟩ := hrel
    have hkl : ((cs.take k).filter (wiB f t)).length ≤ 100000 := by
      have := FL.out k
      rw [List.length_take] at this
      omega
    by_cases hlt : k < m
    rotate_left
    · have hlt' : ¬ (k : Int) < (m : Int) := by omega
      obtain rfl : k = m := by omega
      have S := Lib.hid (sort59 HO.out HB.out hkl)
      obtain ⟨A', c', rfl⟩ := own_form HO.out
      rw [← WF.out] at S
      have RL := Lib.hid (show R.length = ((cs.take k).filter (wiB f t)).length by rw [WF.out, List.length_mergeSort])
      rw [← RL.out] at S ⊢
      clear HO hkl
      go_wp2_with (go_at_call 61; refine S.out.mono ?_; rintro e w1 ⟨rfl, ho, hb⟩; have O1 := Lib.hid ho; have B1 := Lib.hid hb; clear ho hb)
      refine bodyPost_ret (v := .slice A' R.length c') (by simp [results, Tryz.f92, go_sem]) rfl ⟨_, rfl, O1.out, B1.out⟩
    have hlt' : (k : Int) < (m : Int) := by omega
    obtain ⟨b1, o1, rfl, ca⟩ := HA.out (by omega)
    have ca' := (HB.out.cell (cell_lt (ca k hlt))).trans (ca k hlt)
    have ad1 : (⟨b1, o1, none⟩ : Addr).add k = ⟨b1, o1 + k, none⟩ := by unfold Addr.add; split <;> simp_all
    have HS := Lib.hid (FS.out k hlt)
    clear ca
    generalize cs.getD k 0 = x at *
    have AD := Lib.hid (isaddr51 x wr)
    have own3 := HO
    have B3 := HB
    have FIN := Lib.hid (show ∀ v5 W5, W5.ownsRow w.heap.size 3 1 v5 ((cs.take (k + 1)).filter (wiB f t)).length (ic ((cs.take (k + 1)).filter (wiB f t))) → Below w.heap.size w W5 →
        (∃ k_1 : Nat, k_1 ≤ m ∧ Value.int .i64 ((k : Int) + 1) = .int .i64 k_1 ∧ Hid (W5.ownsRow w.heap.size 3 1 v5 ((cs.take k_1).filter (wiB f t)).length (ic ((cs.take k_1).filter (wiB f t)))) ∧ Hid (Below w.heap.size w W5)) ∧ m - (intOf (.int .i64 ((k : Int) + 1))).toNat < m - (intOf (.int .i64 (k : Int))).toNat from by
      intro v5 W5 h1 h2
      refine ⟨⟨k + 1, by omega, by simp, Lib.hid h1, Lib.hid h2⟩, ?_⟩
      show m - ((k : Int) + 1).toNat < m - ((k : Int)).toNat
      omega)
    have WB := Lib.hid (wiB_eq f t x)
    generalize wiB f t x = b at *
    generalize isA x = i at *
    cases i with
    | false =>
      have e := HS.out
      rw [WB.out, if_neg (by simp)] at e
      clear HS WB
      go_wp2_with (go_at_call 107; refine AD.out.mono ?_; rintro e w1 ⟨rfl, rfl⟩)
      exact FIN.out _ _ (by rw [e]; exact own3.out) B3.out
    | true =>
      by_cases h1 : f ≤ x
      rotate_left
      · have q1 : decide (f ≤ x) = false := decide_eq_false h1
        have e := HS.out
        rw [WB.out, q1, if_neg (by simp)] at e
        clear HS WB h1
        go_wp2_with (go_at_call 107; refine AD.out.mono ?_; rintro e w1 ⟨rfl, rfl⟩)
        exact FIN.out _ _ (by rw [e]; exact own3.out) B3.out
      have q1 : decide (f ≤ x) = true := decide_eq_true h1
      by_cases h2 : x < t
      rotate_left
      · have q2 : decide (x < t) = false := decide_eq_false h2
        have e := HS.out
        rw [WB.out, q1, q2, if_neg (by simp)] at e
        clear HS WB h1 h2
        go_wp2_with (go_at_call 107; refine AD.out.mono ?_; rintro e w1 ⟨rfl, rfl⟩)
        exact FIN.out _ _ (by rw [e]; exact own3.out) B3.out
      have q2 : decide (x < t) = true := decide_eq_true h2
      have e := Lib.hid HS.out
      rw [WB.out, q1, q2, show (true && (true && true)) = true from rfl, if_pos rfl] at e
      clear HS WB h1 h2
      go_wp2_with (first | (go_at_call 107; refine AD.out.mono ?_; rintro e w1 ⟨rfl, rfl⟩) | (at_builtin; refine push_int own3.out B3.out x rfl _ _ rfl rfl wr.heap.size rfl rfl rfl (by omega) ?_; intro v5 W5 ho5 hb5 hs5))
      exact FIN.out _ _ (by rw [e.out]; exact ho5) hb5
end YtjkphacidpongaaGreat
end Go.Proofs
/- Adding to a table, and dropping. -/
namespace Go.Proofs
namespace YtjkphacidpongaaGreat
open Go.RowKit

theorem grown_step {W X Y : World} {g g' : Nat} (h : W.grownBy X (some g)) (k : X.grownBy Y (some g')) (hg : g' = g ∨ W.heap.size ≤ g') : W.grownBy Y (some g) :=
  ⟨k.os.trans h.os, k.tape.trans h.tape, k.output.trans h.output, Nat.le_trans h.size k.size, fun i hi hne => (k.block i (by have := h.size; omega) (fun e => by injection e with e; exact hg.elim (fun h2 => hne (by rw [e, h2])) (fun h2 => by omega))).trans (h.block i hi hne)⟩
theorem grown_below {W X Y : World} {r : Option Nat} (h : W.grownBy X r) (k : Below X.heap.size X Y) : W.grownBy Y r :=
  ⟨k.os.trans h.os, k.tape.trans h.tape, k.output.trans h.output, Nat.le_trans h.size k.size, fun i hi hne => (k.block i (by have := h.size; omega)).trans (h.block i hi hne)⟩
theorem below_grown {W X Y : World} {r : Option Nat} (k : Below W.heap.size W X) (h : X.grownBy Y r) : W.grownBy Y r :=
  ⟨h.os.trans k.os, h.tape.trans k.tape, h.output.trans k.output, Nat.le_trans k.size h.size, fun i hi hne => (h.block i (by have := k.size; omega) hne).trans (k.block i hi)⟩
theorem grown_of_old {w W X : World} {g : Nat} (hB : Below w.heap.size w W) (h : W.grownBy X (some g)) (hg : w.heap.size ≤ g) : Below w.heap.size w X := hB.grown h hB.size (fun k e => by injection e with e; omega)
/-- what find needs of a table of the call's own -/
structure Own (W : World) (g : Nat) (cs : List Int) : Prop where
  at_ : TAt W g cs
  zero : (0 : Int) ∈ cs
  tab : Tab cs
theorem Own.find {W : World} {g : Nat} {cs : List Int} (h : Own W g cs) (a : Int) (ha : 1 ≤ a ∧ a ≤ 1600) :
    Calls Tryz.prog 119 #[tv g cs.length, .int .i64 a] W fun e w' => e = .returned (.tuple #[.int .i64 (findF cs a), .bool (hasB cs a)]) ∧ Below W.heap.size W w' :=
  find46 _ cs a W h.at_.iat h.zero (fun c hc => (h.tab.rng c hc).1) (by have := h.tab.hi; omega) ha
set_option maxRecDepth 100000 in
set_option maxHeartbeats 1000000 in
theorem add48_in (g : Nat) (cs : List Int) (a : Int) (W : World) (h : Own W g cs) (ha : 1 ≤ a ∧ a ≤ 1600) (hh : hasB cs a = true) :
    Calls Tryz.prog 103 #[tv g cs.length, .int .i64 a] W fun e W' => e = .returned (.tuple #[tv g cs.length, .bool false]) ∧ Below W.heap.size W W' := by
  have F := Lib.hid (h.find a ha)
  rw [hh] at F
  unfold tv at *
  generalize findF cs a = p at *
  generalize cs.length = n at *
  clear h hh
  go_enter Tryz.func103, Tryz.ntmps103
  go_wp2_with (go_at_call 119; refine F.out.mono ?_; rintro e w1 ⟨rfl, hb⟩; have B := Lib.hid hb; clear hb)
  refine bodyPost_ret (v := .tuple #[.slice (some ⟨g, 0, none⟩) n n, .bool false]) (by simp [results, Tryz.f103, go_sem]) rfl ⟨rfl, B.out⟩
theorem find_free {cs : List Int} {a : Int} (h : hasB cs a = false) : findF cs a = (pos a cs.length (freeI cs a) : Int) := by unfold findF; rw [h]; rfl
theorem find_stop_at {cs : List Int} {a : Int} (h : hasB cs a = true) : findF cs a = (pos a cs.length (stopI cs a) : Int) := by unfold findF; rw [h]; rfl
theorem put_at (cs : List Int) (a : Int) : putF cs a = cs.set (pos a cs.length (freeI cs a)) a := rfl
set_option maxRecDepth 100000 in
set_option maxHeartbeats 1000000 in
theorem add48_calm (g : Nat) (cs : List Int) (a : Int) (W : World) (h : TAt W g cs) (hs : StepOk cs a) :
    Calls Tryz.prog 103 #[tv g cs.length, .int .i64 a] W fun e W' => e = .returned (.tuple #[tv g cs.length, .bool true]) ∧ TAt W' g (putF cs a) ∧ W.grownBy W' (some g) := by
  have hO : Own W g cs := ⟨h, hs.zero, hs.tab⟩
  have hh := (hs.tab.hasF hs.zero (by have := hs.is; omega)).2 hs.not
  have F := Lib.hid (hO.find a hs.is)
  have hl : 0 < cs.length := by have := hs.tab.lo; omega
  have hm := hs.tab.hi
  have hp := pos_lt a hl (freeI cs a)
  have KC := Lib.hid (fun w1 (hb : Below W.heap.size W w1) => crowded56 (tv g (putF cs a).length) (putF cs a) (w1.setCell ⟨g, pos a cs.length (freeI cs a), none⟩ (.int .i64 a)) (TAt.iat ((h.below hb).set _ a)) (by rw [put_len]; omega))
  rw [put_len, hs.calm] at KC
  have TA := Lib.hid (fun w1 (hb : Below W.heap.size W w1) => (h.below hb).set (pos a cs.length (freeI cs a)) a)
  have TC := Lib.hid (fun w1 (hb : Below W.heap.size W w1) => (h.below hb).cell hp)
  rw [hh, find_free hh] at F
  rw [← put_at] at TA
  have hp' : (pos a cs.length (freeI cs a) : Int) < (cs.length : Int) := by omega
  have ad : (⟨g, 0, none⟩ : Addr).add (pos a cs.length (freeI cs a)) = ⟨g, pos a cs.length (freeI cs a), none⟩ := by unfold Addr.add; split <;> simp_all
  unfold tv at *
  generalize pos a cs.length (freeI cs a) = p at *
  generalize putF cs a = ds at *
  generalize cs.getD p 0 = old at *
  generalize cs.length = n at *
  clear h hs hO hh
  go_enter Tryz.func103, Tryz.ntmps103
  go_wp2_with (first
    | (go_at_call 119; refine F.out.mono ?_; rintro e w1 ⟨rfl, hb⟩; have B := Lib.hid hb; clear hb; obtain ⟨t1, f1⟩ := TC.out _ B.out)
    | (go_at_call 126; refine (KC.out _ B.out).mono ?_; rintro e w2 ⟨rfl, rfl⟩))
  refine bodyPost_ret (v := .tuple #[.slice (some ⟨g, 0, none⟩) n n, .bool true]) (by simp [results, Tryz.f103, go_sem]) rfl ⟨rfl, TA.out _ B.out, below_grown B.out (grown_set _ g p _)⟩
/-- a slice's cells lie in no block g -/
def Apart (v : Value) (g : Nat) : Prop := ∀ A n c b off, v = .slice A n c → 0 < n → A = some ⟨b, off, none⟩ → b ≠ g
theorem IAt.apart {W W' : World} {v : Value} {l : List Int} {g : Nat} (h : IAt W v l) (hg : W.grownBy W' (some g)) (ha : Apart v g) : IAt W' v l := by
  obtain ⟨A, cap, rfl, h⟩ := h
  exact ⟨A, cap, rfl, fun h0 => let ⟨b, off, hA, hc⟩ := h h0; ⟨b, off, hA, fun j hj => (World.cell?_of_block (hg.block b (cell_lt (hc j hj)) (fun e => by injection e with e; exact ha _ _ _ b off rfl h0 hA e))).trans (hc j hj)⟩⟩
theorem IAt.far {W : World} {v : Value} {l : List Int} {g : Nat} (h : IAt W v l) (hg : W.heap.size ≤ g) : Apart v g := by
  obtain ⟨A, cap, rfl, h⟩ := h
  intro A' n c b off e h0 e2
  cases e
  obtain ⟨b', off', e3, hc⟩ := h h0
  rw [e2] at e3
  cases e3
  have := cell_lt (hc 0 h0)
  dsimp only at this
  omega
set_option maxRecDepth 100000 in
set_option maxHeartbeats 1000000 in
theorem addAll52_calm (g : Nat) (cs : List Int) (v : Value) (l : List Int) (W : World) (h : TAt W g cs) (hv : IAt W v l) (hA : Apart v g) (hr : Roomy cs l) (hll : l.length ≤ 100000) :
    Calls Tryz.prog 137 #[tv g cs.length, v] W fun e W' => e = .returned (tv g cs.length) ∧ TAt W' g (l.foldl putF cs) ∧ W.grownBy W' (some g) := by
  have AD := Lib.hid (fun k (hk : k < l.length) X (hx : TAt X g ((l.take k).foldl putF cs)) => add48_calm g _ (l.getD k 0) X hx (by have := hr.at_ k hk; rwa [getElem_getD hk] at this))
  have LN := Lib.hid (fun k => (hr.upto k).all.2.1)
  have SN := Lib.hid (fun k (hk : k < l.length) => (show (l.take (k + 1)).foldl putF cs = putF ((l.take k).foldl putF cs) (l.getD k 0) by rw [take_snoc hk, List.foldl_append]; rfl))
  have VC := Lib.hid (fun X (hx : W.grownBy X (some g)) => hv.apart hx hA)
  obtain ⟨A, cap, rfl, -⟩ := hv
  have H := Lib.hid h
  have TL := Lib.hid (List.take_length (l := l))
  obtain ⟨m, hm2⟩ : ∃ m, l.length = m := ⟨_, rfl⟩
  have VX := Lib.hid (fun X (hx : W.grownBy X (some g)) k (hk : k < m) => (show ∃ b off, A = some ⟨b, off, none⟩ ∧ X.cell? ⟨b, off + k, none⟩ = some (.int .i64 (l.getD k 0)) by
    obtain ⟨A', cap', e, hc⟩ := VC.out X hx
    cases e
    obtain ⟨b, off, h1, h2⟩ := hc (by omega)
    exact ⟨b, off, h1, h2 k (by omega)⟩))
  rw [hm2] at AD SN TL hll ⊢
  unfold tv at *
  generalize cs.length = n at *
  clear h hA hr VC hm2
  go_enter Tryz.func137, Tryz.ntmps137
  go_wp2
  go_loopw [0, 6, 9] (fun t a i wr => ∃ k : Nat, k ≤ m ∧ i = .int .i64 k ∧ t = .slice (some ⟨g, 0, none⟩) n n ∧ Hid (TAt wr g ((l.take k).foldl putF cs)) ∧ Hid (W.grownBy wr (some g))) (fun _ _ i _ => m - (intOf i).toNat)
  case atStart => exact ⟨0, by omega, rfl, rfl, H, Lib.hid ⟨rfl, rfl, rfl, Nat.le_refl _, fun _ _ _ => rfl⟩⟩
  case round =>
    obtain ⟨k, hk, rfl, rfl, HT, HG⟩ := hrel
    by_cases hlt : k < m
    rotate_left
    · have hlt' : ¬ (k : Int) < (m : Int) := by omega
      obtain rfl : k = m := by omega
      rw [TL.out] at HT
      clear AD SN VX TL
      go_wp2
      refine bodyPost_ret (v := .slice (some ⟨g, 0, none⟩) n n) (by simp [results, Tryz.f137, go_sem]) rfl ⟨rfl, HT.out, HG.out⟩
    have hlt' : (k : Int) < (m : Int) := by omega
    obtain ⟨b1, o1, rfl, ca⟩ := VX.out _ HG.out k hlt
    have ad1 : (⟨b1, o1, none⟩ : Addr).add k = ⟨b1, o1 + k, none⟩ := by unfold Addr.add; split <;> simp_all
    have C := Lib.hid (AD.out k hlt wr HT.out)
    rw [LN.out] at C
    have S := Lib.hid (SN.out k hlt)
    generalize l.getD k 0 = x at *
    go_wp2_with (go_at_call 103; refine C.out.mono ?_; rintro e w1 ⟨rfl, ht, hg⟩; have T1 := Lib.hid ht; have G1 := Lib.hid (grown_step HG.out hg (.inl rfl)); clear ht hg)
    refine ⟨⟨k + 1, by omega, by simp, rfl, Lib.hid (by rw [S.out]; exact T1.out), G1⟩, ?_⟩
    show m - ((k : Int) + 1).toNat < m - ((k : Int)).toNat
    omega
end YtjkphacidpongaaGreat
end Go.Proofs
/- Adding to a table whole; building anew; dropping. -/
namespace Go.Proofs
namespace YtjkphacidpongaaGreat
open Go.RowKit

theorem anewF_eq (c : List Int) : anewF c = (srt c).foldl putF (List.replicate (anewN c) 0) := rfl
theorem anewN_eq (c : List Int) : anewN c = if 3 * c.length < 8 * (srt c).length then 2 * c.length else c.length := rfl
set_option maxRecDepth 100000 in
set_option maxHeartbeats 2000000 in
theorem anew61 (g : Nat) (c : List Int) (W : World) (h : TAt W g c) (hT : Tab c) (hr : Roomy (List.replicate (anewN c) 0) (srt c)) (hp : isPow (anewN c) = true) :
    Calls Tryz.prog 127 #[tv g c.length] W fun e W' => ∃ g', e = .returned (tv g' (anewF c).length) ∧ W.heap.size ≤ g' ∧ TAt W' g' (anewF c) ∧ Below W.heap.size W W' := by
  have hm := hT.hi
  have hnn := (pow_lo hp).2
  have hsl := srt_len c
  have WI := Lib.hid (within43 (tv g c.length) c 1 1601 W h.iat (by omega))
  rw [wi_tab hT, inF_all] at WI
  have eL : (anewF c).length = anewN c := by have := hr.all.2.1; rw [List.length_replicate] at this; exact this
  have MK := Lib.hid (fun X => mk_int Tryz.underlying104 (anewN c) (by omega) X)
  have AA := Lib.hid (fun X v (hv : X.ownsRow W.heap.size 3 1 v (srt c).length (ic (srt c))) => addAll52_calm X.heap.size (List.replicate (anewN c) 0) v (srt c) (X.alloc (.cells (ic (List.replicate (anewN c) 0)).toArray 3)) (made_at X _) ((IAt.of_own hv).below (alloc_below _ _)) ((IAt.of_own hv).far (Nat.le_refl _)) hr (by omega))
  rw [List.length_replicate] at AA
  have EF := Lib.hid (anewF_eq c)
  have EN := Lib.hid (anewN_eq c)
  rw [eL]
  have hl := hT.lo
  unfold tv at *
  generalize anewF c = D at *
  generalize hN : anewN c = N at *
  have HN := Lib.hid hN
  generalize srt c = L at *
  clear h hT hr hp eL hN
  obtain ⟨q, hq⟩ : ∃ q, L.length = q := ⟨_, rfl⟩
  have HQ := Lib.hid hq
  obtain ⟨n, hn⟩ : ∃ n, c.length = n := ⟨_, rfl⟩
  rw [hq] at WI AA hsl EN
  rw [hn] at WI hm hl EN ⊢
  clear hq hn
  by_cases hb : 3 * n < 8 * q
  · have e2 : ((n : Int) * 2) = (N : Int) := by have := EN.out; rw [if_pos hb] at this; omega
    have hmk := fun X => MK.out X
    rw [← e2] at hmk
    have qb : decide (3 * (n : Int) < 8 * (q : Int)) = true := decide_eq_true (by omega)
    have qb' : 3 * (n : Int) < 8 * (q : Int) := by omega
    have hw2 : IntKind.i64.wrap ((n : Int) * 2) = (n : Int) * 2 := IntWalk.i64_in _ (by omega)
    clear e2 hb
    go_enter Tryz.func127, Tryz.ntmps127
    go_wp2_with (first
      | (go_at_call 92; refine WI.out.mono ?_; rintro e w1 ⟨u, rfl, ho, hb1⟩; have HO := Lib.hid ho; have B1 := Lib.hid hb1; obtain ⟨A', c', rfl⟩ := own_form ho; have CA := Lib.hid (AA.out w1 _ ho); clear ho hb1)
      | (go_at_call 137; refine CA.out.mono ?_; rintro e w2 ⟨rfl, ht, hg2⟩; have T2 := Lib.hid ht; have G2 := Lib.hid hg2; clear ht hg2))
    refine bodyPost_ret (v := .slice (some ⟨w1.heap.size, 0, none⟩) N N) (by simp [results, Tryz.f127, go_sem]) rfl ⟨w1.heap.size, rfl, B1.out.size, by rw [EF.out]; exact T2.out, ?_⟩
    exact B1.out.trans (((alloc_below w1 _).grown G2.out (by simp) (fun k e => by injection e with e; omega)).mono B1.out.size)
  · have e2 : (n : Int) = (N : Int) := by have := EN.out; rw [if_neg hb] at this; omega
    have hmk := fun X => MK.out X
    rw [← e2] at hmk
    have qb : decide (3 * (n : Int) < 8 * (q : Int)) = false := decide_eq_false (by omega)
    have qb' : ¬ 3 * (n : Int) < 8 * (q : Int) := by omega
    clear e2 hb
    go_enter Tryz.func127, Tryz.ntmps127
    go_wp2_with (first
      | (go_at_call 92; refine WI.out.mono ?_; rintro e w1 ⟨u, rfl, ho, hb1⟩; have HO := Lib.hid ho; have B1 := Lib.hid hb1; obtain ⟨A', c', rfl⟩ := own_form ho; have CA := Lib.hid (AA.out w1 _ ho); clear ho hb1)
      | (go_at_call 137; refine CA.out.mono ?_; rintro e w2 ⟨rfl, ht, hg2⟩; have T2 := Lib.hid ht; have G2 := Lib.hid hg2; clear ht hg2))
    refine bodyPost_ret (v := .slice (some ⟨w1.heap.size, 0, none⟩) N N) (by simp [results, Tryz.f127, go_sem]) rfl ⟨w1.heap.size, rfl, B1.out.size, by rw [EF.out]; exact T2.out, ?_⟩
    exact B1.out.trans (((alloc_below w1 _).grown G2.out (by simp) (fun k e => by injection e with e; omega)).mono B1.out.size)
end YtjkphacidpongaaGreat
end Go.Proofs
