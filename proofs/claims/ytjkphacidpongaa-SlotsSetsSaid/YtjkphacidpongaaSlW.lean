/- within: the numbers of a table between two bounds, sorted. -/
import Derived.Test.YtjkphacidpongaaSlS
import Derived.Test.YtjkphacidpongaaShelf
import Derived.Sort.OwnSortedInts
namespace Go.Proofs
namespace Ytjkphacidpongaa
open Go.RowKit

def wiB (f t x : Int) : Bool := isA x && (decide (f ≤ x) && decide (x < t))
theorem wiB_eq (f t x : Int) : wiB f t x = (isA x && (decide (f ≤ x) && decide (x < t))) := rfl
/-- the numbers of a list from f on, and below t, sorted -/
def wiF (cs : List Int) (f t : Int) : List Int := (cs.filter fun x => wiB f t x).mergeSort (fun x y => decide (x ≤ y))
theorem wi_tab {cs : List Int} (h : Tab cs) (f t : Int) : wiF cs f t = inF f t (srt cs) := h.sort_eq f t
theorem wi_len (cs : List Int) (f t : Int) : (wiF cs f t).length ≤ cs.length := by
  unfold wiF; rw [List.length_mergeSort]; exact List.length_filter_le _ _
theorem filter_snoc (p : Int → Bool) (l : List Int) (x : Int) : (l ++ [x]).filter p = if p x = true then l.filter p ++ [x] else l.filter p := by
  rw [List.filter_append]
  by_cases h : p x = true <;> simp [h]
theorem wi_snoc (cs : List Int) (f t : Int) (k : Nat) (hk : k < cs.length) : (cs.take (k + 1)).filter (wiB f t) = if wiB f t (cs.getD k 0) = true then (cs.take k).filter (wiB f t) ++ [cs.getD k 0] else (cs.take k).filter (wiB f t) := by
  rw [take_snoc hk]; exact filter_snoc (wiB f t) (cs.take k) (cs.getD k 0)
theorem nsort_none (p : Option Addr) (cap : Nat) (w : World) : Calls Try.prog 57 #[.slice p 0 cap] w fun e w' => e = .returned (.tuple #[]) ∧ w' = w := Try.slices_Sort_int_none p cap w
/-- the sort of a row of the call's own -/
theorem sort59 {W w : World} {v : Value} {zs : List Int} (hown : W.ownsRow w.heap.size 3 1 v zs.length (ic zs)) (hB : Below w.heap.size w W) (hl : zs.length ≤ 100000) :
    Calls Try.prog 57 #[v] W fun e W' => e = .returned (.tuple #[]) ∧ W'.ownsRow w.heap.size 3 1 v zs.length (ic (zs.mergeSort fun x y => decide (x ≤ y))) ∧ Below w.heap.size w W' := by
  rcases hown.2 with ⟨rfl, h0⟩ | ⟨g, cap, cur, rfl, hg, hh, hnc, hcap, hcur, hxs⟩
  · have hz : zs = [] := List.eq_nil_of_length_eq_zero h0
    subst hz
    refine (nsort_none none 0 W).mono ?_
    rintro e W' ⟨rfl, rfl⟩
    exact ⟨rfl, by simpa using hown, hB⟩
  · by_cases h0 : zs = []
    · subst h0
      refine (nsort_none _ cap W).mono ?_
      rintro e W' ⟨rfl, rfl⟩
      exact ⟨rfl, by simpa using hown, hB⟩
    · have hx : cur.toList.take zs.length = zs.map (Value.int .i64) := by rw [Nat.mul_one] at hxs; exact hxs
      have hH := holds_of_blockI hh hx
      refine (Try.slices_Sort_int g 0 cap zs W hH (Array.getElem?_eq_some_iff.1 hh).1 (by omega)).mono ?_
      rintro e W' ⟨rfl, n, os, rfl⟩
      have hs := ownsRow_sortedI (n := n) (os := os) (ts := zs.mergeSort fun x y => decide (x ≤ y)) (ss := zs) (List.length_mergeSort _) hg hh hnc hcap hcur
      exact ⟨rfl, hs, hB.grown (grownBy_sortedI (g := g) (n := n) (os := os) (w := W) _) hB.size (fun k e => by injection e with e; omega)⟩
set_option maxRecDepth 100000 in
set_option maxHeartbeats 1000000 in
theorem within43 (v : Value) (cs : List Int) (f t : Int) (w : World) (h : IAt w v cs) (hm : cs.length ≤ 100000) :
    Calls Try.prog 69 #[v, .int .i64 f, .int .i64 t] w fun e w' => ∃ u, e = .returned u ∧ w'.ownsRow w.heap.size 3 1 u (wiF cs f t).length (ic (wiF cs f t)) ∧ Below w.heap.size w w' := by
  obtain ⟨A, cap, rfl, hA⟩ := h
  have HA := Lib.hid hA
  clear hA
  have FL := Lib.hid (fun k => (List.length_filter_le (wiB f t) (cs.take k) : ((cs.take k).filter (wiB f t)).length ≤ (cs.take k).length))
  have FS := Lib.hid (wi_snoc cs f t)
  have WF := Lib.hid (show wiF cs f t = ((cs.take cs.length).filter (wiB f t)).mergeSort (fun x y => decide (x ≤ y)) by rw [List.take_length]; rfl)
  obtain ⟨R, hR⟩ : ∃ R, wiF cs f t = R := ⟨_, rfl⟩
  rw [hR] at WF ⊢
  obtain ⟨m, hm2⟩ : ∃ m, cs.length = m := ⟨_, rfl⟩
  rw [hm2] at hm HA FS WF ⊢
  clear hm2 hR
  go_enter Try.func69, Try.ntmps69
  go_wp2
  go_loopw [7, 9, 12] (fun l x i wr => ∃ k : Nat, k ≤ m ∧ i = .int .i64 k ∧ Hid (wr.ownsRow w.heap.size 3 1 l ((cs.take k).filter (wiB f t)).length (ic ((cs.take k).filter (wiB f t)))) ∧ Hid (Below w.heap.size w wr)) (fun _ _ i _ => m - (intOf i).toNat)
  case atStart => exact ⟨0, by omega, rfl, Lib.hid (World.ownsRow_nil _ _ _ _), Lib.hid (Below.refl _ _)⟩
  case round =>
    obtain ⟨k, hk, rfl, HO, HB⟩ := hrel
    have hkl : ((cs.take k).filter (wiB f t)).length ≤ 100000 := by
      have := FL.out k
      rw [List.length_take] at this
      omega
    by_cases hlt : k < m
    rotate_left
    · have hlt' : ¬ (k : Int) < (m : Int) := by omega
      obtain rfl : k = m := by omega
      have S := Lib.hid (sort59 HO.out HB.out hkl)
      obtain ⟨A', c', rfl⟩ := own_form HO.out
      rw [← WF.out] at S
      have RL := Lib.hid (show R.length = ((cs.take k).filter (wiB f t)).length by rw [WF.out, List.length_mergeSort])
      rw [← RL.out] at S ⊢
      clear HO hkl
      go_wp2_with (go_at_call 57; refine S.out.mono ?_; rintro e w1 ⟨rfl, ho, hb⟩; have O1 := Lib.hid ho; have B1 := Lib.hid hb; clear ho hb)
      refine bodyPost_ret (v := .slice A' R.length c') (by simp [results, Try.f69, go_sem]) rfl ⟨_, rfl, O1.out, B1.out⟩
    have hlt' : (k : Int) < (m : Int) := by omega
    obtain ⟨b1, o1, rfl, ca⟩ := HA.out (by omega)
    have ca' := (HB.out.cell (cell_lt (ca k hlt))).trans (ca k hlt)
    have ad1 : (⟨b1, o1, none⟩ : Addr).add k = ⟨b1, o1 + k, none⟩ := by unfold Addr.add; split <;> simp_all
    have HS := Lib.hid (FS.out k hlt)
    clear ca
    generalize cs.getD k 0 = x at *
    have AD := Lib.hid (isaddr51 x wr)
    have own3 := HO
    have B3 := HB
    have FIN := Lib.hid (show ∀ v5 W5, W5.ownsRow w.heap.size 3 1 v5 ((cs.take (k + 1)).filter (wiB f t)).length (ic ((cs.take (k + 1)).filter (wiB f t))) → Below w.heap.size w W5 →
        (∃ k_1 : Nat, k_1 ≤ m ∧ Value.int .i64 ((k : Int) + 1) = .int .i64 k_1 ∧ Hid (W5.ownsRow w.heap.size 3 1 v5 ((cs.take k_1).filter (wiB f t)).length (ic ((cs.take k_1).filter (wiB f t)))) ∧ Hid (Below w.heap.size w W5)) ∧ m - (intOf (.int .i64 ((k : Int) + 1))).toNat < m - (intOf (.int .i64 (k : Int))).toNat from by
      intro v5 W5 h1 h2
      refine ⟨⟨k + 1, by omega, by simp, Lib.hid h1, Lib.hid h2⟩, ?_⟩
      show m - ((k : Int) + 1).toNat < m - ((k : Int)).toNat
      omega)
    have WB := Lib.hid (wiB_eq f t x)
    generalize wiB f t x = b at *
    generalize isA x = i at *
    cases i with
    | false =>
      have e := HS.out
      rw [WB.out, if_neg (by simp)] at e
      clear HS WB
      go_wp2_with (go_at_call 63; refine AD.out.mono ?_; rintro e w1 ⟨rfl, rfl⟩)
      exact FIN.out _ _ (by rw [e]; exact own3.out) B3.out
    | true =>
      by_cases h1 : f ≤ x
      rotate_left
      · have q1 : decide (f ≤ x) = false := decide_eq_false h1
        have e := HS.out
        rw [WB.out, q1, if_neg (by simp)] at e
        clear HS WB h1
        go_wp2_with (go_at_call 63; refine AD.out.mono ?_; rintro e w1 ⟨rfl, rfl⟩)
        exact FIN.out _ _ (by rw [e]; exact own3.out) B3.out
      have q1 : decide (f ≤ x) = true := decide_eq_true h1
      by_cases h2 : x < t
      rotate_left
      · have q2 : decide (x < t) = false := decide_eq_false h2
        have e := HS.out
        rw [WB.out, q1, q2, if_neg (by simp)] at e
        clear HS WB h1 h2
        go_wp2_with (go_at_call 63; refine AD.out.mono ?_; rintro e w1 ⟨rfl, rfl⟩)
        exact FIN.out _ _ (by rw [e]; exact own3.out) B3.out
      have q2 : decide (x < t) = true := decide_eq_true h2
      have e := Lib.hid HS.out
      rw [WB.out, q1, q2, show (true && (true && true)) = true from rfl, if_pos rfl] at e
      clear HS WB h1 h2
      go_wp2_with (first | (go_at_call 63; refine AD.out.mono ?_; rintro e w1 ⟨rfl, rfl⟩) | (at_builtin; refine push_int own3.out B3.out x rfl _ _ rfl rfl wr.heap.size rfl rfl rfl (by omega) ?_; intro v5 W5 ho5 hb5 hs5))
      exact FIN.out _ _ (by rw [e.out]; exact ho5) hb5
end Ytjkphacidpongaa
end Go.Proofs
