/- Of and Join, the program's. -/
import Derived.Test.YtjkphacidpongaaSlAb
namespace Go.Proofs
namespace Ytjkphacidpongaa
open Go.RowKit

def ofA (l : List Int) : List Int × Int := if 4000 < l.length then ([], 3) else if l.all isA = true then (l.foldl addF newF, 0) else ([], 7)
def joinA (cs ts : List Int) : List Int × Int := if (chkF cs).2 ≠ 0 then ([], (chkF cs).2) else if (chkF ts).2 ≠ 0 then ([], (chkF ts).2) else ((srt ts).foldl addF cs, 0)
/-- a set and an error -/
def SeAns (w : World) (R : List Int × Int) (e : Ending) (w' : World) : Prop := ∃ v, e = .returned (.tuple #[sv v, .int .i64 R.2]) ∧ Row w w' v R.1 ∧ Below w.heap.size w w'
theorem all_isA {l : List Int} : l.all isA = true ↔ ∀ x ∈ l, 1 ≤ x ∧ x ≤ 1600 := by
  rw [List.all_eq_true]
  exact ⟨fun h x hx => isA_iff.1 (h x hx), fun h x hx => isA_iff.2 (h x hx)⟩
theorem all_upto {l : List Int} (h : ∀ j, j < l.length → isA (l.getD j 0) = true) : l.all isA = true := by
  rw [List.all_eq_true]
  intro x hx
  obtain ⟨i, hi, rfl⟩ := mem_getD hx
  exact h i hi
theorem not_all {l : List Int} {k : Nat} (hk : k < l.length) (h : isA (l.getD k 0) = false) : ¬ l.all isA = true := fun h2 => by
  rw [List.all_eq_true] at h2
  have := h2 _ (getD_mem hk)
  rw [h] at this
  cases this
theorem of_long {l : List Int} (h : 4000 < l.length) : ofA l = ([], 3) := by unfold ofA; rw [if_pos h]
theorem of_bad {l : List Int} (h : ¬ 4000 < l.length) (h2 : ¬ l.all isA = true) : ofA l = ([], 7) := by unfold ofA; rw [if_neg h, if_neg h2]
theorem of_ok {l : List Int} (h : ¬ 4000 < l.length) (h2 : l.all isA = true) : ofA l = (l.foldl addF newF, 0) := by unfold ofA; rw [if_neg h, if_pos h2]
theorem adds_len {l cs : List Int} (hG : Good cs) (hl : ∀ x ∈ l, 1 ≤ x ∧ x ≤ 1600) : (l.foldl addF cs).length ≤ 100000 := by have := (adds_ok l hG hl).1.tab.hi; omega
set_option maxRecDepth 100000 in
set_option maxHeartbeats 2000000 in
theorem of31 (v : Value) (l : List Int) (w : World) (h : IAt w v l) (hm : l.length ≤ 100000) :
    Calls Try.prog 32 #[v] w fun e w' => SeAns w (ofA l) e w' := by
  have h0 := heap_alloc_new w (.cells #[.slice none 0 0] 26)
  have hb := alloc_below w (.cells #[.slice none 0 0] 26)
  have hs : (w.alloc (.cells #[.slice none 0 0] 26)).heap.size = w.heap.size + 1 := by simp
  have hIA := h.below hb
  by_cases h4 : 4000 < l.length
  · rw [of_long h4]
    obtain ⟨A, cap, rfl, -⟩ := h
    obtain ⟨c0, f0⟩ := one_cell h0
    have B := Lib.hid hb
    have H0 := Lib.hid h0
    have q : decide ((4000 : Int) < (l.length : Int)) = true := decide_eq_true (by omega)
    have q' : (4000 : Int) < (l.length : Int) := by omega
    unfold SeAns sv at *
    dsimp only
    generalize l.length = n at *
    clear h0 hb hs hIA h4
    go_enter Try.func32, Try.ntmps32
    go_upto_region 1 with fail
    generalize w.alloc (.cells #[.slice none 0 0] 26) = W0 at *
    go_wp2
    have c4 := (one_cell (set_row H0.out 0 (.slice none 0 0))).1
    refine bodyPost_ret (v := .tuple #[.agg #[.slice none 0 0], .int .i64 3]) (by simp [results, Try.f32, go_sem, c4]) rfl ⟨_, rfl, row_nil _ _, B.out.setCell (p := ⟨w.heap.size, 0, none⟩) (Nat.le_refl _) _⟩
  have OB := Lib.hid (fun h2 => of_bad h4 h2)
  have OK := Lib.hid (fun h2 => of_ok h4 h2)
  have NA := Lib.hid (fun k (hk : k < l.length) (h : isA (l.getD k 0) = false) => not_all hk h)
  have UA := Lib.hid (fun h => all_upto (l := l) h)
  have FL := Lib.hid (fun (hl : l.all isA = true) => adds_len new_good (all_isA.1 hl))
  have AA := Lib.hid (fun (hl : l.all isA = true) X (hx : IAt X v l) => addAll52 X.heap.size newF v l (X.alloc (.cells (ic newF).toArray 3)) (made_at X newF) (hx.below (alloc_below _ _)) (hx.far (Nat.le_refl _)) new_good (all_isA.1 hl) hm)
  have S := Lib.hid (fun g n W => set41 (some ⟨g, 0, none⟩) n n W)
  have q4 : decide ((4000 : Int) < (l.length : Int)) = false := decide_eq_false (by omega)
  have q4' : ¬ (4000 : Int) < (l.length : Int) := by omega
  obtain ⟨A, cap, rfl, -⟩ := h
  obtain ⟨A', cap', e, hA⟩ := hIA
  cases e
  have HIA : Hid (IAt (w.alloc (.cells #[.slice none 0 0] 26)) (.slice A l.length cap) l) := Lib.hid ⟨A, cap, rfl, hA⟩
  have HA := Lib.hid hA
  have B := Lib.hid hb
  have H0 := Lib.hid h0
  have HS := Lib.hid hs
  obtain ⟨R, hR⟩ : ∃ R, ofA l = R := ⟨_, rfl⟩
  rw [hR] at OB OK ⊢
  unfold SeAns sv tv at *
  have HL := Lib.hid (show newF.length = 8 from rfl)
  rw [HL.out] at AA
  obtain ⟨m, hm2⟩ : ∃ m, l.length = m := ⟨_, rfl⟩
  rw [hm2] at hm HA HIA NA UA AA q4 q4' h4 ⊢
  clear h0 hb hs hA hm2 hR
  go_enter Try.func32, Try.ntmps32
  go_upto_region 1 with fail
  generalize w.alloc (.cells #[.slice none 0 0] 26) = W0 at *
  go_wp2
  go_loopw [5, 12] (fun x i wr => ∃ k : Nat, k ≤ m ∧ i = .int .i64 k ∧ Hid (∀ j, j < k → isA (l.getD j 0) = true) ∧ Hid (W0 = wr)) (fun _ i _ => m - (intOf i).toNat)
  case atStart => exact ⟨0, by omega, rfl, Lib.hid (fun j hj => by omega), Lib.hid rfl⟩
  case round =>
    obtain ⟨k, hk, rfl, HN, hw⟩ := hrel
    obtain rfl := hw.out
    by_cases hlt : k < m
    · have hlt' : (k : Int) < (m : Int) := by omega
      obtain ⟨b1, o1, rfl, ca⟩ := HA.out (by omega)
      have ca' := ca k hlt
      have ad1 : (⟨b1, o1, none⟩ : Addr).add k = ⟨b1, o1 + k, none⟩ := by unfold Addr.add; split <;> simp_all
      have AD := Lib.hid (isaddr51 (l.getD k 0) W0)
      have NK := Lib.hid (NA.out k hlt)
      have NX := Lib.hid (show isA (l.getD k 0) = true → ∀ j, j < k + 1 → isA (l.getD j 0) = true from fun h j hj => by
        rcases Nat.lt_or_ge j k with h1 | h1
        · exact HN.out j h1
        · obtain rfl : j = k := by omega
          exact h)
      generalize l.getD k 0 = x at *
      clear ca
      cases hi : isA x with
      | true =>
        have N := Lib.hid (NX.out hi)
        rw [hi] at AD
        clear hi NX NK
        go_wp2_with (go_at_call 63; refine AD.out.mono ?_; rintro e w1 ⟨rfl, rfl⟩)
        refine ⟨⟨k + 1, by omega, by simp, N, Lib.hid trivial⟩, ?_⟩
        show m - ((k : Int) + 1).toNat < m - ((k : Int)).toNat
        omega
      | false =>
        have T := OB.out (NK.out hi)
        subst T
        obtain ⟨c0, f0⟩ := one_cell H0.out
        rw [hi] at AD
        clear hi NX NK
        go_wp2_with (go_at_call 63; refine AD.out.mono ?_; rintro e w1 ⟨rfl, rfl⟩)
        have c4 := (one_cell (set_row H0.out 0 (.slice none 0 0))).1
        refine bodyPost_ret (v := .tuple #[.agg #[.slice none 0 0], .int .i64 7]) (by simp [results, Try.f32, go_sem, c4]) rfl ⟨_, rfl, row_nil _ _, B.out.setCell (p := ⟨w.heap.size, 0, none⟩) (Nat.le_refl _) _⟩
    · have hlt' : ¬ (k : Int) < (m : Int) := by omega
      obtain rfl : k = m := by omega
      have hall := UA.out HN.out
      have T := OK.out hall
      subst T
      have hmk : (Instr.makeSlice 71 (.int .i64 8) (.int .i64 8)).run Try.prog W0 = .ok (.slice (some ⟨W0.heap.size, 0, none⟩) 8 8) (W0.alloc (.cells (ic newF).toArray 3)) := mk_int Try.underlying71 8 (by omega) W0
      have AC := Lib.hid (AA.out hall W0 HIA.out)
      have b2 := alloc_below W0 (.cells (ic newF).toArray 3)
      have HF := Lib.hid (FL.out hall)
      have K1 := Lib.hid (keep_heap b2 H0.out)
      have B1 := Lib.hid (below_end B.out b2)
      have Z1 := Lib.hid (show (W0.alloc (.cells (ic newF).toArray 3)).heap.size = w.heap.size + 2 by simp [HS.out])
      obtain ⟨D, hD⟩ : ∃ D, l.foldl addF newF = D := ⟨_, rfl⟩
      have HD := Lib.hid hD
      rw [hD] at AC HF
      clear hD
      generalize W0.alloc (.cells (ic newF).toArray 3) = W1 at *
      clear b2 hall AA HN
      go_wp2_with (first
        | (go_at_call 64; refine AC.out.mono ?_; rintro e w2 ⟨g', rfl, hg', ht, hgr⟩; have G2 := Lib.hid (show w.heap.size + 1 ≤ g' from by have := HS.out; have := Z1.out; omega); have T2 := Lib.hid ht; have B2 := Lib.hid (grown_of_old B1.out hgr (by have := HS.out; omega)); have K2 := Lib.hid ((hgr.block _ (Array.getElem?_eq_some_iff.1 K1.out).1 (fun e => by injection e with e; have := HS.out; omega)).trans K1.out); clear ht hg' hgr)
        | (go_at_call 34; refine (S.out _ _ _).mono ?_; rintro e w3 ⟨rfl, hb3⟩; have K3 := Lib.hid (keep_heap hb3 K2.out); have T3 := Lib.hid (T2.out.below hb3); have B3 := Lib.hid (below_end B2.out hb3); obtain ⟨d3, f3⟩ := one_cell K3.out; clear hb3))
      have c4 := (one_cell (set_row K3.out 0 (.slice (some ⟨g', 0, none⟩) D.length D.length))).1
      refine bodyPost_ret (v := .tuple #[.agg #[.slice (some ⟨g', 0, none⟩) D.length D.length], .int .i64 0]) (by simp [results, Try.f32, go_sem, c4]) rfl ⟨_, rfl, show Row w _ _ (l.foldl addF newF) by rw [HD.out]; exact TAt.row (w := w) (zs := D) (set_far _ (show g' ≠ w.heap.size by have := G2.out; omega) T3.out) (by have := G2.out; omega) HF.out, B3.out.setCell (p := ⟨w.heap.size, 0, none⟩) (Nat.le_refl _) _⟩
end Ytjkphacidpongaa
end Go.Proofs
