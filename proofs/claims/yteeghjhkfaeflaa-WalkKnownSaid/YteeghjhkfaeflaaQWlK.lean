/- The law WalkKnown answers true. -/
import Derived.Test.YteeghjhkfaeflaaQWlR
namespace Go.Proofs
namespace Yteeghjhkfaeflaa
open Go.RowKit

theorem E35 (w : World) : Calls Try.prog 35 #[] w fun e w' => e = .returned (.slice (some ⟨w.heap.size, 0, none⟩) 12 12) ∧ Hid (Ar w' (.slice (some ⟨w.heap.size, 0, none⟩) 12 12) wkL) ∧ Below w.heap.size w w' := by
  refine (ex35 w).mono ?_
  rintro e w' ⟨rfl, rfl⟩
  exact ⟨rfl, Lib.hid (wk_ar w), alloc_below w _⟩
theorem K13 {v : Value} {W : World} (h : Ar W v wkL) (f t a : Int) (e : wcF wkL f t = (a, 6)) : Calls Try.prog 13 #[v, .int .i64 f, .int .i64 t] W fun e w' => e = .returned (.tuple #[.int .i64 a, .int .i64 6]) ∧ Below W.heap.size W w' := by
  have := wcheck13 v wkL f t W h
  rwa [e] at this
theorem K18 {v : Value} {W : World} (h : Ar W v wkL) : Calls Try.prog 18 #[v, .int .i64 1, .int .i64 8, .int .i64 8] W fun e w' => e = .returned (.tuple #[.int .i64 0, .int .i64 4]) ∧ Below W.heap.size W w' := by
  have := find18 v wkL 1 8 8 W h
  rwa [show findF wkL 1 8 8 = (0, 4) by decide] at this
theorem K24 {v : Value} {W : World} (h : Ar W v wkL) : Calls Try.prog 24 #[v, .int .i64 1, .int .i64 8] W fun e w' => ∃ v, e = .returned (.tuple #[v, .int .i64 0]) ∧ Hid (XAt w' v 3 (pc [(2, 4), (6, 1), (7, 0)])) ∧ Below W.heap.size W w' := by
  have := (refs24 v wkL 1 8 W h).mono fun e w' h => h.own2
  rwa [show refsF wkL 1 8 = ([(2, 4), (6, 1), (7, 0)], 0) by decide] at this
theorem x_row {W : World} {g n cap e : Nat} {cs : List Value} (h : W.heap[g]? = some (.cells cs.toArray e (0, 0))) : XAt W (.slice (some ⟨g, 0, none⟩) n cap) n cs := by
  refine ⟨_, cap, rfl, fun _ => ⟨g, 0, rfl, fun j u hu => ?_⟩⟩
  rw [cell_of_row _ _ _ _ _ _ h, Nat.zero_add]
  simpa using hu
theorem K29 {v : Value} {W : World} (h : Ar W v wkL) (l : List (Int × Int)) (en er : Int) (e1 : (filF wkL 8 12 l).1.2 = en) (e2 : (filF wkL 8 12 l).2 = er) (hl : l.length ≤ 60) (hsi : ∀ p ∈ l, Hd.SI p.1 ∧ Hd.SI p.2) {sl : Value} (hx : XAt W sl l.length (pc l)) : Calls Try.prog 29 #[v, .int .i64 8, .int .i64 12, sl] W fun e w' => ∃ A n c, e = .returned (.tuple #[.slice A n c, .int .i64 en, .int .i64 er]) ∧ Below W.heap.size W w' := by
  refine (fill29 v wkL sl l 8 12 W h hx hl hsi).mono ?_
  rintro e w' ⟨u, rfl, ho, hb⟩
  obtain ⟨A, c, rfl⟩ := own_form ho
  rw [e1, e2]
  exact ⟨A, _, c, rfl, hb⟩
theorem K29a {v : Value} {W : World} (h : Ar W v wkL) : Calls Try.prog 29 #[v, .int .i64 8, .int .i64 12, .slice (some ⟨W.heap.size, 0, none⟩) 2 2] (W.alloc (.cells #[.int .i64 1, .int .i64 1, .int .i64 0, .int .i64 0] 51)) fun e w' => ∃ A n c, e = .returned (.tuple #[.slice A n c, .int .i64 12, .int .i64 0]) ∧ Below W.heap.size W w' :=
  (K29 (h.below (alloc_below W _)) [(1, 1), (0, 0)] 12 0 (by decide) (by decide) (by decide) (fun p hp => by simp only [List.mem_cons, List.not_mem_nil, or_false] at hp; unfold Hd.SI; rcases hp with rfl | rfl <;> decide) (x_row (heap_alloc_new W _))).mono fun e w' ⟨A, n, c, h1, h2⟩ => ⟨A, n, c, h1, below_end (alloc_below W _) h2⟩
theorem K29b {v : Value} {W : World} (h : Ar W v wkL) : Calls Try.prog 29 #[v, .int .i64 8, .int .i64 12, .slice (some ⟨W.heap.size, 0, none⟩) 1 1] (W.alloc (.cells #[.int .i64 2, .int .i64 2] 51)) fun e w' => ∃ A n c, e = .returned (.tuple #[.slice A n c, .int .i64 0, .int .i64 5]) ∧ Below W.heap.size W w' :=
  (K29 (h.below (alloc_below W _)) [(2, 2)] 0 5 (by decide) (by decide) (by decide) (fun p hp => by simp only [List.mem_cons, List.not_mem_nil, or_false] at hp; unfold Hd.SI; rcases hp with rfl <;> decide) (x_row (heap_alloc_new W _))).mono fun e w' ⟨A, n, c, h1, h2⟩ => ⟨A, n, c, h1, below_end (alloc_below W _) h2⟩
theorem six_cells {W : World} {g : Nat} {a b c d e f : Value} {t : TypeId} (h : W.heap[g]? = some (.cells #[a, b, c, d, e, f] t (0, 0))) :
    W.cell? ⟨g, 0, none⟩ = some a ∧ W.cell? ⟨g, 1, none⟩ = some b ∧ W.cell? ⟨g, 2, none⟩ = some c ∧ W.cell? ⟨g, 3, none⟩ = some d ∧ W.cell? ⟨g, 4, none⟩ = some e ∧ W.cell? ⟨g, 5, none⟩ = some f := by
  refine ⟨?_, ?_, ?_, ?_, ?_, ?_⟩ <;> rw [cell_of_row _ _ _ _ _ _ h] <;> rfl
set_option maxRecDepth 100000 in
set_option maxHeartbeats 2000000 in
theorem known10 (w : World) : Calls Try.prog 10 #[] w fun e w' => e = .returned (.bool true) ∧ Below w.heap.size w w' := by
  have hb1 := alloc_below w (.cells #[.int .i64 1, .int .i64 7, .int .i64 2, .int .i64 8, .int .i64 1, .int .i64 9] 61)
  have M1 := heap_alloc_new w (.cells #[.int .i64 1, .int .i64 7, .int .i64 2, .int .i64 8, .int .i64 1, .int .i64 9] 61)
  have hb2 := alloc_below (w.alloc (.cells #[.int .i64 1, .int .i64 7, .int .i64 2, .int .i64 8, .int .i64 1, .int .i64 9] 61)) (.cells #[.int .i64 5, .int .i64 2, .int .i64 8] 62)
  have N2 := Lib.hid (heap_alloc_new (w.alloc (.cells #[.int .i64 1, .int .i64 7, .int .i64 2, .int .i64 8, .int .i64 1, .int .i64 9] 61)) (.cells #[.int .i64 5, .int .i64 2, .int .i64 8] 62))
  have N1 := Lib.hid (keep_heap hb2 M1)
  have B0 := Lib.hid (below_end hb1 hb2)
  simp only [World.size_alloc] at N2
  clear hb1 hb2 M1
  go_enter Try.func10, Try.ntmps10
  go_upto_region 3 with (fail)
  generalize (w.alloc (.cells #[.int .i64 1, .int .i64 7, .int .i64 2, .int .i64 8, .int .i64 1, .int .i64 9] 61)).alloc (.cells #[.int .i64 5, .int .i64 2, .int .i64 8] 62) = W2 at *
  have HG := Lib.hid (Array.getElem?_eq_some_iff.1 N2.out).1
  generalize hg : w.heap.size = g at *
  go_loopw [3] (fun i wr => ∃ j : Nat, j ≤ 3 ∧ i = .int .i64 j ∧ Hid (Below W2.heap.size W2 wr)) (fun i _ => 3 - (intOf i).toNat)
  case atStart => exact ⟨0, by omega, rfl, Lib.hid (Below.refl _ _)⟩
  case round =>
    obtain ⟨j, hj, rfl, hB⟩ := hrel
    have HF : ∀ (W : World) (j2 : Nat), Hid (Below W2.heap.size W2 W) → j2 = j + 1 → j < 3 → (∃ j3 : Nat, j3 ≤ 3 ∧ Value.int .i64 (j2 : Int) = .int .i64 j3 ∧ Hid (Below W2.heap.size W2 W)) ∧ 3 - (intOf (.int .i64 (j2 : Int))).toNat < 3 - (intOf (.int .i64 (j : Int))).toNat := by
      rintro W j2 h1 rfl h3
      refine ⟨⟨j + 1, by omega, rfl, h1⟩, ?_⟩
      show 3 - (((j + 1 : Nat) : Int)).toNat < 3 - ((j : Int)).toNat
      omega
    have FIN := Lib.hid HF
    clear HF
    have D1 := keep_heap hB.out N1.out
    have D2 := keep_heap hB.out N2.out
    obtain ⟨c0, c1, c2, c3, c4, c5⟩ := six_cells (show wr.drew.heap[g]? = _ from D1)
    have HB := Lib.hid (hB.out.drew)
    have CK := Lib.hid (fun W (hW : Below wr.drew.heap.size wr.drew W) => six_cells (keep_heap hW (show wr.drew.heap[g]? = _ from D1)))
    have CL := Lib.hid (fun W (hW : Below wr.drew.heap.size wr.drew W) => three_cells (keep_heap hW (show wr.drew.heap[g + 1]? = _ from D2)))
    clear D1 D2
    have w0 : wcF wkL 1 7 = (5, 6) := by decide
    have w1 : wcF wkL 2 8 = (2, 6) := by decide
    have w2 : wcF wkL 1 9 = (8, 6) := by decide
    match j, hj with
    | 0, _ =>
      go_upto_region 5 with (fail)
      go_region_with (first
        | (go_at_call 35; refine (E35 _).mono ?_; rintro e w5 ⟨rfl, ar, hb5⟩; obtain ⟨k0, k1, k2, k3, k4, k5⟩ := CK.out _ hb5)
        | (go_at_call 13; refine (K13 ar.out 1 7 5 w0).mono ?_; rintro e w6 ⟨rfl, hb6⟩; obtain ⟨l0, l1, l2⟩ := CL.out _ (below_end hb5 hb6); have HE := Lib.hid (below_end (below_end HB.out hb5) hb6)))
      all_goals
        clear CK CL k0 k1 k2 k3 k4 k5 ar c0 c1 c2 c3 c4 c5 w0 w1 w2 HB
        go_wp2
        exact FIN.out _ 1 HE rfl (by decide)
    | 1, _ =>
      go_upto_region 5 with (fail)
      go_region_with (first
        | (go_at_call 35; refine (E35 _).mono ?_; rintro e w5 ⟨rfl, ar, hb5⟩; obtain ⟨k0, k1, k2, k3, k4, k5⟩ := CK.out _ hb5)
        | (go_at_call 13; refine (K13 ar.out 2 8 2 w1).mono ?_; rintro e w6 ⟨rfl, hb6⟩; obtain ⟨l0, l1, l2⟩ := CL.out _ (below_end hb5 hb6); have HE := Lib.hid (below_end (below_end HB.out hb5) hb6)))
      all_goals
        clear CK CL k0 k1 k2 k3 k4 k5 ar c0 c1 c2 c3 c4 c5 w0 w1 w2 HB
        go_wp2
        exact FIN.out _ 2 HE rfl (by decide)
    | 2, _ =>
      go_upto_region 5 with (fail)
      go_region_with (first
        | (go_at_call 35; refine (E35 _).mono ?_; rintro e w5 ⟨rfl, ar, hb5⟩; obtain ⟨k0, k1, k2, k3, k4, k5⟩ := CK.out _ hb5)
        | (go_at_call 13; refine (K13 ar.out 1 9 8 w2).mono ?_; rintro e w6 ⟨rfl, hb6⟩; obtain ⟨l0, l1, l2⟩ := CL.out _ (below_end hb5 hb6); have HE := Lib.hid (below_end (below_end HB.out hb5) hb6)))
      all_goals
        clear CK CL k0 k1 k2 k3 k4 k5 ar c0 c1 c2 c3 c4 c5 w0 w1 w2 HB
        go_wp2
        exact FIN.out _ 3 HE rfl (by decide)
    | 3, _ =>
      clear w0 w1 w2 c0 c1 c2 c3 c4 c5 CK CL FIN HB
      go_upto_region 9 with (first
        | (go_at_call 35; refine (E35 _).mono ?_; rintro e w5 ⟨rfl, ar, hb5⟩; have C5 := Lib.hid (below_end hB.out hb5))
        | (go_at_call 18; refine (K18 ar.out).mono ?_; rintro e w6 ⟨rfl, hb6⟩; have C6 := Lib.hid (below_end C5.out hb6)))
      clear ar hb5 hb6 C5 hB
      go_upto_region 10 with (first
        | (go_at_call 35; refine (E35 _).mono ?_; rintro e w7 ⟨rfl, ar, hb7⟩; have C7 := Lib.hid (below_end C6.out hb7))
        | (go_at_call 24; refine (K24 ar.out).mono ?_; rintro e w8 ⟨v8, rfl, X8, hb8⟩; have C8 := Lib.hid (below_end C7.out hb8)))
      clear ar hb7 hb8 C7 C6
      obtain ⟨A8, c8, rfl, -⟩ := X8.out
      go_upto_region 11 with (first
        | (go_at_call 35; refine (E35 _).mono ?_; rintro e w9 ⟨rfl, ar, hb9⟩; have C9 := Lib.hid (below_end C8.out hb9); have X9 := Lib.hid (X8.out.below hb9))
        | (go_at_call 29; refine (K29a ar.out).mono ?_; rintro e wA ⟨AA, nA, cA, rfl, hbA⟩; have CA := Lib.hid (below_end C9.out hbA); have XA := Lib.hid (X9.out.below hbA)))
      clear ar hb9 hbA C9 C8 X8 X9
      go_upto_region 12 with (first
        | (go_at_call 35; refine (E35 _).mono ?_; rintro e wB ⟨rfl, ar, hbB⟩; have CB := Lib.hid (below_end CA.out hbB); have XB := Lib.hid (XA.out.below hbB))
        | (go_at_call 29; refine (K29b ar.out).mono ?_; rintro e wC ⟨AC, nC, cC, rfl, hbC⟩; have CC := Lib.hid (below_end CB.out hbC); have XC := Lib.hid (XB.out.below hbC)))
      clear ar hbB hbC CA CB XA XB
      have S := Lib.hid (rsame26 [(2, 4), (6, 1), (7, 0)] (.slice A8 3 c8) (.slice (some ⟨wC.heap.size, 0, none⟩) 3 3) (wC.alloc (.cells #[.int .i64 2, .int .i64 4, .int .i64 6, .int .i64 1, .int .i64 7, .int .i64 0] 57)) (by decide) (XC.out.below (alloc_below wC _)) (x_row (heap_alloc_new wC _)))
      have CD := Lib.hid (below_end CC.out (alloc_below wC (.cells #[.int .i64 2, .int .i64 4, .int .i64 6, .int .i64 1, .int .i64 7, .int .i64 0] 57)))
      go_wp2_with (first
        | (go_at_call 26; refine S.out.mono ?_; rintro e wE ⟨rfl, hbE⟩; have CE := Lib.hid (below_end CD.out hbE); clear hbE)
        | (go_at_call 12; refine (awake12 _).mono ?_; rintro e wF ⟨rfl, hbF⟩))
      exact bodyPost_ret (v := .bool true) (by simp [results, Try.f10, go_sem]) rfl ⟨rfl, below_end (below_end (show Below w.heap.size w W2 by rw [hg]; exact B0.out) CE.out) hbF⟩
end Yteeghjhkfaeflaa
end Go.Proofs
