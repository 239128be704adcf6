/- The laws' awake answers true; the law ObjectsKnown answers true. -/
import Derived.Test.YtmgoonahpndfoaaObV
namespace Go.Proofs
namespace Ytmgoonahpndfoaa
open Go.RowKit

def exL : List Int := [0, 0, 0, 66049, 7, 0, 99, 0, 0, 0]
def exO : Obj := .cells #[.int .u64 0, .int .u64 0, .int .u64 0, .int .u64 66049, .int .u64 7, .int .u64 0, .int .u64 99, .int .u64 0, .int .u64 0, .int .u64 0] 42
theorem ex_ar (W : World) : Ar (W.alloc exO) (.slice (some ⟨W.heap.size, 0, none⟩) 10 10) exL :=
  ⟨WAt.row (zs := exL) (cap := 10) (heap_alloc_new W exO), fun A n c e => by cases e; exact Nat.le_refl _, fun z hz => by
    simp only [exL, List.mem_cons, List.not_mem_nil, or_false] at hz
    unfold Hd.UI
    omega, by decide⟩
theorem ex37 (w : World) : Calls Try.prog 37 #[] w fun e w' => e = .returned (.slice (some ⟨w.heap.size, 0, none⟩) 10 10) ∧ w.alloc exO = w' := by
  unfold exO
  go_enter Try.func37, Try.ntmps37
  go_wp2
  go_ret
  exact ⟨rfl, rfl⟩
theorem own_some {W : World} {base n : Nat} {v : Value} {xs : List Value} {t : TypeId} (h : W.ownsRow base t 1 v n xs) (hn : 1 ≤ n) : ∃ g cap, v = .slice (some ⟨g, 0, none⟩) n cap := by
  rcases h.2 with ⟨rfl, h0⟩ | ⟨g, cap, cur, rfl, _⟩
  · omega
  · exact ⟨g, cap, rfl⟩
theorem E15 (W : World) : Calls Try.prog 15 #[.slice (some ⟨W.heap.size, 0, none⟩) 10 10, .int .i64 3] (W.alloc exO) fun e w' => e = .returned (.tuple #[.agg #[.int .i64 2, .int .i64 1], .int .i64 0]) ∧ Below W.heap.size W w' := by
  refine (shape15 _ exL 3 _ (ex_ar W)).mono ?_
  rintro e w' ⟨rfl, hb⟩
  have e1 : objF exL 3 = (2, 1, 0) := by decide
  rw [e1]
  exact ⟨rfl, below_end (alloc_below W exO) hb⟩
theorem E15e (W : World) (a c : Int) (h : objF exL a = (0, 0, c)) : Calls Try.prog 15 #[.slice (some ⟨W.heap.size, 0, none⟩) 10 10, .int .i64 a] (W.alloc exO) fun e w' => e = .returned (.tuple #[.agg #[.int .i64 0, .int .i64 0], .int .i64 c]) ∧ Below W.heap.size W w' := by
  refine (shape15 _ exL a _ (ex_ar W)).mono ?_
  rintro e w' ⟨rfl, hb⟩
  rw [h]
  exact ⟨rfl, below_end (alloc_below W exO) hb⟩
theorem E22 (W : World) (f z c : Int) (h : ptrF exL 3 f = (z, c)) : Calls Try.prog 22 #[.slice (some ⟨W.heap.size, 0, none⟩) 10 10, .int .i64 3, .int .i64 f] (W.alloc exO) fun e w' => e = .returned (.tuple #[.int .i64 z, .int .i64 c]) ∧ Below W.heap.size W w' := by
  refine (pointer22 _ exL 3 f _ (ex_ar W)).mono ?_
  rintro e w' ⟨rfl, hb⟩
  rw [h]
  exact ⟨rfl, below_end (alloc_below W exO) hb⟩
theorem E24 (W : World) : Calls Try.prog 24 #[.slice (some ⟨W.heap.size, 0, none⟩) 10 10, .int .i64 3, .int .i64 0] (W.alloc exO) fun e w' => e = .returned (.tuple #[.int .u64 99, .int .i64 0]) ∧ Below W.heap.size W w' := by
  refine (raw24 _ exL 3 0 _ (ex_ar W)).mono ?_
  rintro e w' ⟨rfl, hb⟩
  have e1 : rawF exL 3 0 = (99, 0) := by decide
  rw [e1]
  exact ⟨rfl, below_end (alloc_below W exO) hb⟩
theorem E30 (W : World) : Calls Try.prog 30 #[.slice (some ⟨W.heap.size, 0, none⟩) 10 10, .int .i64 3, .int .i64 1, .int .i64 9] (W.alloc exO) fun e w' => ∃ g cap, e = .returned (.tuple #[.slice (some ⟨g, 0, none⟩) 10 cap, .int .i64 0]) ∧ w'.cell? ⟨g, 5, none⟩ = some (.int .u64 9) ∧ Below W.heap.size W w' := by
  refine (setp30 _ exL 3 1 9 _ (ex_ar W)).mono ?_
  have e1 : spF exL 3 1 9 = ([0, 0, 0, 66049, 7, 9, 99, 0, 0, 0], 0) := by decide
  rw [e1]
  rintro e w' ⟨v, rfl, ho, hb⟩
  obtain ⟨g, cap, rfl⟩ := own_some ho (by decide)
  exact ⟨g, cap, rfl, (row_cell (n := 10) ho rfl (k := 5) (by decide)).1, below_end (alloc_below W exO) hb⟩
theorem E12 (W : World) : Calls Try.prog 12 #[.slice (some ⟨W.heap.size, 0, none⟩) 10 10, .int .i64 7, .agg #[.int .i64 1, .int .i64 1]] (W.alloc exO) fun e w' => ∃ g cap, e = .returned (.tuple #[.slice (some ⟨g, 0, none⟩) 10 cap, .int .i64 0]) ∧ w'.cell? ⟨g, 7, none⟩ = some (.int .u64 65793) ∧ Below W.heap.size W w' := by
  refine (make12 _ exL 7 1 1 _ (ex_ar W) ⟨by decide, by decide⟩ ⟨by decide, by decide⟩).mono ?_
  have e1 : makF exL 7 1 1 = ([0, 0, 0, 66049, 7, 0, 99, 65793, 0, 0], 0) := by decide
  rw [e1]
  rintro e w' ⟨v, rfl, ho, hb⟩
  obtain ⟨g, cap, rfl⟩ := own_some ho (by decide)
  exact ⟨g, cap, rfl, (row_cell (n := 10) ho rfl (k := 7) (by decide)).1, below_end (alloc_below W exO) hb⟩
theorem own_nil {W : World} {base : Nat} {v : Value} {t : TypeId} (h : W.ownsRow base t 1 v 0 []) : ∃ A cap, v = .slice A 0 cap := by
  rcases h.2 with ⟨rfl, _⟩ | ⟨g, cap, cur, rfl, _⟩
  · exact ⟨none, 0, rfl⟩
  · exact ⟨_, cap, rfl⟩
theorem E30e (W : World) : Calls Try.prog 30 #[.slice (some ⟨W.heap.size, 0, none⟩) 10 10, .int .i64 3, .int .i64 1, .int .i64 10] (W.alloc exO) fun e w' => ∃ A cap, e = .returned (.tuple #[.slice A 0 cap, .int .i64 7]) ∧ Below W.heap.size W w' := by
  refine (setp30 _ exL 3 1 10 _ (ex_ar W)).mono ?_
  have e1 : spF exL 3 1 10 = ([], 7) := by decide
  rw [e1]
  rintro e w' ⟨v, rfl, ho, hb⟩
  obtain ⟨A, cap, rfl⟩ := own_nil ho
  exact ⟨A, cap, rfl, below_end (alloc_below W exO) hb⟩
theorem E12e (W : World) (a : Int) (h : makF exL a 1 1 = ([], 7)) : Calls Try.prog 12 #[.slice (some ⟨W.heap.size, 0, none⟩) 10 10, .int .i64 a, .agg #[.int .i64 1, .int .i64 1]] (W.alloc exO) fun e w' => ∃ A cap, e = .returned (.tuple #[.slice A 0 cap, .int .i64 7]) ∧ Below W.heap.size W w' := by
  refine (make12 _ exL a 1 1 _ (ex_ar W) ⟨by decide, by decide⟩ ⟨by decide, by decide⟩).mono ?_
  rw [h]
  rintro e w' ⟨v, rfl, ho, hb⟩
  obtain ⟨A, cap, rfl⟩ := own_nil ho
  exact ⟨A, cap, rfl, below_end (alloc_below W exO) hb⟩
theorem E17 (W : World) : Calls Try.prog 17 #[.slice (some ⟨W.heap.size, 0, none⟩) 10 10, .int .i64 3] (W.alloc exO) fun e w' => e = .returned (.tuple #[.int .i64 4, .int .i64 0]) ∧ Below W.heap.size W w' := by
  refine (size17 _ exL 3 _ (ex_ar W)).mono ?_
  rintro e w' ⟨rfl, hb⟩
  have e1 : sizF exL 3 = (4, 0) := by decide
  rw [e1]
  exact ⟨rfl, below_end (alloc_below W exO) hb⟩
theorem E19 (W : World) : Calls Try.prog 19 #[.slice (some ⟨W.heap.size, 0, none⟩) 10 10, .int .i64 3] (W.alloc exO) fun e w' => ∃ v, e = .returned (.tuple #[v, .int .i64 0]) ∧ IAt w' v [4, 5] ∧ Below W.heap.size W w' := by
  refine (slots19 _ exL 3 _ (ex_ar W)).mono ?_
  have e1 : sltF exL 3 = ([4, 5], 0) := by decide
  rw [e1]
  rintro e w' ⟨v, rfl, ho, hb⟩
  exact ⟨v, rfl, IAt.of_own ho, below_end (alloc_below W exO) hb⟩
theorem E26 (W : World) : Calls Try.prog 26 #[.slice (some ⟨W.heap.size, 0, none⟩) 10 10, .int .i64 3] (W.alloc exO) fun e w' => ∃ v, e = .returned (.tuple #[v, .int .i64 0]) ∧ IAt w' v [7, 0] ∧ Below W.heap.size W w' := by
  refine (pointers26 _ exL 3 _ (ex_ar W)).mono ?_
  have e1 : ptrsF exL 3 = ([7, 0], 0) := by decide
  rw [e1]
  rintro e w' ⟨v, rfl, ho, hb⟩
  exact ⟨v, rfl, IAt.of_own ho, below_end (alloc_below W exO) hb⟩
theorem I21 (xs : List Int) (v1 v2 : Value) (W : World) (hm : xs.length ≤ 1000000) (h1 : IAt W v1 xs) (h2 : IAt W v2 xs) : Calls Try.prog 21 #[v1, v2] W fun e w' => e = .returned (.bool true) ∧ Below W.heap.size W w' :=
  (same21 v1 v2 xs xs hm W h1 h2).mono (fun _ _ q => ⟨by rw [q.1, decide_eq_true rfl], q.2⟩)
set_option maxRecDepth 100000 in
set_option maxHeartbeats 400000 in
theorem awake11 (w : World) : Calls Try.prog 11 #[] w fun e w' => e = .returned (.bool true) ∧ Below w.heap.size w w' := by
  have EQ := fun W => Hd.eqS 2 1 W
  go_enter Try.func11, Try.ntmps11
  go_upto_region 2 with (first
    | (go_at_call 37; refine (ex37 _).mono ?_; rintro e w' ⟨rfl, rfl⟩)
    | (go_at_call 15; refine (E15 _).mono ?_; rintro e w1 ⟨rfl, hb1⟩))
  have N := Lib.hid (heap_alloc_new w1 (.cells #[.int .i64 2, .int .i64 1] 24))
  have B := Lib.hid (below_end hb1 (alloc_below w1 (.cells #[.int .i64 2, .int .i64 1] 24)))
  clear hb1
  generalize w1.heap.size = g at *
  generalize w1.alloc (.cells #[.int .i64 2, .int .i64 1] 24) = W1 at *
  go_upto_region 6 with (first
    | (go_at_call 37; refine (ex37 _).mono ?_; rintro e w' ⟨rfl, rfl⟩)
    | (go_at_call 22; refine (E22 _ 0 7 0 (by decide)).mono ?_; rintro e w2 ⟨rfl, hb2⟩)
    | (go_at_call 24; refine (E24 _).mono ?_; rintro e w3 ⟨rfl, hb3⟩)
    | (go_at_call 30; refine (E30 _).mono ?_; rintro e w4 ⟨g4, c4, rfl, d4, hb4⟩)
    | (go_at_call 12; refine (E12 _).mono ?_; rintro e w5 ⟨g5, c5, rfl, d5, hb5⟩))
  have d4' := keep_cell hb5 d4
  have BB := Lib.hid (below_end (below_end (below_end hb2 hb3) hb4) hb5)
  obtain ⟨t0, t1, -, -⟩ := two_free (keep_heap BB.out N.out)
  clear d4 hb2 hb3 hb4 hb5
  go_wp2
  exact bodyPost_ret (v := .bool true) (by simp [results, Try.f11, go_sem]) rfl ⟨rfl, below_end B.out BB.out⟩
set_option maxRecDepth 100000 in
set_option maxHeartbeats 400000 in
theorem known9 (w : World) : Calls Try.prog 9 #[] w fun e w' => e = .returned (.bool true) ∧ Below w.heap.size w w' := by
  go_enter Try.func9, Try.ntmps9
  go_upto_region 5 with (first
    | (go_at_call 37; refine (ex37 _).mono ?_; rintro e w' ⟨rfl, rfl⟩)
    | (go_at_call 17; refine (E17 _).mono ?_; rintro e w1 ⟨rfl, hb1⟩)
    | (go_at_call 19; refine (E19 _).mono ?_; rintro e w2 ⟨v2, rfl, x2, hb2⟩)
    | (go_at_call 26; refine (E26 _).mono ?_; rintro e w3 ⟨v3, rfl, x3, hb3⟩)
    | (go_at_call 15; refine (E15e _ 4 6 (by decide)).mono ?_; rintro e w4 ⟨rfl, hb4⟩))
  have hb := alloc_below w4 (.cells #[.int .i64 0, .int .i64 0] 24)
  have X2 := Lib.hid (((x2.below hb3).below hb4).below hb)
  have X3 := Lib.hid ((x3.below hb4).below hb)
  have B := Lib.hid (below_end (below_end (below_end (below_end hb1 hb2) hb3) hb4) hb)
  clear x2 x3 hb1 hb2 hb3 hb4 hb
  generalize w4.heap.size = g at *
  generalize w4.alloc (.cells #[.int .i64 0, .int .i64 0] 24) = W4 at *
  go_upto_region 6 with (first
    | (go_at_call 37; refine (ex37 _).mono ?_; rintro e w' ⟨rfl, rfl⟩)
    | (go_at_call 22; refine (E22 _ 2 0 10 (by decide)).mono ?_; rintro e w5 ⟨rfl, hb5⟩))
  have X2' := Lib.hid (X2.out.below hb5)
  have X3' := Lib.hid (X3.out.below hb5)
  have B5 := Lib.hid (below_end B.out hb5)
  clear hb5 X2 X3 B
  have S1 := Lib.hid (fun W (hb : Below w5.heap.size w5 W) => I21 [4, 5] v2 (.slice (some ⟨W.heap.size, 0, none⟩) 2 2) (W.alloc (.cells #[.int .i64 4, .int .i64 5] 3)) (by decide) (X2'.out.below (below_end hb (alloc_below W _))) (IAt.row (zs := [4, 5]) (cap := 2) (heap_alloc_new W _)))
  have S2 := Lib.hid (fun W (hb : Below w5.heap.size w5 W) => I21 [7, 0] v3 (.slice (some ⟨W.heap.size, 0, none⟩) 2 2) (W.alloc (.cells #[.int .i64 7, .int .i64 0] 3)) (by decide) (X3'.out.below (below_end hb (alloc_below W _))) (IAt.row (zs := [7, 0]) (cap := 2) (heap_alloc_new W _)))
  have R5 := Lib.hid (Below.refl w5.heap.size w5)
  have H1 := Lib.hid (fun W => E12e W 8 (by decide))
  have H2 := Lib.hid (fun W => E12e W 0 (by decide))
  have H3 := Lib.hid (fun W => E15e W 0 7 (by decide))
  have H4 := Lib.hid (fun W => E15e W 10 7 (by decide))
  go_upto_region 7 with (first
    | (go_at_call 21; (with_reducible refine (S1.out _ R5.out).mono ?_); rintro e w6 ⟨rfl, hb6⟩; have k6 := below_end (alloc_below w5 (.cells #[.int .i64 4, .int .i64 5] 3)) hb6)
    | (go_at_call 21; (with_reducible refine (S2.out _ k6).mono ?_); rintro e w7 ⟨rfl, hb7⟩; have k7 := below_end (alloc_below w6 (.cells #[.int .i64 7, .int .i64 0] 3)) hb7))
  have B7 := Lib.hid (below_end B5.out (below_end k6 k7))
  clear k6 k7 hb6 hb7
  go_upto_region 13 with (first
    | (go_at_call 37; refine (ex37 _).mono ?_; rintro e w' ⟨rfl, rfl⟩)
    | (go_at_call 30; refine (E30e _).mono ?_; rintro e y1 ⟨A1, c1, rfl, hb1⟩)
    | (go_at_call 12; (with_reducible refine (H1.out _).mono ?_); rintro e y2 ⟨A2, c2, rfl, hb2⟩)
    | (go_at_call 12; (with_reducible refine (H2.out _).mono ?_); rintro e y3 ⟨A3, c3, rfl, hb3⟩)
    | (go_at_call 15; (with_reducible refine (H3.out _).mono ?_); rintro e y4 ⟨rfl, hb4⟩)
    | (go_at_call 15; (with_reducible refine (H4.out _).mono ?_); rintro e y5 ⟨rfl, hb5⟩))
  have B9 := Lib.hid (below_end B7.out (below_end (below_end (below_end (below_end hb1 hb2) hb3) hb4) hb5))
  clear hb1 hb2 hb3 hb4 hb5
  go_wp2_with (go_at_call 11; refine (awake11 _).mono ?_; rintro e y6 ⟨rfl, hb6⟩)
  exact bodyPost_ret (v := .bool true) (by simp [results, Try.f9, go_sem]) rfl ⟨rfl, below_end B9.out hb6⟩
end Ytmgoonahpndfoaa
end Go.Proofs
