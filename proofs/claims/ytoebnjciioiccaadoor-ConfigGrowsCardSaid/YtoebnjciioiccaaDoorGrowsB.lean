/- The law ConfigGrows: where one of the two is not within the limits. -/
import Derived.Test.YtoebnjciioiccaaDoorGrows
namespace Go.Proofs
namespace YtoebnjciioiccaaDoor
open Go.RowKit

set_option maxRecDepth 100000 in
set_option maxHeartbeats 8000000 in
theorem grows9_on (C N S K Q A X P B1 Y1 Q1 : Int) (n0 : 0 ≤ N) (n1 : N ≤ 24) (z0 : 0 ≤ S) (z1 : S ≤ 64) (c0 : 0 ≤ C) (c1 : C ≤ 64) (a0 : 0 ≤ A) (a1 : A ≤ 2000) (x0 : 0 ≤ X) (x1 : X ≤ 2000)
    (r1 : (B1 != A + C) = false) (r2 : (Y1 != X + C) = false) (r3 : decide (Q1 ≤ P) = false) (r4 : (S != 64) = false) (FC : Hid (∀ W : World, Calls Tryd.prog 13 #[.agg #[.int .i64 C, .int .i64 N, .int .i64 S, .int .i64 K, .int .i64 Q]] W fun e w' => e = .returned (.int .i64 0) ∧ Below W.heap.size W w'))
    (FA : Hid (∀ W : World, Calls Tryd.prog 16 #[.agg #[.int .i64 C, .int .i64 N, .int .i64 S, .int .i64 K, .int .i64 Q]] W fun e w' => e = .returned (.tuple #[.int .i64 A, .int .i64 0]) ∧ Below W.heap.size W w')) (FX : Hid (∀ W : World, Calls Tryd.prog 20 #[.agg #[.int .i64 C, .int .i64 N, .int .i64 S, .int .i64 K, .int .i64 Q]] W fun e w' => e = .returned (.tuple #[.int .i64 X, .int .i64 0]) ∧ Below W.heap.size W w')) (FP : Hid (∀ W : World, Calls Tryd.prog 22 #[.agg #[.int .i64 C, .int .i64 N, .int .i64 S, .int .i64 K, .int .i64 Q]] W fun e w' => e = .returned (.tuple #[.int .i64 P, .int .i64 0]) ∧ Below W.heap.size W w')) (GA : Hid (∀ W : World, Calls Tryd.prog 16 #[.agg #[.int .i64 C, .int .i64 (N + 1), .int .i64 S, .int .i64 K, .int .i64 Q]] W fun e w' => e = .returned (.tuple #[.int .i64 B1, .int .i64 0]) ∧ Below W.heap.size W w')) (GX : Hid (∀ W : World, Calls Tryd.prog 20 #[.agg #[.int .i64 C, .int .i64 (N + 1), .int .i64 S, .int .i64 K, .int .i64 Q]] W fun e w' => e = .returned (.tuple #[.int .i64 Y1, .int .i64 0]) ∧ Below W.heap.size W w')) (GP : Hid (∀ W : World, Calls Tryd.prog 22 #[.agg #[.int .i64 C, .int .i64 (N + 1), .int .i64 S, .int .i64 K, .int .i64 Q]] W fun e w' => e = .returned (.tuple #[.int .i64 Q1, .int .i64 0]) ∧ Below W.heap.size W w')) (HA : Hid (∀ W : World, Calls Tryd.prog 16 #[.agg #[.int .i64 C, .int .i64 N, .int .i64 (S + 1), .int .i64 K, .int .i64 Q]] W fun e w' => e = .returned (.tuple #[.int .i64 0, .int .i64 7]) ∧ Below W.heap.size W w')) (HX : Hid (∀ W : World, Calls Tryd.prog 20 #[.agg #[.int .i64 C, .int .i64 N, .int .i64 (S + 1), .int .i64 K, .int .i64 Q]] W fun e w' => e = .returned (.tuple #[.int .i64 0, .int .i64 7]) ∧ Below W.heap.size W w')) (HP : Hid (∀ W : World, Calls Tryd.prog 22 #[.agg #[.int .i64 C, .int .i64 N, .int .i64 (S + 1), .int .i64 K, .int .i64 Q]] W fun e w' => e = .returned (.tuple #[.int .i64 0, .int .i64 7]) ∧ Below W.heap.size W w')) (w : World) :
    Calls Tryd.prog 9 #[.agg #[.int .i64 C, .int .i64 N, .int .i64 S, .int .i64 K, .int .i64 Q]] w fun e w' => e = .returned (.bool true) ∧ Below w.heap.size w w' := by
  have s0 := Lib.hid (box_new w C N S K Q)

  go_enter Tryd.func9, Tryd.ntmps9
  go_wp2_with (go_at_call 13; refine (FC.out _).mono ?_; rintro e w1 ⟨rfl, hb1⟩; have h1 := Lib.hid ((hb1.block w.heap.size (by simp)).trans (heap_alloc_new w _)); have B1' := Lib.hid (below_alloc_l hb1); clear hb1; obtain ⟨q1a, q1b, q1c, q1d, q1e⟩ := cells5 h1.out; have hz1 := heap_lt h1.out)
  go_region
  all_goals go_wp2_with fail
  all_goals first
    | have t1 := Lib.hid (three_a h1.out B1'.out)
      refine (FA.out (((w1.alloc (.cells #[.int .i64 C, .int .i64 (N + 1), .int .i64 S, .int .i64 K, .int .i64 Q] 23)).alloc (.cells #[.int .i64 C, .int .i64 N, .int .i64 (S + 1), .int .i64 K, .int .i64 Q] 23)).drew)).mono ?_
    | have t1 := Lib.hid (three_b h1.out B1'.out)
      refine (FA.out (((w1.alloc (.cells #[.int .i64 C, .int .i64 N, .int .i64 (S + 1), .int .i64 K, .int .i64 Q] 23)).alloc (.cells #[.int .i64 C, .int .i64 (N + 1), .int .i64 S, .int .i64 K, .int .i64 Q] 23)).drew)).mono ?_
  all_goals rintro e w2 ⟨rfl, hb⟩
  all_goals have t2 := Lib.hid (three_below t1.out hb)
  all_goals clear hz1 hb t1 q1a q1b q1c q1d q1e h1 B1'
  all_goals obtain ⟨d0, d1, d2, d3, d4⟩ := cells5 t2.out.1
  all_goals go_wp2_with fail
  all_goals refine (FX.out w2).mono ?_
  all_goals rintro e w3 ⟨rfl, hb⟩
  all_goals have t3 := Lib.hid (three_below t2.out hb)
  all_goals clear hb t2 d0 d1 d2 d3 d4
  all_goals obtain ⟨d0, d1, d2, d3, d4⟩ := cells5 t3.out.1
  all_goals go_wp2_with fail
  all_goals refine (FP.out w3).mono ?_
  all_goals rintro e w4 ⟨rfl, hb⟩
  all_goals have t4 := Lib.hid (three_below t3.out hb)
  all_goals clear hb t3 d0 d1 d2 d3 d4
  all_goals obtain ⟨d0, d1, d2, d3, d4⟩ := cells5 t4.out.2.1
  all_goals obtain ⟨e0, e1, e2, e3, e4⟩ := cells5 t4.out.1
  all_goals go_wp2_with fail
  all_goals refine (GA.out w4).mono ?_
  all_goals rintro e w5 ⟨rfl, hb⟩
  all_goals have t5 := Lib.hid (three_below t4.out hb)
  all_goals clear hb t4 d0 d1 d2 d3 d4 e0 e1 e2 e3 e4
  all_goals obtain ⟨d0, d1, d2, d3, d4⟩ := cells5 t5.out.2.1
  all_goals go_wp2_with fail
  all_goals refine (GX.out w5).mono ?_
  all_goals rintro e w6 ⟨rfl, hb⟩
  all_goals have t6 := Lib.hid (three_below t5.out hb)
  all_goals clear hb t5 d0 d1 d2 d3 d4
  all_goals obtain ⟨d0, d1, d2, d3, d4⟩ := cells5 t6.out.2.1
  all_goals go_wp2_with fail
  all_goals refine (GP.out w6).mono ?_
  all_goals rintro e w7 ⟨rfl, hb⟩
  all_goals have t7 := Lib.hid (three_below t6.out hb)
  all_goals clear hb t6 d0 d1 d2 d3 d4
  all_goals obtain ⟨d0, d1, d2, d3, d4⟩ := cells5 t7.out.2.2.1
  all_goals obtain ⟨e0, e1, e2, e3, e4⟩ := cells5 t7.out.1
  all_goals go_wp2_with fail
  all_goals refine (HA.out w7).mono ?_
  all_goals rintro e w8 ⟨rfl, hb⟩
  all_goals have t8 := Lib.hid (three_below t7.out hb)
  all_goals clear hb t7 d0 d1 d2 d3 d4 e0 e1 e2 e3 e4
  all_goals obtain ⟨d0, d1, d2, d3, d4⟩ := cells5 t8.out.2.2.1
  all_goals go_wp2_with fail
  all_goals refine (HX.out w8).mono ?_
  all_goals rintro e w9 ⟨rfl, hb⟩
  all_goals have t9 := Lib.hid (three_below t8.out hb)
  all_goals clear hb t8 d0 d1 d2 d3 d4
  all_goals obtain ⟨d0, d1, d2, d3, d4⟩ := cells5 t9.out.2.2.1
  all_goals go_wp2_with fail
  all_goals refine (HP.out w9).mono ?_
  all_goals rintro e w10 ⟨rfl, hb⟩
  all_goals have t10 := Lib.hid (three_below t9.out hb)
  all_goals clear hb t9 d0 d1 d2 d3 d4
  all_goals obtain ⟨d0, d1, d2, d3, d4⟩ := cells5 t10.out.1
  all_goals go_wp2_with (go_at_call 15; refine (awake15 _).mono ?_; rintro e w11 ⟨rfl, hb⟩)
  all_goals go_ret
  all_goals exact ⟨rfl, t10.out.2.2.2.trans (hb.mono t10.out.2.2.2.size)⟩
set_option maxRecDepth 100000 in
set_option maxHeartbeats 8000000 in
theorem grows9_no (C N S K Q A X P B2 Y2 Q2 : Int) (n0 : 0 ≤ N) (n1 : N ≤ 24) (z0 : 0 ≤ S) (z1 : S ≤ 64) (c0 : 0 ≤ C) (c1 : C ≤ 64) (a0 : 0 ≤ A) (a1 : A ≤ 2000) (x0 : 0 ≤ X) (x1 : X ≤ 2000)
    (r1 : (N != 24) = false) (r4 : (B2 != A + 1) = false) (r5 : (Y2 != X) = false) (r6 : (Q2 != P) = false) (FC : Hid (∀ W : World, Calls Tryd.prog 13 #[.agg #[.int .i64 C, .int .i64 N, .int .i64 S, .int .i64 K, .int .i64 Q]] W fun e w' => e = .returned (.int .i64 0) ∧ Below W.heap.size W w'))
    (FA : Hid (∀ W : World, Calls Tryd.prog 16 #[.agg #[.int .i64 C, .int .i64 N, .int .i64 S, .int .i64 K, .int .i64 Q]] W fun e w' => e = .returned (.tuple #[.int .i64 A, .int .i64 0]) ∧ Below W.heap.size W w')) (FX : Hid (∀ W : World, Calls Tryd.prog 20 #[.agg #[.int .i64 C, .int .i64 N, .int .i64 S, .int .i64 K, .int .i64 Q]] W fun e w' => e = .returned (.tuple #[.int .i64 X, .int .i64 0]) ∧ Below W.heap.size W w')) (FP : Hid (∀ W : World, Calls Tryd.prog 22 #[.agg #[.int .i64 C, .int .i64 N, .int .i64 S, .int .i64 K, .int .i64 Q]] W fun e w' => e = .returned (.tuple #[.int .i64 P, .int .i64 0]) ∧ Below W.heap.size W w')) (GA : Hid (∀ W : World, Calls Tryd.prog 16 #[.agg #[.int .i64 C, .int .i64 (N + 1), .int .i64 S, .int .i64 K, .int .i64 Q]] W fun e w' => e = .returned (.tuple #[.int .i64 0, .int .i64 7]) ∧ Below W.heap.size W w')) (GX : Hid (∀ W : World, Calls Tryd.prog 20 #[.agg #[.int .i64 C, .int .i64 (N + 1), .int .i64 S, .int .i64 K, .int .i64 Q]] W fun e w' => e = .returned (.tuple #[.int .i64 0, .int .i64 7]) ∧ Below W.heap.size W w')) (GP : Hid (∀ W : World, Calls Tryd.prog 22 #[.agg #[.int .i64 C, .int .i64 (N + 1), .int .i64 S, .int .i64 K, .int .i64 Q]] W fun e w' => e = .returned (.tuple #[.int .i64 0, .int .i64 7]) ∧ Below W.heap.size W w')) (HA : Hid (∀ W : World, Calls Tryd.prog 16 #[.agg #[.int .i64 C, .int .i64 N, .int .i64 (S + 1), .int .i64 K, .int .i64 Q]] W fun e w' => e = .returned (.tuple #[.int .i64 B2, .int .i64 0]) ∧ Below W.heap.size W w')) (HX : Hid (∀ W : World, Calls Tryd.prog 20 #[.agg #[.int .i64 C, .int .i64 N, .int .i64 (S + 1), .int .i64 K, .int .i64 Q]] W fun e w' => e = .returned (.tuple #[.int .i64 Y2, .int .i64 0]) ∧ Below W.heap.size W w')) (HP : Hid (∀ W : World, Calls Tryd.prog 22 #[.agg #[.int .i64 C, .int .i64 N, .int .i64 (S + 1), .int .i64 K, .int .i64 Q]] W fun e w' => e = .returned (.tuple #[.int .i64 Q2, .int .i64 0]) ∧ Below W.heap.size W w')) (w : World) :
    Calls Tryd.prog 9 #[.agg #[.int .i64 C, .int .i64 N, .int .i64 S, .int .i64 K, .int .i64 Q]] w fun e w' => e = .returned (.bool true) ∧ Below w.heap.size w w' := by
  have s0 := Lib.hid (box_new w C N S K Q)

  go_enter Tryd.func9, Tryd.ntmps9
  go_wp2_with (go_at_call 13; refine (FC.out _).mono ?_; rintro e w1 ⟨rfl, hb1⟩; have h1 := Lib.hid ((hb1.block w.heap.size (by simp)).trans (heap_alloc_new w _)); have B1' := Lib.hid (below_alloc_l hb1); clear hb1; obtain ⟨q1a, q1b, q1c, q1d, q1e⟩ := cells5 h1.out; have hz1 := heap_lt h1.out)
  go_region
  all_goals go_wp2_with fail
  all_goals first
    | have t1 := Lib.hid (three_a h1.out B1'.out)
      refine (FA.out (((w1.alloc (.cells #[.int .i64 C, .int .i64 (N + 1), .int .i64 S, .int .i64 K, .int .i64 Q] 23)).alloc (.cells #[.int .i64 C, .int .i64 N, .int .i64 (S + 1), .int .i64 K, .int .i64 Q] 23)).drew)).mono ?_
    | have t1 := Lib.hid (three_b h1.out B1'.out)
      refine (FA.out (((w1.alloc (.cells #[.int .i64 C, .int .i64 N, .int .i64 (S + 1), .int .i64 K, .int .i64 Q] 23)).alloc (.cells #[.int .i64 C, .int .i64 (N + 1), .int .i64 S, .int .i64 K, .int .i64 Q] 23)).drew)).mono ?_
  all_goals rintro e w2 ⟨rfl, hb⟩
  all_goals have t2 := Lib.hid (three_below t1.out hb)
  all_goals clear hz1 hb t1 q1a q1b q1c q1d q1e h1 B1'
  all_goals obtain ⟨d0, d1, d2, d3, d4⟩ := cells5 t2.out.1
  all_goals go_wp2_with fail
  all_goals refine (FX.out w2).mono ?_
  all_goals rintro e w3 ⟨rfl, hb⟩
  all_goals have t3 := Lib.hid (three_below t2.out hb)
  all_goals clear hb t2 d0 d1 d2 d3 d4
  all_goals obtain ⟨d0, d1, d2, d3, d4⟩ := cells5 t3.out.1
  all_goals go_wp2_with fail
  all_goals refine (FP.out w3).mono ?_
  all_goals rintro e w4 ⟨rfl, hb⟩
  all_goals have t4 := Lib.hid (three_below t3.out hb)
  all_goals clear hb t3 d0 d1 d2 d3 d4
  all_goals obtain ⟨d0, d1, d2, d3, d4⟩ := cells5 t4.out.2.1
  all_goals obtain ⟨e0, e1, e2, e3, e4⟩ := cells5 t4.out.1
  all_goals go_wp2_with fail
  all_goals refine (GA.out w4).mono ?_
  all_goals rintro e w5 ⟨rfl, hb⟩
  all_goals have t5 := Lib.hid (three_below t4.out hb)
  all_goals clear hb t4 d0 d1 d2 d3 d4 e0 e1 e2 e3 e4
  all_goals obtain ⟨d0, d1, d2, d3, d4⟩ := cells5 t5.out.2.1
  all_goals go_wp2_with fail
  all_goals refine (GX.out w5).mono ?_
  all_goals rintro e w6 ⟨rfl, hb⟩
  all_goals have t6 := Lib.hid (three_below t5.out hb)
  all_goals clear hb t5 d0 d1 d2 d3 d4
  all_goals obtain ⟨d0, d1, d2, d3, d4⟩ := cells5 t6.out.2.1
  all_goals go_wp2_with fail
  all_goals refine (GP.out w6).mono ?_
  all_goals rintro e w7 ⟨rfl, hb⟩
  all_goals have t7 := Lib.hid (three_below t6.out hb)
  all_goals clear hb t6 d0 d1 d2 d3 d4
  all_goals obtain ⟨d0, d1, d2, d3, d4⟩ := cells5 t7.out.2.2.1
  all_goals obtain ⟨e0, e1, e2, e3, e4⟩ := cells5 t7.out.1
  all_goals go_wp2_with fail
  all_goals refine (HA.out w7).mono ?_
  all_goals rintro e w8 ⟨rfl, hb⟩
  all_goals have t8 := Lib.hid (three_below t7.out hb)
  all_goals clear hb t7 d0 d1 d2 d3 d4 e0 e1 e2 e3 e4
  all_goals obtain ⟨d0, d1, d2, d3, d4⟩ := cells5 t8.out.2.2.1
  all_goals go_wp2_with fail
  all_goals refine (HX.out w8).mono ?_
  all_goals rintro e w9 ⟨rfl, hb⟩
  all_goals have t9 := Lib.hid (three_below t8.out hb)
  all_goals clear hb t8 d0 d1 d2 d3 d4
  all_goals obtain ⟨d0, d1, d2, d3, d4⟩ := cells5 t9.out.2.2.1
  all_goals go_wp2_with fail
  all_goals refine (HP.out w9).mono ?_
  all_goals rintro e w10 ⟨rfl, hb⟩
  all_goals have t10 := Lib.hid (three_below t9.out hb)
  all_goals clear hb t9 d0 d1 d2 d3 d4
  all_goals obtain ⟨d0, d1, d2, d3, d4⟩ := cells5 t10.out.1
  all_goals go_wp2_with (go_at_call 15; refine (awake15 _).mono ?_; rintro e w11 ⟨rfl, hb⟩)
  all_goals go_ret
  all_goals exact ⟨rfl, t10.out.2.2.2.trans (hb.mono t10.out.2.2.2.size)⟩
end YtoebnjciioiccaaDoor
end Go.Proofs
