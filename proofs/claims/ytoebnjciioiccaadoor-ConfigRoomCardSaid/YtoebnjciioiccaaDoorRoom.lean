/- The law ConfigRoom. -/
import Derived.Test.YtoebnjciioiccaaDoorLaws
namespace Go.Proofs
namespace YtoebnjciioiccaaDoor
open Go.RowKit

theorem largestV_room (C N S K Q : Int) (hg : good C N S K Q) : largestV C S ≤ S ∧ 2 * largestV C S ≤ C := by
  obtain ⟨c0, c1, n0, n1, s0, s1, k0, k1, q0, q1⟩ := hg
  unfold largestV
  split <;> omega
theorem budget_room (C N S K Q : Int) (hg : good C N S K Q) : C ≤ C * (N - 6) ∧ C * (N - 6) ≤ N * C - 6 * C ∧ 0 ≤ N * C ∧ N * C ≤ 1536 := by
  obtain ⟨c0, c1, n0, n1, s0, s1, k0, k1, q0, q1⟩ := hg
  have m := mul_range (show 0 ≤ N by omega) n1 (show 0 ≤ C by omega) c1
  have m2 := Int.mul_le_mul (Int.le_refl C) (show 1 ≤ N - 6 by omega) (by omega) (by omega)
  have e : C * (N - 6) = N * C - 6 * C := by rw [Int.mul_sub, Int.mul_comm C N, Int.mul_comm C 6]
  simp only [Int.reduceMul, Int.mul_one] at m m2
  omega

set_option maxRecDepth 100000 in
set_option maxHeartbeats 2000000 in
theorem room8_bad (C N S K Q n : Int) (hg : ¬ good C N S K Q) (w : World) :
    Calls Tryd.prog 8 #[.agg #[.int .i64 C, .int .i64 N, .int .i64 S, .int .i64 K, .int .i64 Q], .int .i64 n] w fun e w' => e = .returned (.bool true) ∧ Below w.heap.size w w' := by
  have F11 := Lib.hid (fits11_bad C N S K Q n hg)
  have s0 := Lib.hid (box_new w C N S K Q)
  clear hg
  go_enter Tryd.func8, Tryd.ntmps8
  go_wp2_with (first
    | (go_at_call 11; refine (F11.out _).mono ?_; rintro e w1 ⟨rfl, hb1⟩; have s1 := Lib.hid (box_below s0.out hb1); obtain ⟨q1a, q1b, q1c, q1d, q1e, _, _⟩ := s1.out; clear hb1)
    | (go_at_call 15; refine (awake15 _).mono ?_; rintro e w9 ⟨rfl, hb9⟩; have s9 := Lib.hid (box_below s1.out hb9)))
  go_ret
  exact ⟨rfl, s9.out.2.2.2.2.2.2⟩
set_option maxRecDepth 100000 in
set_option maxHeartbeats 4000000 in
theorem room8_yes (C N S K Q n L B : Int) (l0 : 4 ≤ L) (l1 : L ≤ 32) (l2 : L ≤ S) (l3 : 2 * L ≤ C) (b0 : C ≤ B) (b1 : B ≤ N * C - 6 * C) (m0 : 0 ≤ N * C) (m1 : N * C ≤ 1536) (c0 : 8 ≤ C) (c1 : C ≤ 64) (_s1 : S ≤ 64) (h1 : 1 ≤ n) (h2 : n ≤ L)
    (FY : Hid (∀ z : Int, 1 ≤ z → z ≤ L → ∀ W : World, Calls Tryd.prog 11 #[.agg #[.int .i64 C, .int .i64 N, .int .i64 S, .int .i64 K, .int .i64 Q], .int .i64 z] W fun e w' => e = .returned (.tuple #[.bool true, .int .i64 0]) ∧ Below W.heap.size W w'))
    (FN : Hid (∀ z : Int, z < 1 ∨ L < z → ∀ W : World, Calls Tryd.prog 11 #[.agg #[.int .i64 C, .int .i64 N, .int .i64 S, .int .i64 K, .int .i64 Q], .int .i64 z] W fun e w' => e = .returned (.tuple #[.bool false, .int .i64 0]) ∧ Below W.heap.size W w'))
    (FB : Hid (∀ W : World, Calls Tryd.prog 20 #[.agg #[.int .i64 C, .int .i64 N, .int .i64 S, .int .i64 K, .int .i64 Q]] W fun e w' => e = .returned (.tuple #[.int .i64 B, .int .i64 0]) ∧ Below W.heap.size W w'))
    (FL : Hid (∀ W : World, Calls Tryd.prog 18 #[.agg #[.int .i64 C, .int .i64 N, .int .i64 S, .int .i64 K, .int .i64 Q]] W fun e w' => e = .returned (.tuple #[.int .i64 L, .int .i64 0]) ∧ Below W.heap.size W w')) (w : World) :
    Calls Tryd.prog 8 #[.agg #[.int .i64 C, .int .i64 N, .int .i64 S, .int .i64 K, .int .i64 Q], .int .i64 n] w fun e w' => e = .returned (.bool true) ∧ Below w.heap.size w w' := by
  have s0 := Lib.hid (box_new w C N S K Q)
  have A1 := Lib.hid (FN.out 0 (.inl (by omega)))
  have A2 := Lib.hid (FY.out L (by omega) (by omega))
  have A3 := Lib.hid (FN.out (L + 1) (.inr (by omega)))
  have A0 := Lib.hid (FY.out n h1 h2)
  have p1 : decide (B < C) = false := decide_eq_false (by omega)
  have p2 : decide (N * C - 6 * C < B) = false := decide_eq_false (by omega)
  have p3 : decide (L < 4) = false := decide_eq_false (by omega)
  go_enter Tryd.func8, Tryd.ntmps8
  go_wp2_with fail
  refine (A0.out _).mono ?_
  rintro e w1 ⟨rfl, hb1⟩
  have s1 := Lib.hid (box_below s0.out hb1)
  obtain ⟨a0, a1, a2, a3, a4, _, _⟩ := s1.out
  clear hb1
  go_wp2_with (first
    | (go_at_call 20; refine (FB.out _).mono ?_; rintro e w2 ⟨rfl, hb⟩; have s2 := Lib.hid (box_below s1.out hb); clear hb a0 a1 a2 a3 a4; obtain ⟨a0, a1, a2, a3, a4, _, _⟩ := s2.out)
    | (go_at_call 18; refine (FL.out _).mono ?_; rintro e w3 ⟨rfl, hb⟩; have s3 := Lib.hid (box_below s2.out hb); clear hb a0 a1 a2 a3 a4; obtain ⟨a0, a1, a2, a3, a4, _, _⟩ := s3.out))
  refine (A1.out _).mono ?_
  rintro e w4 ⟨rfl, hb⟩
  have s4 := Lib.hid (box_below s3.out hb)
  clear hb a0 a1 a2 a3 a4
  obtain ⟨a0, a1, a2, a3, a4, _, _⟩ := s4.out
  go_wp2_with fail
  refine (A2.out _).mono ?_
  rintro e w5 ⟨rfl, hb⟩
  have s5 := Lib.hid (box_below s4.out hb)
  clear hb a0 a1 a2 a3 a4
  obtain ⟨a0, a1, a2, a3, a4, _, _⟩ := s5.out
  go_wp2_with fail
  refine (A3.out _).mono ?_
  rintro e w6 ⟨rfl, hb⟩
  have s6 := Lib.hid (box_below s5.out hb)
  clear hb a0 a1 a2 a3 a4
  obtain ⟨a0, a1, a2, a3, a4, _, _⟩ := s6.out
  go_wp2_with (go_at_call 15; refine (awake15 _).mono ?_; rintro e w9 ⟨rfl, hb9⟩; have s9 := Lib.hid (box_below s6.out hb9))
  go_ret
  exact ⟨rfl, s9.out.2.2.2.2.2.2⟩
set_option maxRecDepth 100000 in
set_option maxHeartbeats 4000000 in
theorem room8_low (C N S K Q n L B : Int) (l0 : 4 ≤ L) (l1 : L ≤ 32) (l2 : L ≤ S) (l3 : 2 * L ≤ C) (b0 : C ≤ B) (b1 : B ≤ N * C - 6 * C) (m0 : 0 ≤ N * C) (m1 : N * C ≤ 1536) (c0 : 8 ≤ C) (c1 : C ≤ 64) (_s1 : S ≤ 64) (h1 : n < 1)
    (FY : Hid (∀ z : Int, 1 ≤ z → z ≤ L → ∀ W : World, Calls Tryd.prog 11 #[.agg #[.int .i64 C, .int .i64 N, .int .i64 S, .int .i64 K, .int .i64 Q], .int .i64 z] W fun e w' => e = .returned (.tuple #[.bool true, .int .i64 0]) ∧ Below W.heap.size W w'))
    (FN : Hid (∀ z : Int, z < 1 ∨ L < z → ∀ W : World, Calls Tryd.prog 11 #[.agg #[.int .i64 C, .int .i64 N, .int .i64 S, .int .i64 K, .int .i64 Q], .int .i64 z] W fun e w' => e = .returned (.tuple #[.bool false, .int .i64 0]) ∧ Below W.heap.size W w'))
    (FB : Hid (∀ W : World, Calls Tryd.prog 20 #[.agg #[.int .i64 C, .int .i64 N, .int .i64 S, .int .i64 K, .int .i64 Q]] W fun e w' => e = .returned (.tuple #[.int .i64 B, .int .i64 0]) ∧ Below W.heap.size W w'))
    (FL : Hid (∀ W : World, Calls Tryd.prog 18 #[.agg #[.int .i64 C, .int .i64 N, .int .i64 S, .int .i64 K, .int .i64 Q]] W fun e w' => e = .returned (.tuple #[.int .i64 L, .int .i64 0]) ∧ Below W.heap.size W w')) (w : World) :
    Calls Tryd.prog 8 #[.agg #[.int .i64 C, .int .i64 N, .int .i64 S, .int .i64 K, .int .i64 Q], .int .i64 n] w fun e w' => e = .returned (.bool true) ∧ Below w.heap.size w w' := by
  have s0 := Lib.hid (box_new w C N S K Q)
  have A1 := Lib.hid (FN.out 0 (.inl (by omega)))
  have A2 := Lib.hid (FY.out L (by omega) (by omega))
  have A3 := Lib.hid (FN.out (L + 1) (.inr (by omega)))
  have A0 := Lib.hid (FN.out n (by omega))
  have p1 : decide (B < C) = false := decide_eq_false (by omega)
  have p2 : decide (N * C - 6 * C < B) = false := decide_eq_false (by omega)
  have p3 : decide (L < 4) = false := decide_eq_false (by omega)
  go_enter Tryd.func8, Tryd.ntmps8
  go_wp2_with fail
  refine (A0.out _).mono ?_
  rintro e w1 ⟨rfl, hb1⟩
  have s1 := Lib.hid (box_below s0.out hb1)
  obtain ⟨a0, a1, a2, a3, a4, _, _⟩ := s1.out
  clear hb1
  go_wp2_with (first
    | (go_at_call 20; refine (FB.out _).mono ?_; rintro e w2 ⟨rfl, hb⟩; have s2 := Lib.hid (box_below s1.out hb); clear hb a0 a1 a2 a3 a4; obtain ⟨a0, a1, a2, a3, a4, _, _⟩ := s2.out)
    | (go_at_call 18; refine (FL.out _).mono ?_; rintro e w3 ⟨rfl, hb⟩; have s3 := Lib.hid (box_below s2.out hb); clear hb a0 a1 a2 a3 a4; obtain ⟨a0, a1, a2, a3, a4, _, _⟩ := s3.out))
  refine (A1.out _).mono ?_
  rintro e w4 ⟨rfl, hb⟩
  have s4 := Lib.hid (box_below s3.out hb)
  clear hb a0 a1 a2 a3 a4
  obtain ⟨a0, a1, a2, a3, a4, _, _⟩ := s4.out
  go_wp2_with fail
  refine (A2.out _).mono ?_
  rintro e w5 ⟨rfl, hb⟩
  have s5 := Lib.hid (box_below s4.out hb)
  clear hb a0 a1 a2 a3 a4
  obtain ⟨a0, a1, a2, a3, a4, _, _⟩ := s5.out
  go_wp2_with fail
  refine (A3.out _).mono ?_
  rintro e w6 ⟨rfl, hb⟩
  have s6 := Lib.hid (box_below s5.out hb)
  clear hb a0 a1 a2 a3 a4
  obtain ⟨a0, a1, a2, a3, a4, _, _⟩ := s6.out
  go_wp2_with (go_at_call 15; refine (awake15 _).mono ?_; rintro e w9 ⟨rfl, hb9⟩; have s9 := Lib.hid (box_below s6.out hb9))
  go_ret
  exact ⟨rfl, s9.out.2.2.2.2.2.2⟩
set_option maxRecDepth 100000 in
set_option maxHeartbeats 4000000 in
theorem room8_high (C N S K Q n L B : Int) (l0 : 4 ≤ L) (l1 : L ≤ 32) (l2 : L ≤ S) (l3 : 2 * L ≤ C) (b0 : C ≤ B) (b1 : B ≤ N * C - 6 * C) (m0 : 0 ≤ N * C) (m1 : N * C ≤ 1536) (c0 : 8 ≤ C) (c1 : C ≤ 64) (_s1 : S ≤ 64) (h1 : 1 ≤ n) (h2 : L < n)
    (FY : Hid (∀ z : Int, 1 ≤ z → z ≤ L → ∀ W : World, Calls Tryd.prog 11 #[.agg #[.int .i64 C, .int .i64 N, .int .i64 S, .int .i64 K, .int .i64 Q], .int .i64 z] W fun e w' => e = .returned (.tuple #[.bool true, .int .i64 0]) ∧ Below W.heap.size W w'))
    (FN : Hid (∀ z : Int, z < 1 ∨ L < z → ∀ W : World, Calls Tryd.prog 11 #[.agg #[.int .i64 C, .int .i64 N, .int .i64 S, .int .i64 K, .int .i64 Q], .int .i64 z] W fun e w' => e = .returned (.tuple #[.bool false, .int .i64 0]) ∧ Below W.heap.size W w'))
    (FB : Hid (∀ W : World, Calls Tryd.prog 20 #[.agg #[.int .i64 C, .int .i64 N, .int .i64 S, .int .i64 K, .int .i64 Q]] W fun e w' => e = .returned (.tuple #[.int .i64 B, .int .i64 0]) ∧ Below W.heap.size W w'))
    (FL : Hid (∀ W : World, Calls Tryd.prog 18 #[.agg #[.int .i64 C, .int .i64 N, .int .i64 S, .int .i64 K, .int .i64 Q]] W fun e w' => e = .returned (.tuple #[.int .i64 L, .int .i64 0]) ∧ Below W.heap.size W w')) (w : World) :
    Calls Tryd.prog 8 #[.agg #[.int .i64 C, .int .i64 N, .int .i64 S, .int .i64 K, .int .i64 Q], .int .i64 n] w fun e w' => e = .returned (.bool true) ∧ Below w.heap.size w w' := by
  have s0 := Lib.hid (box_new w C N S K Q)
  have A1 := Lib.hid (FN.out 0 (.inl (by omega)))
  have A2 := Lib.hid (FY.out L (by omega) (by omega))
  have A3 := Lib.hid (FN.out (L + 1) (.inr (by omega)))
  have A0 := Lib.hid (FN.out n (by omega))
  have p1 : decide (B < C) = false := decide_eq_false (by omega)
  have p2 : decide (N * C - 6 * C < B) = false := decide_eq_false (by omega)
  have p3 : decide (L < 4) = false := decide_eq_false (by omega)
  have p4 : decide (n ≤ L) = false := decide_eq_false (by omega)
  go_enter Tryd.func8, Tryd.ntmps8
  go_wp2_with fail
  refine (A0.out _).mono ?_
  rintro e w1 ⟨rfl, hb1⟩
  have s1 := Lib.hid (box_below s0.out hb1)
  obtain ⟨a0, a1, a2, a3, a4, _, _⟩ := s1.out
  clear hb1
  go_wp2_with (first
    | (go_at_call 20; refine (FB.out _).mono ?_; rintro e w2 ⟨rfl, hb⟩; have s2 := Lib.hid (box_below s1.out hb); clear hb a0 a1 a2 a3 a4; obtain ⟨a0, a1, a2, a3, a4, _, _⟩ := s2.out)
    | (go_at_call 18; refine (FL.out _).mono ?_; rintro e w3 ⟨rfl, hb⟩; have s3 := Lib.hid (box_below s2.out hb); clear hb a0 a1 a2 a3 a4; obtain ⟨a0, a1, a2, a3, a4, _, _⟩ := s3.out))
  refine (A1.out _).mono ?_
  rintro e w4 ⟨rfl, hb⟩
  have s4 := Lib.hid (box_below s3.out hb)
  clear hb a0 a1 a2 a3 a4
  obtain ⟨a0, a1, a2, a3, a4, _, _⟩ := s4.out
  go_wp2_with fail
  refine (A2.out _).mono ?_
  rintro e w5 ⟨rfl, hb⟩
  have s5 := Lib.hid (box_below s4.out hb)
  clear hb a0 a1 a2 a3 a4
  obtain ⟨a0, a1, a2, a3, a4, _, _⟩ := s5.out
  go_wp2_with fail
  refine (A3.out _).mono ?_
  rintro e w6 ⟨rfl, hb⟩
  have s6 := Lib.hid (box_below s5.out hb)
  clear hb a0 a1 a2 a3 a4
  obtain ⟨a0, a1, a2, a3, a4, _, _⟩ := s6.out
  go_wp2_with (go_at_call 15; refine (awake15 _).mono ?_; rintro e w9 ⟨rfl, hb9⟩; have s9 := Lib.hid (box_below s6.out hb9))
  go_ret
  exact ⟨rfl, s9.out.2.2.2.2.2.2⟩
theorem room8 (C N S K Q n : Int) (w : World) :
    Calls Tryd.prog 8 #[.agg #[.int .i64 C, .int .i64 N, .int .i64 S, .int .i64 K, .int .i64 Q], .int .i64 n] w fun e w' => e = .returned (.bool true) ∧ Below w.heap.size w w' := by
  by_cases hg : good C N S K Q
  · have r1 := largestV_range C N S K Q hg
    have r2 := largestV_room C N S K Q hg
    have r3 := budget_room C N S K Q hg
    have FY := Lib.hid (fun (z : Int) (h1 : 1 ≤ z) (h2 : z ≤ largestV C S) (W : World) => fits11_yes C N S K Q z hg h1 h2 W)
    have FN := Lib.hid (fun (z : Int) (h1 : z < 1 ∨ largestV C S < z) (W : World) => fits11_no C N S K Q z hg h1 W)
    have FB := Lib.hid (fun W : World => budget20_good C N S K Q hg W)
    have FL := Lib.hid (fun W : World => largest18_good C N S K Q hg W)
    have c := hg
    unfold good at c
    by_cases h1 : 1 ≤ n
    · by_cases h2 : n ≤ largestV C S
      · exact room8_yes C N S K Q n _ _ r1.1 r1.2 r2.1 r2.2 r3.1 r3.2.1 r3.2.2.1 r3.2.2.2 (by omega) (by omega) (by omega) h1 h2 FY FN FB FL w
      · exact room8_high C N S K Q n _ _ r1.1 r1.2 r2.1 r2.2 r3.1 r3.2.1 r3.2.2.1 r3.2.2.2 (by omega) (by omega) (by omega) h1 (by omega) FY FN FB FL w
    · exact room8_low C N S K Q n _ _ r1.1 r1.2 r2.1 r2.2 r3.1 r3.2.1 r3.2.2.1 r3.2.2.2 (by omega) (by omega) (by omega) (by omega) FY FN FB FL w
  · exact room8_bad C N S K Q n hg w
end YtoebnjciioiccaaDoor
end Go.Proofs
