/- Space, both of them. -/
import Derived.Test.YtoebnjciioiccaaDoorSumC
namespace Go.Proofs
namespace YtoebnjciioiccaaDoor
open Go.RowKit

theorem below_drewN {B : Nat} {a w : World} (h : Below B a w) (n : Nat) : Below B a (w.drewN n) := ⟨h.os, h.tape, h.output, h.size, h.block⟩
def startV (C S car : Int) : Int := if car < 0 then 1 else 1 + S + car * C
def endV (C S car : Int) : Int := if car < 0 then 1 + S else 1 + S + car * C + C
def inCar (N car : Int) : Prop := -1 ≤ car ∧ car < N
instance (N car : Int) : Decidable (inCar N car) := by unfold inCar; infer_instance
def spaceS (C N S K Q car : Int) : Int := if good C N S K Q ∧ inCar N car then startV C S car else 0
def spaceT (C N S K Q car : Int) : Int := if good C N S K Q ∧ inCar N car then endV C S car else 0
def spaceE (C N S K Q car : Int) : Int := if good C N S K Q ∧ inCar N car then 0 else 7
set_option maxRecDepth 100000 in
set_option maxHeartbeats 1000000 in
theorem space24_bad (C N S K Q car : Int) (hg : ¬ good C N S K Q) (w : World) :
    Calls Tryd.prog 24 #[.agg #[.int .i64 C, .int .i64 N, .int .i64 S, .int .i64 K, .int .i64 Q], .int .i64 car] w fun e w' => e = .returned (.tuple #[.int .i64 0, .int .i64 0, .int .i64 7]) ∧ Below w.heap.size w w' := by
  have HG := Lib.hid hg
  clear hg
  go_enter Tryd.func24, Tryd.ntmps24
  go_wp2_with (go_at_call 13; refine (chk13_bad _ _ _ _ _ HG.out _).mono ?_; rintro e w1 ⟨rfl, hb1⟩; obtain ⟨hc1, hf1⟩ := bcell hb1; have hz1 : w.heap.size < w1.heap.size := Nat.lt_of_lt_of_le (by simp) hb1.size)
  go_ret3
  exact ⟨rfl, below_alloc_l hb1⟩
set_option maxRecDepth 100000 in
set_option maxHeartbeats 1000000 in
theorem space24_low (C N S K Q car : Int) (hg : good C N S K Q) (h : car < -1) (w : World) :
    Calls Tryd.prog 24 #[.agg #[.int .i64 C, .int .i64 N, .int .i64 S, .int .i64 K, .int .i64 Q], .int .i64 car] w fun e w' => e = .returned (.tuple #[.int .i64 0, .int .i64 0, .int .i64 7]) ∧ Below w.heap.size w w' := by
  have HG := Lib.hid hg
  obtain ⟨c0, c1, n0, n1, s0, s1, k0, k1, q0, q1⟩ := hg
  have q2 : decide (car < -1) = true := decide_eq_true h
  go_enter Tryd.func24, Tryd.ntmps24
  go_wp2_with (go_at_call 13; refine (chk13_good _ _ _ _ _ HG.out _).mono ?_; rintro e w1 ⟨rfl, hb1⟩; obtain ⟨hc1, hf1⟩ := bcell hb1; have hz1 : w.heap.size < w1.heap.size := Nat.lt_of_lt_of_le (by simp) hb1.size)
  go_ret3
  exact ⟨rfl, below_alloc_l hb1⟩
set_option maxRecDepth 100000 in
set_option maxHeartbeats 1000000 in
theorem space24_high (C N S K Q car : Int) (hg : good C N S K Q) (h : N ≤ car) (w : World) :
    Calls Tryd.prog 24 #[.agg #[.int .i64 C, .int .i64 N, .int .i64 S, .int .i64 K, .int .i64 Q], .int .i64 car] w fun e w' => e = .returned (.tuple #[.int .i64 0, .int .i64 0, .int .i64 7]) ∧ Below w.heap.size w w' := by
  have HG := Lib.hid hg
  obtain ⟨c0, c1, n0, n1, s0, s1, k0, k1, q0, q1⟩ := hg
  have q2 : decide (car < -1) = false := decide_eq_false (by omega)
  have q3 : decide (N ≤ car) = true := decide_eq_true h
  go_enter Tryd.func24, Tryd.ntmps24
  go_wp2_with (go_at_call 13; refine (chk13_good _ _ _ _ _ HG.out _).mono ?_; rintro e w1 ⟨rfl, hb1⟩; obtain ⟨hc1, hf1⟩ := bcell hb1; have hz1 : w.heap.size < w1.heap.size := Nat.lt_of_lt_of_le (by simp) hb1.size)
  go_ret3
  exact ⟨rfl, below_alloc_l hb1⟩
set_option maxRecDepth 100000 in
set_option maxHeartbeats 1000000 in
theorem space24_nur (C N S K Q : Int) (hg : good C N S K Q) (w : World) :
    Calls Tryd.prog 24 #[.agg #[.int .i64 C, .int .i64 N, .int .i64 S, .int .i64 K, .int .i64 Q], .int .i64 (-1)] w fun e w' => e = .returned (.tuple #[.int .i64 1, .int .i64 (1 + S), .int .i64 0]) ∧ Below w.heap.size w w' := by
  have HG := Lib.hid hg
  obtain ⟨c0, c1, n0, n1, s0, s1, k0, k1, q0, q1⟩ := hg
  have s2 : 0 ≤ S := by omega
  have q3 : decide (N ≤ -1) = false := decide_eq_false (by omega)
  go_enter Tryd.func24, Tryd.ntmps24
  go_wp2_with (first
    | (go_at_call 13; refine (chk13_good _ _ _ _ _ HG.out _).mono ?_; rintro e w1 ⟨rfl, hb1⟩; obtain ⟨hc1, hf1⟩ := bcell hb1; have hz1 : w.heap.size < w1.heap.size := Nat.lt_of_lt_of_le (by simp) hb1.size)
    | (go_at_call 39; refine (first39 _ _ _ _ _ (by assumption) (by assumption) _).mono ?_; rintro e w3 ⟨rfl, rfl⟩))
  go_ret3
  exact ⟨rfl, (below_alloc_l hb1).alloc (by omega) _⟩
set_option maxRecDepth 100000 in
set_option maxHeartbeats 1000000 in
theorem space24_car (C N S K Q car : Int) (hg : good C N S K Q) (h0 : 0 ≤ car) (h1 : car < N) (w : World) :
    Calls Tryd.prog 24 #[.agg #[.int .i64 C, .int .i64 N, .int .i64 S, .int .i64 K, .int .i64 Q], .int .i64 car] w fun e w' => e = .returned (.tuple #[.int .i64 (1 + S + car * C), .int .i64 (1 + S + car * C + C), .int .i64 0]) ∧ Below w.heap.size w w' := by
  have HG := Lib.hid hg
  obtain ⟨c0, c1, n0, n1, s0, s1, k0, k1, q0, q1⟩ := hg
  have m := mul_range h0 (show car ≤ 23 by omega) (show 0 ≤ C by omega) c1
  obtain ⟨m0, m1⟩ := m
  simp only [Int.reduceMul] at m1
  have s2 : 0 ≤ S := by omega
  have q2 : decide (car < -1) = false := decide_eq_false (by omega)
  have q3 : decide (N ≤ car) = false := decide_eq_false (by omega)
  have q4 : (car == -1) = false := beq_eq_false_iff_ne.2 (by omega)
  go_enter Tryd.func24, Tryd.ntmps24
  go_wp2_with (go_at_call 13; refine (chk13_good _ _ _ _ _ HG.out _).mono ?_; rintro e w1 ⟨rfl, hb1⟩; obtain ⟨hc1, hf1⟩ := bcell hb1; have hz1 : w.heap.size < w1.heap.size := Nat.lt_of_lt_of_le (by simp) hb1.size)
  have hB1 := below_alloc_l hb1
  have g0 : w1.cell? ⟨w.heap.size, 0, none⟩ = some (.int .i64 C) := by rw [hc1 _ _ (by simp)]; simp
  have g1 : w1.cell? ⟨w.heap.size, 1, none⟩ = some (.int .i64 N) := by rw [hc1 _ _ (by simp)]; simp
  have g2 : w1.cell? ⟨w.heap.size, 2, none⟩ = some (.int .i64 S) := by rw [hc1 _ _ (by simp)]; simp
  have g3 : w1.cell? ⟨w.heap.size, 3, none⟩ = some (.int .i64 K) := by rw [hc1 _ _ (by simp)]; simp
  have g4 : w1.cell? ⟨w.heap.size, 4, none⟩ = some (.int .i64 Q) := by rw [hc1 _ _ (by simp)]; simp
  clear hc1 hf1 hb1
  have wq2 : IntKind.i64.wrap (1 + S + car * C) = 1 + S + car * C := IntWalk.i64_in _ (by omega)
  have wq3 : IntKind.i64.wrap (1 + S + car * C + C) = 1 + S + car * C + C := IntWalk.i64_in _ (by omega)
  have wq1 : IntKind.i64.wrap (car * C) = car * C := IntWalk.i64_in _ (by omega)
  go_region_held3 (fun W => W.cell? ⟨w.heap.size, 0, none⟩ = some (.int .i64 C) ∧ W.cell? ⟨w.heap.size, 1, none⟩ = some (.int .i64 N) ∧ W.cell? ⟨w.heap.size, 2, none⟩ = some (.int .i64 S) ∧ W.cell? ⟨w.heap.size, 3, none⟩ = some (.int .i64 K) ∧ W.cell? ⟨w.heap.size, 4, none⟩ = some (.int .i64 Q) ∧ w.heap.size < W.heap.size ∧ Below w.heap.size w W) (first | exact ⟨g0, g1, g2, g3, g4, hz1, hB1.drew⟩ | exact box_alloc_drew ⟨g0, g1, g2, g3, g4, hz1, hB1⟩ _)
    (first | (go_at_call 39; refine (first39 _ _ _ _ _ (by assumption) (by assumption) _).mono ?_; rintro e w3 ⟨rfl, rfl⟩))
  go_wp2
  go_quiet (fail)
  go_wp2
  go_ret3
  exact ⟨rfl, below_drewN (hB1.alloc (Nat.le_of_lt hz1) _).drew _⟩
set_option maxRecDepth 100000 in
set_option maxHeartbeats 1000000 in
theorem space25_bad (C N S K Q car : Int) (hg : ¬ good C N S K Q) (w : World) :
    Calls Tryd.prog 25 #[.agg #[.int .i64 C, .int .i64 N, .int .i64 S, .int .i64 K, .int .i64 Q], .int .i64 car] w fun e w' => e = .returned (.tuple #[.int .i64 0, .int .i64 0, .int .i64 7]) ∧ Below w.heap.size w w' := by
  have HG := Lib.hid hg
  clear hg
  go_enter Tryd.func25, Tryd.ntmps25
  go_wp2_with (first
    | (go_at_call 14; refine (chk14_no _ _ _ _ _ HG.out _).mono ?_; rintro e w1 ⟨rfl, hb1⟩; obtain ⟨hc1, hf1⟩ := bcell hb1; have hz1 : w.heap.size < w1.heap.size := Nat.lt_of_lt_of_le (by simp) hb1.size))
  go_ret3
  exact ⟨rfl, below_alloc_l hb1⟩
set_option maxRecDepth 100000 in
set_option maxHeartbeats 1000000 in
theorem space25_out (C N S K Q car : Int) (hg : good C N S K Q) (h : car < -1 ∨ N ≤ car) (w : World) :
    Calls Tryd.prog 25 #[.agg #[.int .i64 C, .int .i64 N, .int .i64 S, .int .i64 K, .int .i64 Q], .int .i64 car] w fun e w' => e = .returned (.tuple #[.int .i64 0, .int .i64 0, .int .i64 7]) ∧ Below w.heap.size w w' := by
  have HG := Lib.hid hg
  obtain ⟨c0, c1, n0, n1, s0, s1, k0, k1, q0, q1⟩ := hg
  go_enter Tryd.func25, Tryd.ntmps25
  go_wp2_with (first
    | (go_at_call 14; refine (chk14_yes _ _ _ _ _ HG.out _).mono ?_; rintro e w1 ⟨rfl, hb1⟩; obtain ⟨hc1, hf1⟩ := bcell hb1; have hz1 : w.heap.size < w1.heap.size := Nat.lt_of_lt_of_le (by simp) hb1.size)
    | (go_at_call 37; refine (in37_no _ _ _ (by omega) _).mono ?_; rintro e w' ⟨rfl, rfl⟩))
  go_ret3
  exact ⟨rfl, below_alloc_l hb1⟩
set_option maxRecDepth 100000 in
set_option maxHeartbeats 1000000 in
theorem space25_nur (C N S K Q : Int) (hg : good C N S K Q) (w : World) :
    Calls Tryd.prog 25 #[.agg #[.int .i64 C, .int .i64 N, .int .i64 S, .int .i64 K, .int .i64 Q], .int .i64 (-1)] w fun e w' => e = .returned (.tuple #[.int .i64 1, .int .i64 (1 + S), .int .i64 0]) ∧ Below w.heap.size w w' := by
  have HG := Lib.hid hg
  obtain ⟨c0, c1, n0, n1, s0, s1, k0, k1, q0, q1⟩ := hg
  have wq1 : IntKind.i64.wrap (1 + S) = 1 + S := IntWalk.i64_in _ (by omega)
  have wq0 : (0 : Int) ≤ N - 1 := by omega
  go_enter Tryd.func25, Tryd.ntmps25
  go_wp2_with (first
    | (go_at_call 14; refine (chk14_yes _ _ _ _ _ HG.out _).mono ?_; rintro e w1 ⟨rfl, hb1⟩; obtain ⟨hc1, hf1⟩ := bcell hb1; have hz1 : w.heap.size < w1.heap.size := Nat.lt_of_lt_of_le (by simp) hb1.size)
    | (go_at_call 37; refine (in37_yes _ _ _ (by decide) (by omega) _).mono ?_; rintro e w' ⟨rfl, rfl⟩))
  go_quiet (fail)
  go_wp2
  go_ret3
  exact ⟨rfl, below_drewN (below_alloc_l hb1) _⟩
set_option maxRecDepth 100000 in
set_option maxHeartbeats 1000000 in
theorem space25_car (C N S K Q car : Int) (hg : good C N S K Q) (h0 : 0 ≤ car) (h1 : car < N) (w : World) :
    Calls Tryd.prog 25 #[.agg #[.int .i64 C, .int .i64 N, .int .i64 S, .int .i64 K, .int .i64 Q], .int .i64 car] w fun e w' => e = .returned (.tuple #[.int .i64 (1 + S + car * C), .int .i64 (1 + S + car * C + C), .int .i64 0]) ∧ Below w.heap.size w w' := by
  have HG := Lib.hid hg
  obtain ⟨c0, c1, n0, n1, s0, s1, k0, k1, q0, q1⟩ := hg
  have m := mul_range h0 (show car ≤ 23 by omega) (show 0 ≤ C by omega) c1
  obtain ⟨m0, m1⟩ := m
  simp only [Int.reduceMul] at m1
  have s2 : 0 ≤ S := by omega
  go_enter Tryd.func25, Tryd.ntmps25
  go_wp2_with (first
    | (go_at_call 14; refine (chk14_yes _ _ _ _ _ HG.out _).mono ?_; rintro e w1 ⟨rfl, hb1⟩; obtain ⟨hc1, hf1⟩ := bcell hb1; have hz1 : w.heap.size < w1.heap.size := Nat.lt_of_lt_of_le (by simp) hb1.size)
    | (go_at_call 37; refine (in37_yes _ _ _ (by omega) (by omega) _).mono ?_; rintro e w' ⟨rfl, rfl⟩))
  have hB1 := below_alloc_l hb1
  have g0 : w1.cell? ⟨w.heap.size, 0, none⟩ = some (.int .i64 C) := by rw [hc1 _ _ (by simp)]; simp
  have g1 : w1.cell? ⟨w.heap.size, 1, none⟩ = some (.int .i64 N) := by rw [hc1 _ _ (by simp)]; simp
  have g2 : w1.cell? ⟨w.heap.size, 2, none⟩ = some (.int .i64 S) := by rw [hc1 _ _ (by simp)]; simp
  have g3 : w1.cell? ⟨w.heap.size, 3, none⟩ = some (.int .i64 K) := by rw [hc1 _ _ (by simp)]; simp
  have g4 : w1.cell? ⟨w.heap.size, 4, none⟩ = some (.int .i64 Q) := by rw [hc1 _ _ (by simp)]; simp
  clear hc1 hf1 hb1
  have wq2 : IntKind.i64.wrap (1 + S + car * C) = 1 + S + car * C := IntWalk.i64_in _ (by omega)
  have wq3 : IntKind.i64.wrap (1 + S + car * C + C) = 1 + S + car * C + C := IntWalk.i64_in _ (by omega)
  go_quiet (fail)
  go_wp2
  go_ret3
  exact ⟨rfl, below_drewN hB1 _⟩
theorem space24 (C N S K Q car : Int) (w : World) :
    Calls Tryd.prog 24 #[.agg #[.int .i64 C, .int .i64 N, .int .i64 S, .int .i64 K, .int .i64 Q], .int .i64 car] w fun e w' => e = .returned (.tuple #[.int .i64 (spaceS C N S K Q car), .int .i64 (spaceT C N S K Q car), .int .i64 (spaceE C N S K Q car)]) ∧ Below w.heap.size w w' := by
  unfold spaceS spaceT spaceE startV endV
  by_cases hg : good C N S K Q
  · by_cases hc : inCar N car
    · have hy : good C N S K Q ∧ inCar N car := ⟨hg, hc⟩
      rw [if_pos hy, if_pos hy, if_pos hy]
      by_cases h0 : car < 0
      · obtain rfl : car = -1 := by unfold inCar at hc; omega
        rw [if_pos h0, if_pos h0]; exact space24_nur C N S K Q hg w
      · rw [if_neg h0, if_neg h0]; exact space24_car C N S K Q car hg (by omega) hc.2 w
    · have hn : ¬ (good C N S K Q ∧ inCar N car) := fun h => hc h.2
      rw [if_neg hn, if_neg hn, if_neg hn]; exact (by
      rcases Int.lt_or_le car (-1) with h | h
      · exact space24_low C N S K Q car hg h w
      · exact space24_high C N S K Q car hg (by unfold inCar at hc; omega) w)
  · have hn : ¬ (good C N S K Q ∧ inCar N car) := fun h => hg h.1
    rw [if_neg hn, if_neg hn, if_neg hn]; exact space24_bad C N S K Q car hg w
theorem space25 (C N S K Q car : Int) (w : World) :
    Calls Tryd.prog 25 #[.agg #[.int .i64 C, .int .i64 N, .int .i64 S, .int .i64 K, .int .i64 Q], .int .i64 car] w fun e w' => e = .returned (.tuple #[.int .i64 (spaceS C N S K Q car), .int .i64 (spaceT C N S K Q car), .int .i64 (spaceE C N S K Q car)]) ∧ Below w.heap.size w w' := by
  unfold spaceS spaceT spaceE startV endV
  by_cases hg : good C N S K Q
  · by_cases hc : inCar N car
    · have hy : good C N S K Q ∧ inCar N car := ⟨hg, hc⟩
      rw [if_pos hy, if_pos hy, if_pos hy]
      by_cases h0 : car < 0
      · obtain rfl : car = -1 := by unfold inCar at hc; omega
        rw [if_pos h0, if_pos h0]; exact space25_nur C N S K Q hg w
      · rw [if_neg h0, if_neg h0]; exact space25_car C N S K Q car hg (by omega) hc.2 w
    · have hn : ¬ (good C N S K Q ∧ inCar N car) := fun h => hc h.2
      rw [if_neg hn, if_neg hn, if_neg hn]; exact (space25_out C N S K Q car hg (by unfold inCar at hc; omega) w)
  · have hn : ¬ (good C N S K Q ∧ inCar N car) := fun h => hg h.1
    rw [if_neg hn, if_neg hn, if_neg hn]; exact space25_bad C N S K Q car hg w
end YtoebnjciioiccaaDoor
end Go.Proofs
