/- Space, both of them. -/
import Derived.Test.YtjkphacidpongaaGreatG11
import Derived.Test.YtjkphacidpongaaGreatQCfPlace
namespace Go.Proofs
namespace YtjkphacidpongaaGreat
namespace Cf
open Go.RowKit

theorem below_drewN {B : Nat} {a w : World} (h : Below B a w) (n : Nat) : Below B a (w.drewN n) := ⟨h.os, h.tape, h.output, h.size, h.block⟩
def startV (C S car : Int) : Int := if car < 0 then 1 else 1 + S + car * C
def endV (C S car : Int) : Int := if car < 0 then 1 + S else 1 + S + car * C + C
def inCar (N car : Int) : Prop := -1 ≤ car ∧ car < N
instance (N car : Int) : Decidable (inCar N car) := by unfold inCar; infer_instance
def spaceS (C N S K Q car : Int) : Int := if good C N S K Q ∧ inCar N car then startV C S car else 0
def spaceT (C N S K Q car : Int) : Int := if good C N S K Q ∧ inCar N car then endV C S car else 0
def spaceE (C N S K Q car : Int) : Int := if good C N S K Q ∧ inCar N car then 0 else 7
set_option maxRecDepth 100000 in
set_option maxHeartbeats 1000000 in
theorem space24_bad (C N S K Q car : Int) (hg : ¬ good C N S K Q) (w : World) :
    Calls Tryz.prog 90 #[.agg #[.int .i64 C, .int .i64 N, .int .i64 S, .int .i64 K, .int .i64 Q], .int .i64 car] w fun e w' => e = .returned (.tuple #[.int .i64 0, .int .i64 0, .int .i64 7]) ∧ Below w.heap.size w w' := by
  have HG := Lib.hid hg
  clear hg
  go_enter Tryz.func90, Tryz.ntmps90
  go_wp2_with (go_at_call 40; refine (chk13_bad _ _ _ _ _ HG.out _).mono ?_; rintro e w1 ⟨rfl, hb1⟩; obtain ⟨hc1, hf1⟩ := bcell hb1; have hz1 : w.heap.size < w1.heap.size := Nat.lt_of_lt_of_le (by simp) hb1.size)
  go_ret3
  exact ⟨rfl, below_alloc_l hb1⟩
set_option maxRecDepth 100000 in
set_option maxHeartbeats 1000000 in
theorem space24_low (C N S K Q car : Int) (hg : good C N S K Q) (h : car < -1) (w : World) :
    Calls Tryz.prog 90 #[.agg #[.int .i64 C, .int .i64 N, .int .i64 S, .int .i64 K, .int .i64 Q], .int .i64 car] w fun e w' => e = .returned (.tuple #[.int .i64 0, .int .i64 0, .int .i64 7]) ∧ Below w.heap.size w w' := by
  have HG := Lib.hid hg
  obtain ⟨c0, c1, n0, n1, s0, s1, k0, k1, q0, q1⟩ := hg
  have q2 : decide (car < -1) = true := decide_eq_true h
  go_enter Tryz.func90, Tryz.ntmps90
  go_wp2_with (go_at_call 40; refine (chk13_good _ _ _ _ _ HG.out _).mono ?_; rintro e w1 ⟨rfl, hb1⟩; obtain ⟨hc1, hf1⟩ := bcell hb1; have hz1 : w.heap.size < w1.heap.size := Nat.lt_of_lt_of_le (by simp) hb1.size)
  go_ret3
  exact ⟨rfl, below_alloc_l hb1⟩
set_option maxRecDepth 100000 in
set_option maxHeartbeats 1000000 in
theorem space24_high (C N S K Q car : Int) (hg : good C N S K Q) (h : N ≤ car) (w : World) :
    Calls Tryz.prog 90 #[.agg #[.int .i64 C, .int .i64 N, .int .i64 S, .int .i64 K, .int .i64 Q], .int .i64 car] w fun e w' => e = .returned (.tuple #[.int .i64 0, .int .i64 0, .int .i64 7]) ∧ Below w.heap.size w w' := by
  have HG := Lib.hid hg
  obtain ⟨c0, c1, n0, n1, s0, s1, k0, k1, q0, q1⟩ := hg
  have q2 : decide (car < -1) = false := decide_eq_false (by omega)
  have q3 : decide (N ≤ car) = true := decide_eq_true h
  go_enter Tryz.func90, Tryz.ntmps90
  go_wp2_with (go_at_call 40; refine (chk13_good _ _ _ _ _ HG.out _).mono ?_; rintro e w1 ⟨rfl, hb1⟩; obtain ⟨hc1, hf1⟩ := bcell hb1; have hz1 : w.heap.size < w1.heap.size := Nat.lt_of_lt_of_le (by simp) hb1.size)
  go_ret3
  exact ⟨rfl, below_alloc_l hb1⟩
set_option maxRecDepth 100000 in
set_option maxHeartbeats 1000000 in
theorem space24_nur (C N S K Q : Int) (hg : good C N S K Q) (w : World) :
    Calls Tryz.prog 90 #[.agg #[.int .i64 C, .int .i64 N, .int .i64 S, .int .i64 K, .int .i64 Q], .int .i64 (-1)] w fun e w' => e = .returned (.tuple #[.int .i64 1, .int .i64 (1 + S), .int .i64 0]) ∧ Below w.heap.size w w' := by
  have HG := Lib.hid hg
  obtain ⟨c0, c1, n0, n1, s0, s1, k0, k1, q0, q1⟩ := hg
  have s2 : 0 ≤ S := by omega
  have q3 : decide (N ≤ -1) = false := decide_eq_false (by omega)
  go_enter Tryz.func90, Tryz.ntmps90
  go_wp2_with (first
    | (go_at_call 40; refine (chk13_good _ _ _ _ _ HG.out _).mono ?_; rintro e w1 ⟨rfl, hb1⟩; obtain ⟨hc1, hf1⟩ := bcell hb1; have hz1 : w.heap.size < w1.heap.size := Nat.lt_of_lt_of_le (by simp) hb1.size)
    | (go_at_call 104; refine (first39 _ _ _ _ _ (by assumption) (by assumption) _).mono ?_; rintro e w3 ⟨rfl, rfl⟩))
  go_ret3
  exact ⟨rfl, (below_alloc_l hb1).alloc (by omega) _⟩
set_option maxRecDepth 100000 in
set_option maxHeartbeats 1000000 in
theorem space24_car (C N S K Q car : Int) (hg : good C N S K Q) (h0 : 0 ≤ car) (h1 : car < N) (w : World) :
    Calls Tryz.prog 90 #[.agg #[.int .i64 C, .int .i64 N, .int .i64 S, .int .i64 K, .int .i64 Q], .int .i64 car] w fun e w' => e = .returned (.tuple #[.int .i64 (1 + S + car * C), .int .i64 (1 + S + car * C + C), .int .i64 0]) ∧ Below w.heap.size w w' := by
  have HG := Lib.hid hg
  obtain ⟨c0, c1, n0, n1, s0, s1, k0, k1, q0, q1⟩ := hg
  have m := mul_range h0 (show car ≤ 23 by omega) (show 0 ≤ C by omega) c1
  obtain ⟨m0, m1⟩ := m
  simp only [Int.reduceMul] at m1
  have s2 : 0 ≤ S := by omega
  have q2 : decide (car < -1) = false := decide_eq_false (by omega)
  have q3 : decide (N ≤ car) = false := decide_eq_false (by omega)
  have q4 : (car == -1) = false := beq_eq_false_iff_ne.2 (by omega)
  go_enter Tryz.func90, Tryz.ntmps90
  go_wp2_with (go_at_call 40; refine (chk13_good _ _ _ _ _ HG.out _).mono ?_; rintro e w1 ⟨rfl, hb1⟩; obtain ⟨hc1, hf1⟩ := bcell hb1; have hz1 : w.heap.size < w1.heap.size := Nat.lt_of_lt_of_le (by simp) hb1.size)
  have hB1 := below_alloc_l hb1
  have g0 : w1.cell? ⟨w.heap.size, 0, none⟩ = some (.int .i64 C) := by rw [hc1 _ _ (by simp)]; simp
  have g1 : w1.cell? ⟨w.heap.size, 1, none⟩ = some (.int .i64 N) := by rw [hc1 _ _ (by simp)]; simp
  have g2 : w1.cell? ⟨w.heap.size, 2, none⟩ = some (.int .i64 S) := by rw [hc1 _ _ (by simp)]; simp
  have g3 : w1.cell? ⟨w.heap.size, 3, none⟩ = some (.int .i64 K) := by rw [hc1 _ _ (by simp)]; simp
  have g4 : w1.cell? ⟨w.heap.size, 4, none⟩ = some (.int .i64 Q) := by rw [hc1 _ _ (by simp)]; simp
  clear hc1 hf1 hb1
  have wq2 : IntKind.i64.wrap (1 + S + car * C) = 1 + S + car * C := IntWalk.i64_in _ (by omega)
  have wq3 : IntKind.i64.wrap (1 + S + car * C + C) = 1 + S + car * C + C := IntWalk.i64_in _ (by omega)
  have wq1 : IntKind.i64.wrap (car * C) = car * C := IntWalk.i64_in _ (by omega)
  go_region_held3 (fun W => W.cell? ⟨w.heap.size, 0, none⟩ = some (.int .i64 C) ∧ W.cell? ⟨w.heap.size, 1, none⟩ = some (.int .i64 N) ∧ W.cell? ⟨w.heap.size, 2, none⟩ = some (.int .i64 S) ∧ W.cell? ⟨w.heap.size, 3, none⟩ = some (.int .i64 K) ∧ W.cell? ⟨w.heap.size, 4, none⟩ = some (.int .i64 Q) ∧ w.heap.size < W.heap.size ∧ Below w.heap.size w W) (first | exact ⟨g0, g1, g2, g3, g4, hz1, hB1.drew⟩ | exact box_alloc_drew ⟨g0, g1, g2, g3, g4, hz1, hB1⟩ _)
    (first | (go_at_call 104; refine (first39 _ _ _ _ _ (by assumption) (by assumption) _).mono ?_; rintro e w3 ⟨rfl, rfl⟩))
  go_wp2
  go_quiet (fail)
  go_wp2
  go_ret3
  exact ⟨rfl, below_drewN (hB1.alloc (Nat.le_of_lt hz1) _).drew _⟩
set_option maxRecDepth 100000 in
set_option maxHeartbeats 1000000 in
theorem space25_bad (C N S K Q car : Int) (hg : ¬ good C N S K Q) (w : World) :
    Calls Tryz.prog 63 #[.agg #[.int .i64 C, .int .i64 N, .int .i64 S, .int .i64 K, .int .i64 Q], .int .i64 car] w fun e w' => e = .returned (.tuple #[.int .i64 0, .int .i64 0, .int .i64 7]) ∧ Below w.heap.size w w' := by
  have HG := Lib.hid hg
  clear hg
  go_enter Tryz.func63, Tryz.ntmps63
  go_wp2_with (first
    | (go_at_call 42; refine (chk14_no _ _ _ _ _ HG.out _).mono ?_; rintro e w1 ⟨rfl, hb1⟩; obtain ⟨hc1, hf1⟩ := bcell hb1; have hz1 : w.heap.size < w1.heap.size := Nat.lt_of_lt_of_le (by simp) hb1.size))
  go_ret3
  exact ⟨rfl, below_alloc_l hb1⟩
set_option maxRecDepth 100000 in
set_option maxHeartbeats 1000000 in
theorem space25_out (C N S K Q car : Int) (hg : good C N S K Q) (h : car < -1 ∨ N ≤ car) (w : World) :
    Calls Tryz.prog 63 #[.agg #[.int .i64 C, .int .i64 N, .int .i64 S, .int .i64 K, .int .i64 Q], .int .i64 car] w fun e w' => e = .returned (.tuple #[.int .i64 0, .int .i64 0, .int .i64 7]) ∧ Below w.heap.size w w' := by
  have HG := Lib.hid hg
  obtain ⟨c0, c1, n0, n1, s0, s1, k0, k1, q0, q1⟩ := hg
  go_enter Tryz.func63, Tryz.ntmps63
  go_wp2_with (first
    | (go_at_call 42; refine (chk14_yes _ _ _ _ _ HG.out _).mono ?_; rintro e w1 ⟨rfl, hb1⟩; obtain ⟨hc1, hf1⟩ := bcell hb1; have hz1 : w.heap.size < w1.heap.size := Nat.lt_of_lt_of_le (by simp) hb1.size)
    | (go_at_call 79; refine (in37_no _ _ _ (by omega) _).mono ?_; rintro e w' ⟨rfl, rfl⟩))
  go_ret3
  exact ⟨rfl, below_alloc_l hb1⟩
set_option maxRecDepth 100000 in
set_option maxHeartbeats 1000000 in
theorem space25_nur (C N S K Q : Int) (hg : good C N S K Q) (w : World) :
    Calls Tryz.prog 63 #[.agg #[.int .i64 C, .int .i64 N, .int .i64 S, .int .i64 K, .int .i64 Q], .int .i64 (-1)] w fun e w' => e = .returned (.tuple #[.int .i64 1, .int .i64 (1 + S), .int .i64 0]) ∧ Below w.heap.size w w' := by
  have HG := Lib.hid hg
  obtain ⟨c0, c1, n0, n1, s0, s1, k0, k1, q0, q1⟩ := hg
  have wq1 : IntKind.i64.wrap (1 + S) = 1 + S := IntWalk.i64_in _ (by omega)
  have wq0 : (0 : Int) ≤ N - 1 := by omega
  go_enter Tryz.func63, Tryz.ntmps63
  go_wp2_with (first
    | (go_at_call 42; refine (chk14_yes _ _ _ _ _ HG.out _).mono ?_; rintro e w1 ⟨rfl, hb1⟩; obtain ⟨hc1, hf1⟩ := bcell hb1; have hz1 : w.heap.size < w1.heap.size := Nat.lt_of_lt_of_le (by simp) hb1.size)
    | (go_at_call 79; refine (in37_yes _ _ _ (by decide) (by omega) _).mono ?_; rintro e w' ⟨rfl, rfl⟩))
  go_quiet (fail)
  go_wp2
  go_ret3
  exact ⟨rfl, below_drewN (below_alloc_l hb1) _⟩
set_option maxRecDepth 100000 in
set_option maxHeartbeats 1000000 in
theorem space25_car (C N S K Q car : Int) (hg : good C N S K Q) (h0 : 0 ≤ car) (h1 : car < N) (w : World) :
    Calls Tryz.prog 63 #[.agg #[.int .i64 C, .int .i64 N, .int .i64 S, .int .i64 K, .int .i64 Q], .int .i64 car] w fun e w' => e = .returned (.tuple #[.int .i64 (1 + S + car * C), .int .i64 (1 + S + car * C + C), .int .i64 0]) ∧ Below w.heap.size w w' := by
  have HG := Lib.hid hg
  obtain ⟨c0, c1, n0, n1, s0, s1, k0, k1, q0, q1⟩ := hg
  have m := mul_range h0 (show car ≤ 23 by omega) (show 0 ≤ C by omega) c1
  obtain ⟨m0, m1⟩ := m
  simp only [Int.reduceMul] at m1
  have s2 : 0 ≤ S := by omega
  go_enter Tryz.func63, Tryz.ntmps63
  go_wp2_with (first
    | (go_at_call 42; refine (chk14_yes _ _ _ _ _ HG.out _).mono ?_; rintro e w1 ⟨rfl, hb1⟩; obtain ⟨hc1, hf1⟩ := bcell hb1; have hz1 : w.heap.size < w1.heap.size := Nat.lt_of_lt_of_le (by simp) hb1.size)
    | (go_at_call 79; refine (in37_yes _ _ _ (by omega) (by omega) _).mono ?_; rintro e w' ⟨rfl, rfl⟩))
  have hB1 := below_alloc_l hb1
  have g0 : w1.cell? ⟨w.heap.size, 0, none⟩ = some (.int .i64 C) := by rw [hc1 _ _ (by simp)]; simp
  have g1 : w1.cell? ⟨w.heap.size, 1, none⟩ = some (.int .i64 N) := by rw [hc1 _ _ (by simp)]; simp
  have g2 : w1.cell? ⟨w.heap.size, 2, none⟩ = some (.int .i64 S) := by rw [hc1 _ _ (by simp)]; simp
  have g3 : w1.cell? ⟨w.heap.size, 3, none⟩ = some (.int .i64 K) := by rw [hc1 _ _ (by simp)]; simp
  have g4 : w1.cell? ⟨w.heap.size, 4, none⟩ = some (.int .i64 Q) := by rw [hc1 _ _ (by simp)]; simp
  clear hc1 hf1 hb1
  have wq2 : IntKind.i64.wrap (1 + S + car * C) = 1 + S + car * C := IntWalk.i64_in _ (by omega)
  have wq3 : IntKind.i64.wrap (1 + S + car * C + C) = 1 + S + car * C + C := IntWalk.i64_in _ (by omega)
  go_quiet (fail)
  go_wp2
  go_ret3
  exact ⟨rfl, below_drewN hB1 _⟩
theorem space24 (C N S K Q car : Int) (w : World) :
    Calls Tryz.prog 90 #[.agg #[.int .i64 C, .int .i64 N, .int .i64 S, .int .i64 K, .int .i64 Q], .int .i64 car] w fun e w' => e = .returned (.tuple #[.int .i64 (spaceS C N S K Q car), .int .i64 (spaceT C N S K Q car), .int .i64 (spaceE C N S K Q car)]) ∧ Below w.heap.size w w' := by
  unfold spaceS spaceT spaceE startV endV
  by_cases hg : good C N S K Q
  · by_cases hc : inCar N car
    · have hy : good C N S K Q ∧ inCar N car := ⟨hg, hc⟩
      rw [if_pos hy, if_pos hy, if_pos hy]
      by_cases h0 : car < 0
      · obtain rfl : car = -1 := by unfold inCar at hc; omega
        rw [if_pos h0, if_pos h0]; exact space24_nur C N S K Q hg w
      · rw [if_neg h0, if_neg h0]; exact space24_car C N S K Q car hg (by omega) hc.2 w
    · have hn : ¬ (good C N S K Q ∧ inCar N car) := fun h => hc h.2
      rw [if_neg hn, if_neg hn, if_neg hn]; exact (by
      rcases Int.lt_or_le car (-1) with h | h
      · exact space24_low C N S K Q car hg h w
      · exact space24_high C N S K Q car hg (by unfold inCar at hc; omega) w)
  · have hn : ¬ (good C N S K Q ∧ inCar N car) := fun h => hg h.1
    rw [if_neg hn, if_neg hn, if_neg hn]; exact space24_bad C N S K Q car hg w
theorem space25 (C N S K Q car : Int) (w : World) :
    Calls Tryz.prog 63 #[.agg #[.int .i64 C, .int .i64 N, .int .i64 S, .int .i64 K, .int .i64 Q], .int .i64 car] w fun e w' => e = .returned (.tuple #[.int .i64 (spaceS C N S K Q car), .int .i64 (spaceT C N S K Q car), .int .i64 (spaceE C N S K Q car)]) ∧ Below w.heap.size w w' := by
  unfold spaceS spaceT spaceE startV endV
  by_cases hg : good C N S K Q
  · by_cases hc : inCar N car
    · have hy : good C N S K Q ∧ inCar N car := ⟨hg, hc⟩
      rw [if_pos hy, if_pos hy, if_pos hy]
      by_cases h0 : car < 0
      · obtain rfl : car = -1 := by unfold inCar at hc; omega
        rw [if_pos h0, if_pos h0]; exact space25_nur C N S K Q hg w
      · rw [if_neg h0, if_neg h0]; exact space25_car C N S K Q car hg (by omega) hc.2 w
    · have hn : ¬ (good C N S K Q ∧ inCar N car) := fun h => hc h.2
      rw [if_neg hn, if_neg hn, if_neg hn]; exact (space25_out C N S K Q car hg (by unfold inCar at hc; omega) w)
  · have hn : ¬ (good C N S K Q ∧ inCar N car) := fun h => hg h.1
    rw [if_neg hn, if_neg hn, if_neg hn]; exact space25_bad C N S K Q car hg w
end Cf
end YtjkphacidpongaaGreat
end Go.Proofs
/- Address, both of them. -/
namespace Go.Proofs
namespace YtjkphacidpongaaGreat
namespace Cf
open Go.RowKit

def addrOk (C N S K Q car off : Int) : Prop := (good C N S K Q ∧ inCar N car) ∧ 0 ≤ off ∧ off < endV C S car - startV C S car
instance (C N S K Q car off : Int) : Decidable (addrOk C N S K Q car off) := by unfold addrOk; infer_instance
def addrR (C N S K Q car off : Int) : Int := if addrOk C N S K Q car off then startV C S car + off else 0
def addrE (C N S K Q car off : Int) : Int := if addrOk C N S K Q car off then 0 else 7
theorem start_range (C N S K Q car : Int) (hg : good C N S K Q) (hc : inCar N car) : 1 ≤ startV C S car ∧ startV C S car < endV C S car ∧ endV C S car ≤ 2000 := by
  obtain ⟨c0, c1, n0, n1, s0, s1, k0, k1, q0, q1⟩ := hg
  obtain ⟨h0, h1⟩ := hc
  unfold startV endV
  by_cases h : car < 0
  · rw [if_pos h, if_pos h]; omega
  · rw [if_neg h, if_neg h]
    have m := mul_range (show 0 ≤ car by omega) (show car ≤ 23 by omega) (show 0 ≤ C by omega) c1
    obtain ⟨m0, m1⟩ := m
    simp only [Int.reduceMul] at m1
    omega
theorem space24_in (C N S K Q car : Int) (h : good C N S K Q ∧ inCar N car) (w : World) :
    Calls Tryz.prog 90 #[.agg #[.int .i64 C, .int .i64 N, .int .i64 S, .int .i64 K, .int .i64 Q], .int .i64 car] w fun e w' => e = .returned (.tuple #[.int .i64 (startV C S car), .int .i64 (endV C S car), .int .i64 0]) ∧ Below w.heap.size w w' := by
  have H := space24 C N S K Q car w
  unfold spaceS spaceT spaceE at H
  rwa [if_pos h, if_pos h, if_pos h] at H
theorem space24_no (C N S K Q car : Int) (h : ¬ (good C N S K Q ∧ inCar N car)) (w : World) :
    Calls Tryz.prog 90 #[.agg #[.int .i64 C, .int .i64 N, .int .i64 S, .int .i64 K, .int .i64 Q], .int .i64 car] w fun e w' => e = .returned (.tuple #[.int .i64 0, .int .i64 0, .int .i64 7]) ∧ Below w.heap.size w w' := by
  have H := space24 C N S K Q car w
  unfold spaceS spaceT spaceE at H
  rwa [if_neg h, if_neg h, if_neg h] at H
theorem space25_in (C N S K Q car : Int) (h : good C N S K Q ∧ inCar N car) (w : World) :
    Calls Tryz.prog 63 #[.agg #[.int .i64 C, .int .i64 N, .int .i64 S, .int .i64 K, .int .i64 Q], .int .i64 car] w fun e w' => e = .returned (.tuple #[.int .i64 (startV C S car), .int .i64 (endV C S car), .int .i64 0]) ∧ Below w.heap.size w w' := by
  have H := space25 C N S K Q car w
  unfold spaceS spaceT spaceE at H
  rwa [if_pos h, if_pos h, if_pos h] at H
theorem space25_no (C N S K Q car : Int) (h : ¬ (good C N S K Q ∧ inCar N car)) (w : World) :
    Calls Tryz.prog 63 #[.agg #[.int .i64 C, .int .i64 N, .int .i64 S, .int .i64 K, .int .i64 Q], .int .i64 car] w fun e w' => e = .returned (.tuple #[.int .i64 0, .int .i64 0, .int .i64 7]) ∧ Below w.heap.size w w' := by
  have H := space25 C N S K Q car w
  unfold spaceS spaceT spaceE at H
  rwa [if_neg h, if_neg h, if_neg h] at H
end Cf
end YtjkphacidpongaaGreat
end Go.Proofs
/- Car; where an address is. -/
namespace Go.Proofs
namespace YtjkphacidpongaaGreat
namespace Cf
open Go.RowKit

theorem car26_of (C N S K Q a p o e : Int) (H : Hid (∀ W : World, Calls Tryz.prog 100 #[.agg #[.int .i64 C, .int .i64 N, .int .i64 S, .int .i64 K, .int .i64 Q], .int .i64 a] W fun E w' => E = .returned (.tuple #[.int .i64 p, .int .i64 o, .int .i64 e]) ∧ Below W.heap.size W w')) (w : World) :
    Calls Tryz.prog 81 #[.agg #[.int .i64 C, .int .i64 N, .int .i64 S, .int .i64 K, .int .i64 Q], .int .i64 a] w fun E w' => E = .returned (.tuple #[.int .i64 p, .int .i64 e]) ∧ Below w.heap.size w w' := by
  go_enter Tryz.func81, Tryz.ntmps81
  go_wp2_with (go_at_call 100; refine (H.out _).mono ?_; rintro e w1 ⟨rfl, hb1⟩)
  go_ret2
  exact ⟨rfl, below_alloc_l hb1⟩

theorem place28_in (C N S K Q a : Int) (hg : good C N S K Q) (ha : inWords C N S a) (w : World) :
    Calls Tryz.prog 100 #[.agg #[.int .i64 C, .int .i64 N, .int .i64 S, .int .i64 K, .int .i64 Q], .int .i64 a] w fun e w' => e = .returned (.tuple #[.int .i64 (placeC C S a), .int .i64 (placeO C S a), .int .i64 0]) ∧ Below w.heap.size w w' := by
  unfold placeC placeO
  by_cases h : a < 1 + S
  · rw [if_pos h, if_pos h]; exact place28_nur C N S K Q a hg ha.1 h w
  · rw [if_neg h, if_neg h]; exact place28_car C N S K Q a hg (by omega) ha.2 w
theorem place28_out (C N S K Q a : Int) (hg : good C N S K Q) (ha : ¬ inWords C N S a) (w : World) :
    Calls Tryz.prog 100 #[.agg #[.int .i64 C, .int .i64 N, .int .i64 S, .int .i64 K, .int .i64 Q], .int .i64 a] w fun e w' => e = .returned (.tuple #[.int .i64 0, .int .i64 0, .int .i64 7]) ∧ Below w.heap.size w w' := by
  by_cases h : a < 1
  · exact place28_low C N S K Q a hg h w
  · exact place28_high C N S K Q a hg (by unfold inWords at ha; omega) w
theorem place_of (C N S K Q car a : Int) (hg : good C N S K Q) (hc : inCar N car) (h0 : startV C S car ≤ a) (h1 : a < endV C S car) : inWords C N S a ∧ placeC C S a = car ∧ placeO C S a = a - startV C S car := by
  obtain ⟨c0, c1, n0, n1, z0, z1, k0, k1, q0, q1⟩ := hg
  obtain ⟨d0, d1⟩ := hc
  unfold startV at *
  unfold endV at h1
  unfold placeC placeO inWords
  have m := mul_range (show 0 ≤ N by omega) n1 (show 0 ≤ C by omega) c1
  by_cases h : car < 0
  · rw [if_pos h] at h0 h1
    rw [if_pos h, if_pos (by omega), if_pos (by omega)]
    omega
  · rw [if_neg h] at h0 h1
    rw [if_neg h]
    have mc := Int.mul_nonneg (show 0 ≤ car by omega) (show 0 ≤ C by omega)
    have mn := Int.mul_le_mul_of_nonneg_right (show car + 1 ≤ N by omega) (show 0 ≤ C by omega)
    rw [Int.add_mul, Int.one_mul] at mn
    rw [if_neg (by omega), if_neg (by omega)]
    have e : a - (1 + S) = a - (1 + S + car * C) + car * C := by omega
    have q : (a - (1 + S + car * C)) / C = 0 := Int.ediv_eq_zero_of_lt (by omega) (by omega)
    have r : (a - (1 + S + car * C)) % C = a - (1 + S + car * C) := Int.emod_eq_of_lt (by omega) (by omega)
    refine ⟨by omega, ?_, ?_⟩
    · rw [e, Int.add_mul_ediv_right _ _ (by omega), q]; omega
    · rw [e, Int.add_mul_emod_self_right, r]
theorem start_next (C S car : Int) (h : -1 ≤ car) : startV C S (car + 1) = endV C S car := by
  unfold startV endV
  by_cases h0 : car < 0
  · obtain rfl : car = -1 := by omega
    simp
  · rw [if_neg h0, if_neg (by omega), Int.add_mul, Int.one_mul]; omega
end Cf
end YtjkphacidpongaaGreat
end Go.Proofs
