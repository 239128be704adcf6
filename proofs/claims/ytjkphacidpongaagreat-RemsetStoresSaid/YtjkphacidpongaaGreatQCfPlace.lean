/- The program's Place and Car. -/
import Derived.Test.YtjkphacidpongaaGreatG11
namespace Go.Proofs
namespace YtjkphacidpongaaGreat
namespace Cf
open Go.RowKit

def placeC (C S a : Int) : Int := if a < 1 + S then -1 else (a - (1 + S)) / C
def placeO (C S a : Int) : Int := if a < 1 + S then a - 1 else (a - (1 + S)) % C
def inWords (C N S a : Int) : Prop := 1 ≤ a ∧ a < 1 + S + N * C
instance (C N S a : Int) : Decidable (inWords C N S a) := by unfold inWords; infer_instance
set_option maxRecDepth 100000 in
set_option maxHeartbeats 1000000 in
theorem place28_bad (C N S K Q a : Int) (hg : ¬ good C N S K Q) (w : World) :
    Calls Tryz.prog 100 #[.agg #[.int .i64 C, .int .i64 N, .int .i64 S, .int .i64 K, .int .i64 Q], .int .i64 a] w fun e w' => e = .returned (.tuple #[.int .i64 0, .int .i64 0, .int .i64 7]) ∧ Below w.heap.size w w' := by
  have HG := Lib.hid hg
  have s0 := Lib.hid (box_new w C N S K Q)
  clear hg
  go_enter Tryz.func100, Tryz.ntmps100
  go_wp2_with (first
    | (go_at_call 125; refine (words16_bad _ _ _ _ _ HG.out _).mono ?_; rintro e w1 ⟨rfl, hb1⟩; have s1 := Lib.hid (box_below s0.out hb1); obtain ⟨d0, d1, d2, d3, d4, z, B1⟩ := s1.out; clear hb1)
    | (go_at_call 104; refine (first39 _ _ _ _ _ (by assumption) (by assumption) _).mono ?_; rintro e w3 ⟨rfl, rfl⟩))
  go_ret3
  exact ⟨rfl, B1⟩
set_option maxRecDepth 100000 in
set_option maxHeartbeats 1000000 in
theorem place28_low (C N S K Q a : Int) (hg : good C N S K Q) (h : a < 1) (w : World) :
    Calls Tryz.prog 100 #[.agg #[.int .i64 C, .int .i64 N, .int .i64 S, .int .i64 K, .int .i64 Q], .int .i64 a] w fun e w' => e = .returned (.tuple #[.int .i64 0, .int .i64 0, .int .i64 7]) ∧ Below w.heap.size w w' := by
  have HG := Lib.hid hg
  have s0 := Lib.hid (box_new w C N S K Q)
  obtain ⟨c0, c1, n0, n1, z0, z1, k0, k1, q0, q1⟩ := hg
  have m := mul_range (show 0 ≤ N by omega) n1 (show 0 ≤ C by omega) c1
  obtain ⟨m0, m1⟩ := m
  simp only [Int.reduceMul] at m1
  have p1 : decide (a < 1) = true := decide_eq_true h
  go_enter Tryz.func100, Tryz.ntmps100
  go_wp2_with (first
    | (go_at_call 125; refine (words16_good _ _ _ _ _ HG.out _).mono ?_; rintro e w1 ⟨rfl, hb1⟩; have s1 := Lib.hid (box_below s0.out hb1); obtain ⟨d0, d1, d2, d3, d4, z, B1⟩ := s1.out; clear hb1)
    | (go_at_call 104; refine (first39 _ _ _ _ _ (by assumption) (by assumption) _).mono ?_; rintro e w3 ⟨rfl, rfl⟩))
  go_ret3
  exact ⟨rfl, B1⟩
set_option maxRecDepth 100000 in
set_option maxHeartbeats 1000000 in
theorem place28_high (C N S K Q a : Int) (hg : good C N S K Q) (h : 1 + S + N * C ≤ a) (w : World) :
    Calls Tryz.prog 100 #[.agg #[.int .i64 C, .int .i64 N, .int .i64 S, .int .i64 K, .int .i64 Q], .int .i64 a] w fun e w' => e = .returned (.tuple #[.int .i64 0, .int .i64 0, .int .i64 7]) ∧ Below w.heap.size w w' := by
  have HG := Lib.hid hg
  have s0 := Lib.hid (box_new w C N S K Q)
  obtain ⟨c0, c1, n0, n1, z0, z1, k0, k1, q0, q1⟩ := hg
  have m := mul_range (show 0 ≤ N by omega) n1 (show 0 ≤ C by omega) c1
  obtain ⟨m0, m1⟩ := m
  simp only [Int.reduceMul] at m1
  have p1 : decide (a < 1) = false := decide_eq_false (by omega)
  have p2 : decide (1 + S + N * C ≤ a) = true := decide_eq_true h
  go_enter Tryz.func100, Tryz.ntmps100
  go_wp2_with (first
    | (go_at_call 125; refine (words16_good _ _ _ _ _ HG.out _).mono ?_; rintro e w1 ⟨rfl, hb1⟩; have s1 := Lib.hid (box_below s0.out hb1); obtain ⟨d0, d1, d2, d3, d4, z, B1⟩ := s1.out; clear hb1)
    | (go_at_call 104; refine (first39 _ _ _ _ _ (by assumption) (by assumption) _).mono ?_; rintro e w3 ⟨rfl, rfl⟩))
  go_ret3
  exact ⟨rfl, B1⟩
set_option maxRecDepth 100000 in
set_option maxHeartbeats 1000000 in
theorem place28_nur (C N S K Q a : Int) (hg : good C N S K Q) (h0 : 1 ≤ a) (h1 : a < 1 + S) (w : World) :
    Calls Tryz.prog 100 #[.agg #[.int .i64 C, .int .i64 N, .int .i64 S, .int .i64 K, .int .i64 Q], .int .i64 a] w fun e w' => e = .returned (.tuple #[.int .i64 (-1), .int .i64 (a - 1), .int .i64 0]) ∧ Below w.heap.size w w' := by
  have HG := Lib.hid hg
  have s0 := Lib.hid (box_new w C N S K Q)
  obtain ⟨c0, c1, n0, n1, z0, z1, k0, k1, q0, q1⟩ := hg
  have m := mul_range (show 0 ≤ N by omega) n1 (show 0 ≤ C by omega) c1
  obtain ⟨m0, m1⟩ := m
  simp only [Int.reduceMul] at m1
  have z2 : 0 ≤ S := by omega
  have p1 : decide (a < 1) = false := decide_eq_false (by omega)
  have p2 : decide (1 + S + N * C ≤ a) = false := decide_eq_false (by omega)
  have p3 : decide (a < 1 + S) = true := decide_eq_true h1
  go_enter Tryz.func100, Tryz.ntmps100
  go_wp2_with (first
    | (go_at_call 125; refine (words16_good _ _ _ _ _ HG.out _).mono ?_; rintro e w1 ⟨rfl, hb1⟩; have s1 := Lib.hid (box_below s0.out hb1); obtain ⟨d0, d1, d2, d3, d4, z, B1⟩ := s1.out; clear hb1)
    | (go_at_call 104; refine (first39 _ _ _ _ _ (by assumption) (by assumption) _).mono ?_; rintro e w3 ⟨rfl, rfl⟩))
  go_ret3
  exact ⟨rfl, B1.alloc (Nat.le_of_lt z) _⟩
set_option maxRecDepth 100000 in
set_option maxHeartbeats 1000000 in
theorem place28_car (C N S K Q a : Int) (hg : good C N S K Q) (h0 : 1 + S ≤ a) (h1 : a < 1 + S + N * C) (w : World) :
    Calls Tryz.prog 100 #[.agg #[.int .i64 C, .int .i64 N, .int .i64 S, .int .i64 K, .int .i64 Q], .int .i64 a] w fun e w' => e = .returned (.tuple #[.int .i64 ((a - (1 + S)) / C), .int .i64 ((a - (1 + S)) % C), .int .i64 0]) ∧ Below w.heap.size w w' := by
  have HG := Lib.hid hg
  have s0 := Lib.hid (box_new w C N S K Q)
  obtain ⟨c0, c1, n0, n1, z0, z1, k0, k1, q0, q1⟩ := hg
  have m := mul_range (show 0 ≤ N by omega) n1 (show 0 ≤ C by omega) c1
  obtain ⟨m0, m1⟩ := m
  simp only [Int.reduceMul] at m1
  have z2 : 0 ≤ S := by omega
  have p1 : decide (a < 1) = false := decide_eq_false (by omega)
  have p2 : decide (1 + S + N * C ≤ a) = false := decide_eq_false (by omega)
  have p3 : decide (a < 1 + S) = false := decide_eq_false (by omega)
  have p4 : (C == 0) = false := beq_eq_false_iff_ne.2 (by omega)
  have t2 : (a - (1 + S)).tmod C = (a - (1 + S)) % C := Int.tmod_eq_emod_of_nonneg (by omega)
  have t3 : (a - (1 + S)).tdiv C = (a - (1 + S)) / C := Int.tdiv_eq_ediv_of_nonneg (by omega)
  have t4 : 0 ≤ (a - (1 + S)) / C ∧ (a - (1 + S)) / C ≤ a - (1 + S) := ⟨Int.ediv_nonneg (by omega) (by omega), Int.ediv_le_self _ (by omega)⟩
  have t5 : IntKind.i64.wrap ((a - (1 + S)) / C) = (a - (1 + S)) / C := IntWalk.i64_in _ (by omega)
  have t6 : 0 ≤ (a - (1 + S)) % C ∧ (a - (1 + S)) % C < C := ⟨Int.emod_nonneg _ (by omega), Int.emod_lt_of_pos _ (by omega)⟩
  have t7 : IntKind.i64.wrap ((a - (1 + S)) % C) = (a - (1 + S)) % C := IntWalk.i64_in _ (by omega)
  clear t4 t6
  go_enter Tryz.func100, Tryz.ntmps100
  go_wp2_with (first
    | (go_at_call 125; refine (words16_good _ _ _ _ _ HG.out _).mono ?_; rintro e w1 ⟨rfl, hb1⟩; have s1 := Lib.hid (box_below s0.out hb1); obtain ⟨d0, d1, d2, d3, d4, z, B1⟩ := s1.out; clear hb1)
    | (go_at_call 104; refine (first39 _ _ _ _ _ (by assumption) (by assumption) _).mono ?_; rintro e w3 ⟨rfl, rfl⟩))
  go_quiet (fail)
  go_wp2
  go_ret3
  exact ⟨rfl, below_drewN ((B1.alloc (Nat.le_of_lt z) _).alloc (by simp; exact Nat.le_succ_of_le (Nat.le_of_lt z)) _) _⟩
end Cf
end YtjkphacidpongaaGreat
end Go.Proofs
