/- Bound, both of them. -/
import Derived.Test.YtoebnjciioiccaaDoorSums
import Derived.Deep.RegionHeld3
namespace Go.Proofs
namespace YtoebnjciioiccaaDoor
open Go.RowKit

theorem box_alloc {w W : World} {C N S K Q : Int} (h : W.cell? ⟨w.heap.size, 0, none⟩ = some (.int .i64 C) ∧ W.cell? ⟨w.heap.size, 1, none⟩ = some (.int .i64 N) ∧ W.cell? ⟨w.heap.size, 2, none⟩ = some (.int .i64 S) ∧ W.cell? ⟨w.heap.size, 3, none⟩ = some (.int .i64 K) ∧ W.cell? ⟨w.heap.size, 4, none⟩ = some (.int .i64 Q) ∧ w.heap.size < W.heap.size ∧ Below w.heap.size w W) (o : Obj) :
    (W.alloc o).cell? ⟨w.heap.size, 0, none⟩ = some (.int .i64 C) ∧ (W.alloc o).cell? ⟨w.heap.size, 1, none⟩ = some (.int .i64 N) ∧ (W.alloc o).cell? ⟨w.heap.size, 2, none⟩ = some (.int .i64 S) ∧ (W.alloc o).cell? ⟨w.heap.size, 3, none⟩ = some (.int .i64 K) ∧ (W.alloc o).cell? ⟨w.heap.size, 4, none⟩ = some (.int .i64 Q) ∧ w.heap.size < (W.alloc o).heap.size ∧ Below w.heap.size w (W.alloc o) := by
  obtain ⟨h0, h1, h2, h3, h4, hz, hB⟩ := h
  have e : ∀ i, (W.alloc o).cell? ⟨w.heap.size, i, none⟩ = W.cell? ⟨w.heap.size, i, none⟩ := fun i => World.cell?_alloc_past o _ _ hz
  exact ⟨by rw [e, h0], by rw [e, h1], by rw [e, h2], by rw [e, h3], by rw [e, h4], by simp; omega, hB.alloc (by omega) _⟩
theorem box_alloc_drew {w W : World} {C N S K Q : Int} (h : W.cell? ⟨w.heap.size, 0, none⟩ = some (.int .i64 C) ∧ W.cell? ⟨w.heap.size, 1, none⟩ = some (.int .i64 N) ∧ W.cell? ⟨w.heap.size, 2, none⟩ = some (.int .i64 S) ∧ W.cell? ⟨w.heap.size, 3, none⟩ = some (.int .i64 K) ∧ W.cell? ⟨w.heap.size, 4, none⟩ = some (.int .i64 Q) ∧ w.heap.size < W.heap.size ∧ Below w.heap.size w W) (o : Obj) :
    (W.alloc o).drew.cell? ⟨w.heap.size, 0, none⟩ = some (.int .i64 C) ∧ (W.alloc o).drew.cell? ⟨w.heap.size, 1, none⟩ = some (.int .i64 N) ∧ (W.alloc o).drew.cell? ⟨w.heap.size, 2, none⟩ = some (.int .i64 S) ∧ (W.alloc o).drew.cell? ⟨w.heap.size, 3, none⟩ = some (.int .i64 K) ∧ (W.alloc o).drew.cell? ⟨w.heap.size, 4, none⟩ = some (.int .i64 Q) ∧ w.heap.size < (W.alloc o).drew.heap.size ∧ Below w.heap.size w (W.alloc o).drew :=
  have h' := box_alloc h o
  ⟨h'.1, h'.2.1, h'.2.2.1, h'.2.2.2.1, h'.2.2.2.2.1, h'.2.2.2.2.2.1, h'.2.2.2.2.2.2.drew⟩
set_option maxRecDepth 100000 in
theorem bound22_bad (C N S K Q : Int) (hg : ¬ good C N S K Q) (w : World) :
    Calls Tryd.prog 22 #[.agg #[.int .i64 C, .int .i64 N, .int .i64 S, .int .i64 K, .int .i64 Q]] w fun e w' => e = .returned (.tuple #[.int .i64 0, .int .i64 7]) ∧ Below w.heap.size w w' := by
  have HG := Lib.hid hg
  clear hg
  go_enter Tryd.func22, Tryd.ntmps22
  go_wp2_with (go_at_call 13; refine (chk13_bad _ _ _ _ _ HG.out _).mono ?_; rintro e w1 ⟨rfl, hb1⟩; obtain ⟨hc1, hf1⟩ := bcell hb1)
  go_ret2
  exact ⟨rfl, below_alloc_l hb1⟩
set_option maxRecDepth 100000 in
theorem bound23_bad (C N S K Q : Int) (hg : ¬ good C N S K Q) (w : World) :
    Calls Tryd.prog 23 #[.agg #[.int .i64 C, .int .i64 N, .int .i64 S, .int .i64 K, .int .i64 Q]] w fun e w' => e = .returned (.tuple #[.int .i64 0, .int .i64 7]) ∧ Below w.heap.size w w' := by
  have HG := Lib.hid hg
  clear hg
  go_enter Tryd.func23, Tryd.ntmps23
  go_wp2_with (go_at_call 14; refine (chk14_no _ _ _ _ _ HG.out _).mono ?_; rintro e w1 ⟨rfl, hb1⟩; obtain ⟨hc1, hf1⟩ := bcell hb1)
  go_ret2
  exact ⟨rfl, below_alloc_l hb1⟩
set_option maxRecDepth 100000 in
set_option maxHeartbeats 1000000 in
theorem bound22_good (C N S K Q : Int) (hg : good C N S K Q) (w : World) :
    Calls Tryd.prog 22 #[.agg #[.int .i64 C, .int .i64 N, .int .i64 S, .int .i64 K, .int .i64 Q]] w fun e w' => e = .returned (.tuple #[.int .i64 ((N + 1) * (N + 1) * (N * C + 1)), .int .i64 0]) ∧ Below w.heap.size w w' := by
  have HG := Lib.hid hg
  obtain ⟨c0, c1, n0, n1, s0, s1, k0, k1, q0, q1⟩ := hg
  have m := mul_range (show 0 ≤ N by omega) n1 (show 0 ≤ C by omega) c1
  obtain ⟨m0, m1⟩ := m
  simp only [Int.reduceMul] at m1
  have m2 := mul_range (show 0 ≤ N + 1 by omega) (show N + 1 ≤ 25 by omega) (show 0 ≤ N + 1 by omega) (show N + 1 ≤ 25 by omega)
  obtain ⟨m20, m21⟩ := m2
  simp only [Int.reduceMul] at m21
  have m3 := mul_range m20 m21 (show 0 ≤ N * C + 1 by omega) (show N * C + 1 ≤ 1537 by omega)
  obtain ⟨m30, m31⟩ := m3
  simp only [Int.reduceMul] at m31
  have wq4 : IntKind.i64.wrap ((N + 1) * (N + 1) * (N * C + 1)) = (N + 1) * (N + 1) * (N * C + 1) := IntWalk.i64_in _ (by omega)
  have wq2 : IntKind.i64.wrap ((N + 1) * (N + 1)) = (N + 1) * (N + 1) := IntWalk.i64_in _ (by omega)
  have wq1' : -9223372036854775808 ≤ N + 1 ∧ N + 1 ≤ 9223372036854775807 := by omega
  have wq3' : -9223372036854775808 ≤ N * C + 1 ∧ N * C + 1 ≤ 9223372036854775807 := by omega
  have wq1 : IntKind.i64.wrap (N + 1) = N + 1 := IntWalk.i64_in _ wq1'
  have wq3 : IntKind.i64.wrap (N * C + 1) = N * C + 1 := IntWalk.i64_in _ wq3'
  clear wq1' wq3'
  go_enter Tryd.func22, Tryd.ntmps22
  go_wp2_with (go_at_call 13; refine (chk13_good _ _ _ _ _ HG.out _).mono ?_; rintro e w1 ⟨rfl, hb1⟩; obtain ⟨hc1, hf1⟩ := bcell hb1; have hz1 : w.heap.size < w1.heap.size := Nat.lt_of_lt_of_le (by simp) hb1.size)
  have hB1 := below_alloc_l hb1
  have g0 : w1.cell? ⟨w.heap.size, 0, none⟩ = some (.int .i64 C) := by rw [hc1 _ _ (by simp)]; simp
  have g1 : w1.cell? ⟨w.heap.size, 1, none⟩ = some (.int .i64 N) := by rw [hc1 _ _ (by simp)]; simp
  have g2 : w1.cell? ⟨w.heap.size, 2, none⟩ = some (.int .i64 S) := by rw [hc1 _ _ (by simp)]; simp
  have g3 : w1.cell? ⟨w.heap.size, 3, none⟩ = some (.int .i64 K) := by rw [hc1 _ _ (by simp)]; simp
  have g4 : w1.cell? ⟨w.heap.size, 4, none⟩ = some (.int .i64 Q) := by rw [hc1 _ _ (by simp)]; simp
  clear hc1 hf1 hb1
  go_region_held3 (fun W => W.cell? ⟨w.heap.size, 0, none⟩ = some (.int .i64 C) ∧ W.cell? ⟨w.heap.size, 1, none⟩ = some (.int .i64 N) ∧ W.cell? ⟨w.heap.size, 2, none⟩ = some (.int .i64 S) ∧ W.cell? ⟨w.heap.size, 3, none⟩ = some (.int .i64 K) ∧ W.cell? ⟨w.heap.size, 4, none⟩ = some (.int .i64 Q) ∧ w.heap.size < W.heap.size ∧ Below w.heap.size w W) (first | exact ⟨g0, g1, g2, g3, g4, hz1, hB1.drew⟩ | exact box_alloc_drew ⟨g0, g1, g2, g3, g4, hz1, hB1⟩ _)
    (first | (go_at_call 40; refine (heap40 _ _ _ _ _ (by assumption) (by assumption) _).mono ?_; rintro e w3 ⟨rfl, rfl⟩))
  go_wp2
  go_ret2
  exact ⟨rfl, (hB1.alloc (Nat.le_of_lt hz1) _).drew⟩
set_option maxRecDepth 100000 in
set_option maxHeartbeats 1000000 in
theorem bound23_good (C N S K Q : Int) (hg : good C N S K Q) (w : World) :
    Calls Tryd.prog 23 #[.agg #[.int .i64 C, .int .i64 N, .int .i64 S, .int .i64 K, .int .i64 Q]] w fun e w' => e = .returned (.tuple #[.int .i64 ((N + 1) * (N + 1) * (N * C + 1)), .int .i64 0]) ∧ Below w.heap.size w w' := by
  have HG := Lib.hid hg
  obtain ⟨c0, c1, n0, n1, s0, s1, k0, k1, q0, q1⟩ := hg
  have m := mul_range (show 0 ≤ N by omega) n1 (show 0 ≤ C by omega) c1
  obtain ⟨m0, m1⟩ := m
  simp only [Int.reduceMul] at m1
  have m2 := mul_range (show 0 ≤ N + 1 by omega) (show N + 1 ≤ 25 by omega) (show 0 ≤ N + 1 by omega) (show N + 1 ≤ 25 by omega)
  obtain ⟨m20, m21⟩ := m2
  simp only [Int.reduceMul] at m21
  have m3 := mul_range m20 m21 (show 0 ≤ N * C + 1 by omega) (show N * C + 1 ≤ 1537 by omega)
  obtain ⟨m30, m31⟩ := m3
  simp only [Int.reduceMul] at m31
  go_enter Tryd.func23, Tryd.ntmps23
  go_wp2_with (go_at_call 14; refine (chk14_yes _ _ _ _ _ HG.out _).mono ?_; rintro e w1 ⟨rfl, hb1⟩; obtain ⟨hc1, hf1⟩ := bcell hb1)
  go_ret2
  exact ⟨rfl, below_alloc_l hb1⟩
theorem bound22 (C N S K Q : Int) (w : World) :
    Calls Tryd.prog 22 #[.agg #[.int .i64 C, .int .i64 N, .int .i64 S, .int .i64 K, .int .i64 Q]] w fun e w' => e = .returned (.tuple #[.int .i64 (boundR C N S K Q), .int .i64 (chkE C N S K Q)]) ∧ Below w.heap.size w w' := by
  unfold boundR chkE
  by_cases hg : good C N S K Q
  · rw [if_pos hg, if_pos hg]; exact bound22_good C N S K Q hg w
  · rw [if_neg hg, if_neg hg]; exact bound22_bad C N S K Q hg w
theorem bound23 (C N S K Q : Int) (w : World) :
    Calls Tryd.prog 23 #[.agg #[.int .i64 C, .int .i64 N, .int .i64 S, .int .i64 K, .int .i64 Q]] w fun e w' => e = .returned (.tuple #[.int .i64 (boundR C N S K Q), .int .i64 (chkE C N S K Q)]) ∧ Below w.heap.size w w' := by
  unfold boundR chkE
  by_cases hg : good C N S K Q
  · rw [if_pos hg, if_pos hg]; exact bound23_good C N S K Q hg w
  · rw [if_neg hg, if_neg hg]; exact bound23_bad C N S K Q hg w
end YtoebnjciioiccaaDoor
end Go.Proofs
