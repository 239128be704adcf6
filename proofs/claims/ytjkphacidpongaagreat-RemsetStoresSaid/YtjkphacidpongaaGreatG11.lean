/- The sums: Words, Largest, Budget, Bound, Fits; the document's and the program's. -/
import Derived.Test.YtjkphacidpongaaGreatQCfChk
import Derived.IntWalk
import Derived.Deep.RegionHeld3
namespace Go.Proofs
namespace YtjkphacidpongaaGreat
namespace Cf
open Go.RowKit

theorem chk14 (C N S K Q : Int) (w : World) :
    Calls Tryz.prog 42 #[.agg #[.int .i64 C, .int .i64 N, .int .i64 S, .int .i64 K, .int .i64 Q]] w fun e w' => e = .returned (.int .i64 (chkE C N S K Q)) ∧ Below w.heap.size w w' := by
  unfold chkE
  by_cases h0 : 8 ≤ C ∧ C ≤ 64
  · by_cases h1 : 7 ≤ N ∧ N ≤ 24
    · by_cases h2 : 4 ≤ S ∧ S ≤ 64
      · by_cases h3 : 1 ≤ K ∧ K ≤ 8
        · by_cases h4 : 2 ≤ Q ∧ Q ≤ 16
          · rw [if_pos (by unfold good; omega)]; exact chk14_good C N S K Q h0.1 h0.2 h1.1 h1.2 h2.1 h2.2 h3.1 h3.2 h4.1 h4.2 w
          · rw [if_neg (by unfold good; omega)]; exact chk14_bad4 C N S K Q h0.1 h0.2 h1.1 h1.2 h2.1 h2.2 h3.1 h3.2 (by omega) w
        · rw [if_neg (by unfold good; omega)]; exact chk14_bad3 C N S K Q h0.1 h0.2 h1.1 h1.2 h2.1 h2.2 (by omega) w
      · rw [if_neg (by unfold good; omega)]; exact chk14_bad2 C N S K Q h0.1 h0.2 h1.1 h1.2 (by omega) w
    · rw [if_neg (by unfold good; omega)]; exact chk14_bad1 C N S K Q h0.1 h0.2 (by omega) w
  · rw [if_neg (by unfold good; omega)]; exact chk14_bad0 C N S K Q (by omega) w
theorem chk14_yes (C N S K Q : Int) (hg : good C N S K Q) (w : World) :
    Calls Tryz.prog 42 #[.agg #[.int .i64 C, .int .i64 N, .int .i64 S, .int .i64 K, .int .i64 Q]] w fun e w' => e = .returned (.int .i64 0) ∧ Below w.heap.size w w' := by
  have h := chk14 C N S K Q w
  rwa [chkE, if_pos hg] at h
theorem chk14_no (C N S K Q : Int) (hg : ¬ good C N S K Q) (w : World) :
    Calls Tryz.prog 42 #[.agg #[.int .i64 C, .int .i64 N, .int .i64 S, .int .i64 K, .int .i64 Q]] w fun e w' => e = .returned (.int .i64 7) ∧ Below w.heap.size w w' := by
  have h := chk14 C N S K Q w
  rwa [chkE, if_neg hg] at h

theorem mul_range {a b A B : Int} (a0 : 0 ≤ a) (a1 : a ≤ A) (b0 : 0 ≤ b) (b1 : b ≤ B) : 0 ≤ a * b ∧ a * b ≤ A * B :=
  ⟨Int.mul_nonneg a0 b0, Int.mul_le_mul a1 b1 b0 (by omega)⟩

theorem first39 (C N S K Q : Int) (h0 : 0 ≤ S) (h1 : S ≤ 64) (w : World) :
    Calls Tryz.prog 104 #[.agg #[.int .i64 C, .int .i64 N, .int .i64 S, .int .i64 K, .int .i64 Q]] w fun e w' => e = .returned (.int .i64 (1 + S)) ∧ w.alloc (.cells #[.int .i64 C, .int .i64 N, .int .i64 S, .int .i64 K, .int .i64 Q] 23) = w' := by
  go_enter Tryz.func104, Tryz.ntmps104
  go_wp2
  go_ret
  exact ⟨rfl, rfl⟩
theorem heap40 (C N S K Q : Int) (h0 : 0 ≤ N * C) (h1 : N * C ≤ 1536) (w : World) :
    Calls Tryz.prog 136 #[.agg #[.int .i64 C, .int .i64 N, .int .i64 S, .int .i64 K, .int .i64 Q]] w fun e w' => e = .returned (.int .i64 (N * C)) ∧ w.alloc (.cells #[.int .i64 C, .int .i64 N, .int .i64 S, .int .i64 K, .int .i64 Q] 23) = w' := by
  go_enter Tryz.func136, Tryz.ntmps136
  go_wp2
  go_ret
  exact ⟨rfl, rfl⟩

def wordsR (C N S K Q : Int) : Int := if good C N S K Q then 1 + S + N * C else 0
def largestV (C S : Int) : Int := if S < C / 2 then S else C / 2
def largestR (C N S K Q : Int) : Int := if good C N S K Q then largestV C S else 0
def budgetR (C N S K Q : Int) : Int := if good C N S K Q then C * (N - 6) else 0
def boundR (C N S K Q : Int) : Int := if good C N S K Q then (N + 1) * (N + 1) * (N * C + 1) else 0

set_option maxRecDepth 100000 in
theorem words16_bad (C N S K Q : Int) (hg : ¬ good C N S K Q) (w : World) :
    Calls Tryz.prog 125 #[.agg #[.int .i64 C, .int .i64 N, .int .i64 S, .int .i64 K, .int .i64 Q]] w fun e w' => e = .returned (.tuple #[.int .i64 0, .int .i64 7]) ∧ Below w.heap.size w w' := by
  have HG := Lib.hid hg
  clear hg
  go_enter Tryz.func125, Tryz.ntmps125
  go_wp2_with (go_at_call 40; refine (chk13_bad _ _ _ _ _ HG.out _).mono ?_; rintro e w1 ⟨rfl, hb1⟩; obtain ⟨hc1, hf1⟩ := bcell hb1)
  go_ret2
  exact ⟨rfl, below_alloc_l hb1⟩
set_option maxRecDepth 100000 in
theorem words17_bad (C N S K Q : Int) (hg : ¬ good C N S K Q) (w : World) :
    Calls Tryz.prog 71 #[.agg #[.int .i64 C, .int .i64 N, .int .i64 S, .int .i64 K, .int .i64 Q]] w fun e w' => e = .returned (.tuple #[.int .i64 0, .int .i64 7]) ∧ Below w.heap.size w w' := by
  have HG := Lib.hid hg
  clear hg
  go_enter Tryz.func71, Tryz.ntmps71
  go_wp2_with (go_at_call 42; refine (chk14_no _ _ _ _ _ HG.out _).mono ?_; rintro e w1 ⟨rfl, hb1⟩; obtain ⟨hc1, hf1⟩ := bcell hb1)
  go_ret2
  exact ⟨rfl, below_alloc_l hb1⟩
set_option maxRecDepth 100000 in
set_option maxHeartbeats 1000000 in
theorem words17_good (C N S K Q : Int) (hg : good C N S K Q) (w : World) :
    Calls Tryz.prog 71 #[.agg #[.int .i64 C, .int .i64 N, .int .i64 S, .int .i64 K, .int .i64 Q]] w fun e w' => e = .returned (.tuple #[.int .i64 (1 + S + N * C), .int .i64 0]) ∧ Below w.heap.size w w' := by
  have HG := Lib.hid hg
  obtain ⟨c0, c1, n0, n1, s0, s1, k0, k1, q0, q1⟩ := hg
  have m := mul_range (show 0 ≤ N by omega) n1 (show 0 ≤ C by omega) c1
  obtain ⟨m0, m1⟩ := m
  simp only [Int.reduceMul] at m1
  go_enter Tryz.func71, Tryz.ntmps71
  go_wp2_with (go_at_call 42; refine (chk14_yes _ _ _ _ _ HG.out _).mono ?_; rintro e w1 ⟨rfl, hb1⟩; obtain ⟨hc1, hf1⟩ := bcell hb1)
  go_ret2
  exact ⟨rfl, below_alloc_l hb1⟩
set_option maxRecDepth 100000 in
set_option maxHeartbeats 1000000 in
theorem words16_good (C N S K Q : Int) (hg : good C N S K Q) (w : World) :
    Calls Tryz.prog 125 #[.agg #[.int .i64 C, .int .i64 N, .int .i64 S, .int .i64 K, .int .i64 Q]] w fun e w' => e = .returned (.tuple #[.int .i64 (1 + S + N * C), .int .i64 0]) ∧ Below w.heap.size w w' := by
  have HG := Lib.hid hg
  obtain ⟨c0, c1, n0, n1, s0, s1, k0, k1, q0, q1⟩ := hg
  have m := mul_range (show 0 ≤ N by omega) n1 (show 0 ≤ C by omega) c1
  obtain ⟨m0, m1⟩ := m
  simp only [Int.reduceMul] at m1
  have s2 : 0 ≤ S := by omega
  have wq1 : IntKind.i64.wrap (1 + S + N * C) = 1 + S + N * C := IntWalk.i64_in _ (by omega)
  go_enter Tryz.func125, Tryz.ntmps125
  go_wp2_with (go_at_call 40; refine (chk13_good _ _ _ _ _ HG.out _).mono ?_; rintro e w1 ⟨rfl, hb1⟩; obtain ⟨hc1, hf1⟩ := bcell hb1; have hz1 : w.heap.size < w1.heap.size := Nat.lt_of_lt_of_le (by simp) hb1.size)
  go_region_with (first
    | (go_at_call 104; refine (first39 _ _ _ _ _ (by assumption) (by assumption) _).mono ?_; rintro e w2 ⟨rfl, rfl⟩)
    | (go_at_call 136; refine (heap40 _ _ _ _ _ (by assumption) (by assumption) _).mono ?_; rintro e w3 ⟨rfl, rfl⟩))
  all_goals go_wp2
  all_goals go_ret2
  all_goals refine ⟨rfl, ?_⟩
  all_goals have hB := below_alloc_l hb1
  all_goals clear wq1
  all_goals (repeat (first | exact hB | refine Below.drew ?_ | (refine Below.alloc ?_ (by first | omega | (simp; omega)) _)))
theorem words16 (C N S K Q : Int) (w : World) :
    Calls Tryz.prog 125 #[.agg #[.int .i64 C, .int .i64 N, .int .i64 S, .int .i64 K, .int .i64 Q]] w fun e w' => e = .returned (.tuple #[.int .i64 (wordsR C N S K Q), .int .i64 (chkE C N S K Q)]) ∧ Below w.heap.size w w' := by
  unfold wordsR chkE
  by_cases hg : good C N S K Q
  · rw [if_pos hg, if_pos hg]; exact words16_good C N S K Q hg w
  · rw [if_neg hg, if_neg hg]; exact words16_bad C N S K Q hg w
theorem words17 (C N S K Q : Int) (w : World) :
    Calls Tryz.prog 71 #[.agg #[.int .i64 C, .int .i64 N, .int .i64 S, .int .i64 K, .int .i64 Q]] w fun e w' => e = .returned (.tuple #[.int .i64 (wordsR C N S K Q), .int .i64 (chkE C N S K Q)]) ∧ Below w.heap.size w w' := by
  unfold wordsR chkE
  by_cases hg : good C N S K Q
  · rw [if_pos hg, if_pos hg]; exact words17_good C N S K Q hg w
  · rw [if_neg hg, if_neg hg]; exact words17_bad C N S K Q hg w
end Cf
end YtjkphacidpongaaGreat
end Go.Proofs
/- Bound, both of them. -/
namespace Go.Proofs
namespace YtjkphacidpongaaGreat
namespace Cf
open Go.RowKit

theorem box_alloc {w W : World} {C N S K Q : Int} (h : W.cell? ⟨w.heap.size, 0, none⟩ = some (.int .i64 C) ∧ W.cell? ⟨w.heap.size, 1, none⟩ = some (.int .i64 N) ∧ W.cell? ⟨w.heap.size, 2, none⟩ = some (.int .i64 S) ∧ W.cell? ⟨w.heap.size, 3, none⟩ = some (.int .i64 K) ∧ W.cell? ⟨w.heap.size, 4, none⟩ = some (.int .i64 Q) ∧ w.heap.size < W.heap.size ∧ Below w.heap.size w W) (o : Obj) :
    (W.alloc o).cell? ⟨w.heap.size, 0, none⟩ = some (.int .i64 C) ∧ (W.alloc o).cell? ⟨w.heap.size, 1, none⟩ = some (.int .i64 N) ∧ (W.alloc o).cell? ⟨w.heap.size, 2, none⟩ = some (.int .i64 S) ∧ (W.alloc o).cell? ⟨w.heap.size, 3, none⟩ = some (.int .i64 K) ∧ (W.alloc o).cell? ⟨w.heap.size, 4, none⟩ = some (.int .i64 Q) ∧ w.heap.size < (W.alloc o).heap.size ∧ Below w.heap.size w (W.alloc o) := by
  obtain ⟨h0, h1, h2, h3, h4, hz, hB⟩ := h
  have e : ∀ i, (W.alloc o).cell? ⟨w.heap.size, i, none⟩ = W.cell? ⟨w.heap.size, i, none⟩ := fun i => World.cell?_alloc_past o _ _ hz
  exact ⟨by rw [e, h0], by rw [e, h1], by rw [e, h2], by rw [e, h3], by rw [e, h4], by simp; omega, hB.alloc (by omega) _⟩
theorem box_alloc_drew {w W : World} {C N S K Q : Int} (h : W.cell? ⟨w.heap.size, 0, none⟩ = some (.int .i64 C) ∧ W.cell? ⟨w.heap.size, 1, none⟩ = some (.int .i64 N) ∧ W.cell? ⟨w.heap.size, 2, none⟩ = some (.int .i64 S) ∧ W.cell? ⟨w.heap.size, 3, none⟩ = some (.int .i64 K) ∧ W.cell? ⟨w.heap.size, 4, none⟩ = some (.int .i64 Q) ∧ w.heap.size < W.heap.size ∧ Below w.heap.size w W) (o : Obj) :
    (W.alloc o).drew.cell? ⟨w.heap.size, 0, none⟩ = some (.int .i64 C) ∧ (W.alloc o).drew.cell? ⟨w.heap.size, 1, none⟩ = some (.int .i64 N) ∧ (W.alloc o).drew.cell? ⟨w.heap.size, 2, none⟩ = some (.int .i64 S) ∧ (W.alloc o).drew.cell? ⟨w.heap.size, 3, none⟩ = some (.int .i64 K) ∧ (W.alloc o).drew.cell? ⟨w.heap.size, 4, none⟩ = some (.int .i64 Q) ∧ w.heap.size < (W.alloc o).drew.heap.size ∧ Below w.heap.size w (W.alloc o).drew :=
  have h' := box_alloc h o
  ⟨h'.1, h'.2.1, h'.2.2.1, h'.2.2.2.1, h'.2.2.2.2.1, h'.2.2.2.2.2.1, h'.2.2.2.2.2.2.drew⟩
end Cf
end YtjkphacidpongaaGreat
end Go.Proofs
/- The laws ConfigChecks and ConfigSums. -/
namespace Go.Proofs
namespace YtjkphacidpongaaGreat
namespace Cf
open Go.RowKit

theorem box_below {w W W' : World} {C N S K Q : Int} (h : W.cell? ⟨w.heap.size, 0, none⟩ = some (.int .i64 C) ∧ W.cell? ⟨w.heap.size, 1, none⟩ = some (.int .i64 N) ∧ W.cell? ⟨w.heap.size, 2, none⟩ = some (.int .i64 S) ∧ W.cell? ⟨w.heap.size, 3, none⟩ = some (.int .i64 K) ∧ W.cell? ⟨w.heap.size, 4, none⟩ = some (.int .i64 Q) ∧ w.heap.size < W.heap.size ∧ Below w.heap.size w W) (hb : Below W.heap.size W W') :
    W'.cell? ⟨w.heap.size, 0, none⟩ = some (.int .i64 C) ∧ W'.cell? ⟨w.heap.size, 1, none⟩ = some (.int .i64 N) ∧ W'.cell? ⟨w.heap.size, 2, none⟩ = some (.int .i64 S) ∧ W'.cell? ⟨w.heap.size, 3, none⟩ = some (.int .i64 K) ∧ W'.cell? ⟨w.heap.size, 4, none⟩ = some (.int .i64 Q) ∧ w.heap.size < W'.heap.size ∧ Below w.heap.size w W' := by
  obtain ⟨h0, h1, h2, h3, h4, hz, hB⟩ := h
  have e : ∀ i, W'.cell? ⟨w.heap.size, i, none⟩ = W.cell? ⟨w.heap.size, i, none⟩ := fun i => hb.cell (p := ⟨w.heap.size, i, none⟩) hz
  exact ⟨by rw [e, h0], by rw [e, h1], by rw [e, h2], by rw [e, h3], by rw [e, h4], Nat.lt_of_lt_of_le hz hb.size, hB.trans (hb.mono hB.size)⟩
theorem box_new (w : World) (C N S K Q : Int) : (w.alloc (.cells #[.int .i64 C, .int .i64 N, .int .i64 S, .int .i64 K, .int .i64 Q] 23)).cell? ⟨w.heap.size, 0, none⟩ = some (.int .i64 C) ∧ (w.alloc (.cells #[.int .i64 C, .int .i64 N, .int .i64 S, .int .i64 K, .int .i64 Q] 23)).cell? ⟨w.heap.size, 1, none⟩ = some (.int .i64 N) ∧ (w.alloc (.cells #[.int .i64 C, .int .i64 N, .int .i64 S, .int .i64 K, .int .i64 Q] 23)).cell? ⟨w.heap.size, 2, none⟩ = some (.int .i64 S) ∧ (w.alloc (.cells #[.int .i64 C, .int .i64 N, .int .i64 S, .int .i64 K, .int .i64 Q] 23)).cell? ⟨w.heap.size, 3, none⟩ = some (.int .i64 K) ∧ (w.alloc (.cells #[.int .i64 C, .int .i64 N, .int .i64 S, .int .i64 K, .int .i64 Q] 23)).cell? ⟨w.heap.size, 4, none⟩ = some (.int .i64 Q) ∧ w.heap.size < (w.alloc (.cells #[.int .i64 C, .int .i64 N, .int .i64 S, .int .i64 K, .int .i64 Q] 23)).heap.size ∧ Below w.heap.size w (w.alloc (.cells #[.int .i64 C, .int .i64 N, .int .i64 S, .int .i64 K, .int .i64 Q] 23)) :=
  ⟨by simp, by simp, by simp, by simp, by simp, by simp, (Below.refl _ _).alloc (Nat.le_refl _) _⟩
theorem box_drew {w W : World} {C N S K Q : Int} (h : W.cell? ⟨w.heap.size, 0, none⟩ = some (.int .i64 C) ∧ W.cell? ⟨w.heap.size, 1, none⟩ = some (.int .i64 N) ∧ W.cell? ⟨w.heap.size, 2, none⟩ = some (.int .i64 S) ∧ W.cell? ⟨w.heap.size, 3, none⟩ = some (.int .i64 K) ∧ W.cell? ⟨w.heap.size, 4, none⟩ = some (.int .i64 Q) ∧ w.heap.size < W.heap.size ∧ Below w.heap.size w W) : W.drew.cell? ⟨w.heap.size, 0, none⟩ = some (.int .i64 C) ∧ W.drew.cell? ⟨w.heap.size, 1, none⟩ = some (.int .i64 N) ∧ W.drew.cell? ⟨w.heap.size, 2, none⟩ = some (.int .i64 S) ∧ W.drew.cell? ⟨w.heap.size, 3, none⟩ = some (.int .i64 K) ∧ W.drew.cell? ⟨w.heap.size, 4, none⟩ = some (.int .i64 Q) ∧ w.heap.size < W.drew.heap.size ∧ Below w.heap.size w W.drew :=
  ⟨h.1, h.2.1, h.2.2.1, h.2.2.2.1, h.2.2.2.2.1, h.2.2.2.2.2.1, h.2.2.2.2.2.2.drew⟩

end Cf
end YtjkphacidpongaaGreat
end Go.Proofs
