/- Address, both of them. -/
import Derived.Test.YtoebnjciioiccaaDoorSpace
namespace Go.Proofs
namespace YtoebnjciioiccaaDoor
open Go.RowKit

def addrOk (C N S K Q car off : Int) : Prop := (good C N S K Q ∧ inCar N car) ∧ 0 ≤ off ∧ off < endV C S car - startV C S car
instance (C N S K Q car off : Int) : Decidable (addrOk C N S K Q car off) := by unfold addrOk; infer_instance
def addrR (C N S K Q car off : Int) : Int := if addrOk C N S K Q car off then startV C S car + off else 0
def addrE (C N S K Q car off : Int) : Int := if addrOk C N S K Q car off then 0 else 7
theorem start_range (C N S K Q car : Int) (hg : good C N S K Q) (hc : inCar N car) : 1 ≤ startV C S car ∧ startV C S car < endV C S car ∧ endV C S car ≤ 2000 := by
  obtain ⟨c0, c1, n0, n1, s0, s1, k0, k1, q0, q1⟩ := hg
  obtain ⟨h0, h1⟩ := hc
  unfold startV endV
  by_cases h : car < 0
  · rw [if_pos h, if_pos h]; omega
  · rw [if_neg h, if_neg h]
    have m := mul_range (show 0 ≤ car by omega) (show car ≤ 23 by omega) (show 0 ≤ C by omega) c1
    obtain ⟨m0, m1⟩ := m
    simp only [Int.reduceMul] at m1
    omega
theorem space24_in (C N S K Q car : Int) (h : good C N S K Q ∧ inCar N car) (w : World) :
    Calls Tryd.prog 24 #[.agg #[.int .i64 C, .int .i64 N, .int .i64 S, .int .i64 K, .int .i64 Q], .int .i64 car] w fun e w' => e = .returned (.tuple #[.int .i64 (startV C S car), .int .i64 (endV C S car), .int .i64 0]) ∧ Below w.heap.size w w' := by
  have H := space24 C N S K Q car w
  unfold spaceS spaceT spaceE at H
  rwa [if_pos h, if_pos h, if_pos h] at H
theorem space24_no (C N S K Q car : Int) (h : ¬ (good C N S K Q ∧ inCar N car)) (w : World) :
    Calls Tryd.prog 24 #[.agg #[.int .i64 C, .int .i64 N, .int .i64 S, .int .i64 K, .int .i64 Q], .int .i64 car] w fun e w' => e = .returned (.tuple #[.int .i64 0, .int .i64 0, .int .i64 7]) ∧ Below w.heap.size w w' := by
  have H := space24 C N S K Q car w
  unfold spaceS spaceT spaceE at H
  rwa [if_neg h, if_neg h, if_neg h] at H
theorem space25_in (C N S K Q car : Int) (h : good C N S K Q ∧ inCar N car) (w : World) :
    Calls Tryd.prog 25 #[.agg #[.int .i64 C, .int .i64 N, .int .i64 S, .int .i64 K, .int .i64 Q], .int .i64 car] w fun e w' => e = .returned (.tuple #[.int .i64 (startV C S car), .int .i64 (endV C S car), .int .i64 0]) ∧ Below w.heap.size w w' := by
  have H := space25 C N S K Q car w
  unfold spaceS spaceT spaceE at H
  rwa [if_pos h, if_pos h, if_pos h] at H
theorem space25_no (C N S K Q car : Int) (h : ¬ (good C N S K Q ∧ inCar N car)) (w : World) :
    Calls Tryd.prog 25 #[.agg #[.int .i64 C, .int .i64 N, .int .i64 S, .int .i64 K, .int .i64 Q], .int .i64 car] w fun e w' => e = .returned (.tuple #[.int .i64 0, .int .i64 0, .int .i64 7]) ∧ Below w.heap.size w w' := by
  have H := space25 C N S K Q car w
  unfold spaceS spaceT spaceE at H
  rwa [if_neg h, if_neg h, if_neg h] at H
set_option maxRecDepth 100000 in
set_option maxHeartbeats 1000000 in
theorem addr30_no (C N S K Q car off : Int) (hs : Hid (∀ W : World, Calls Tryd.prog 24 #[.agg #[.int .i64 C, .int .i64 N, .int .i64 S, .int .i64 K, .int .i64 Q], .int .i64 car] W fun e w' => e = .returned (.tuple #[.int .i64 0, .int .i64 0, .int .i64 7]) ∧ Below W.heap.size W w'))  (w : World) :
    Calls Tryd.prog 30 #[.agg #[.int .i64 C, .int .i64 N, .int .i64 S, .int .i64 K, .int .i64 Q], .int .i64 car, .int .i64 off] w fun e w' => e = .returned (.tuple #[.int .i64 0, .int .i64 7]) ∧ Below w.heap.size w w' := by
  go_enter Tryd.func30, Tryd.ntmps30
  go_wp2_with (first
    | (go_at_call 24; refine (hs.out _).mono ?_; rintro e w1 ⟨rfl, hb1⟩; obtain ⟨hc1, hf1⟩ := bcell hb1))
  go_ret2
  exact ⟨rfl, below_alloc_l hb1⟩
set_option maxRecDepth 100000 in
set_option maxHeartbeats 1000000 in
theorem addr31_no (C N S K Q car off : Int) (hs : Hid (∀ W : World, Calls Tryd.prog 25 #[.agg #[.int .i64 C, .int .i64 N, .int .i64 S, .int .i64 K, .int .i64 Q], .int .i64 car] W fun e w' => e = .returned (.tuple #[.int .i64 0, .int .i64 0, .int .i64 7]) ∧ Below W.heap.size W w'))  (w : World) :
    Calls Tryd.prog 31 #[.agg #[.int .i64 C, .int .i64 N, .int .i64 S, .int .i64 K, .int .i64 Q], .int .i64 car, .int .i64 off] w fun e w' => e = .returned (.tuple #[.int .i64 0, .int .i64 7]) ∧ Below w.heap.size w w' := by
  go_enter Tryd.func31, Tryd.ntmps31
  go_wp2_with (first
    | (go_at_call 25; refine (hs.out _).mono ?_; rintro e w1 ⟨rfl, hb1⟩; obtain ⟨hc1, hf1⟩ := bcell hb1))
  go_ret2
  exact ⟨rfl, below_alloc_l hb1⟩
set_option maxRecDepth 100000 in
set_option maxHeartbeats 1000000 in
theorem addr30_low (C N S K Q car off p q : Int) (hs : Hid (∀ W : World, Calls Tryd.prog 24 #[.agg #[.int .i64 C, .int .i64 N, .int .i64 S, .int .i64 K, .int .i64 Q], .int .i64 car] W fun e w' => e = .returned (.tuple #[.int .i64 p, .int .i64 q, .int .i64 0]) ∧ Below W.heap.size W w')) (p0 : 1 ≤ p) (p1 : p < q) (p2 : q ≤ 2000) (h : off < 0) (w : World) :
    Calls Tryd.prog 30 #[.agg #[.int .i64 C, .int .i64 N, .int .i64 S, .int .i64 K, .int .i64 Q], .int .i64 car, .int .i64 off] w fun e w' => e = .returned (.tuple #[.int .i64 0, .int .i64 7]) ∧ Below w.heap.size w w' := by
  have q1 : decide (off < 0) = true := decide_eq_true h
  go_enter Tryd.func30, Tryd.ntmps30
  go_wp2_with (first
    | (go_at_call 24; refine (hs.out _).mono ?_; rintro e w1 ⟨rfl, hb1⟩; obtain ⟨hc1, hf1⟩ := bcell hb1))
  go_ret2
  exact ⟨rfl, below_alloc_l hb1⟩
set_option maxRecDepth 100000 in
set_option maxHeartbeats 1000000 in
theorem addr30_high (C N S K Q car off p q : Int) (hs : Hid (∀ W : World, Calls Tryd.prog 24 #[.agg #[.int .i64 C, .int .i64 N, .int .i64 S, .int .i64 K, .int .i64 Q], .int .i64 car] W fun e w' => e = .returned (.tuple #[.int .i64 p, .int .i64 q, .int .i64 0]) ∧ Below W.heap.size W w')) (p0 : 1 ≤ p) (p1 : p < q) (p2 : q ≤ 2000) (h : q - p ≤ off) (w : World) :
    Calls Tryd.prog 30 #[.agg #[.int .i64 C, .int .i64 N, .int .i64 S, .int .i64 K, .int .i64 Q], .int .i64 car, .int .i64 off] w fun e w' => e = .returned (.tuple #[.int .i64 0, .int .i64 7]) ∧ Below w.heap.size w w' := by
  have q1 : decide (off < 0) = false := decide_eq_false (by omega)
  have q2 : decide (q - p ≤ off) = true := decide_eq_true h
  go_enter Tryd.func30, Tryd.ntmps30
  go_wp2_with (first
    | (go_at_call 24; refine (hs.out _).mono ?_; rintro e w1 ⟨rfl, hb1⟩; obtain ⟨hc1, hf1⟩ := bcell hb1))
  go_ret2
  exact ⟨rfl, below_alloc_l hb1⟩
set_option maxRecDepth 100000 in
set_option maxHeartbeats 1000000 in
theorem addr30_in (C N S K Q car off p q : Int) (hs : Hid (∀ W : World, Calls Tryd.prog 24 #[.agg #[.int .i64 C, .int .i64 N, .int .i64 S, .int .i64 K, .int .i64 Q], .int .i64 car] W fun e w' => e = .returned (.tuple #[.int .i64 p, .int .i64 q, .int .i64 0]) ∧ Below W.heap.size W w')) (p0 : 1 ≤ p) (p1 : p < q) (p2 : q ≤ 2000) (h0 : 0 ≤ off) (h1 : off < q - p) (w : World) :
    Calls Tryd.prog 30 #[.agg #[.int .i64 C, .int .i64 N, .int .i64 S, .int .i64 K, .int .i64 Q], .int .i64 car, .int .i64 off] w fun e w' => e = .returned (.tuple #[.int .i64 (p + off), .int .i64 0]) ∧ Below w.heap.size w w' := by
  have q1 : decide (off < 0) = false := decide_eq_false (by omega)
  have q2 : decide (q - p ≤ off) = false := decide_eq_false (by omega)
  go_enter Tryd.func30, Tryd.ntmps30
  go_wp2_with (first
    | (go_at_call 24; refine (hs.out _).mono ?_; rintro e w1 ⟨rfl, hb1⟩; obtain ⟨hc1, hf1⟩ := bcell hb1))
  go_ret2
  exact ⟨rfl, below_alloc_l hb1⟩
set_option maxRecDepth 100000 in
set_option maxHeartbeats 1000000 in
theorem addr31_out (C N S K Q car off p q : Int) (hs : Hid (∀ W : World, Calls Tryd.prog 25 #[.agg #[.int .i64 C, .int .i64 N, .int .i64 S, .int .i64 K, .int .i64 Q], .int .i64 car] W fun e w' => e = .returned (.tuple #[.int .i64 p, .int .i64 q, .int .i64 0]) ∧ Below W.heap.size W w')) (p0 : 1 ≤ p) (p1 : p < q) (p2 : q ≤ 2000) (h : off < 0 ∨ q - p - 1 < off) (w : World) :
    Calls Tryd.prog 31 #[.agg #[.int .i64 C, .int .i64 N, .int .i64 S, .int .i64 K, .int .i64 Q], .int .i64 car, .int .i64 off] w fun e w' => e = .returned (.tuple #[.int .i64 0, .int .i64 7]) ∧ Below w.heap.size w w' := by
  go_enter Tryd.func31, Tryd.ntmps31
  go_wp2_with (first
    | (go_at_call 25; refine (hs.out _).mono ?_; rintro e w1 ⟨rfl, hb1⟩; obtain ⟨hc1, hf1⟩ := bcell hb1)
    | (go_at_call 37; refine (in37_no _ _ _ (by omega) _).mono ?_; rintro e w' ⟨rfl, rfl⟩))
  go_ret2
  exact ⟨rfl, below_alloc_l hb1⟩
set_option maxRecDepth 100000 in
set_option maxHeartbeats 1000000 in
theorem addr31_in (C N S K Q car off p q : Int) (hs : Hid (∀ W : World, Calls Tryd.prog 25 #[.agg #[.int .i64 C, .int .i64 N, .int .i64 S, .int .i64 K, .int .i64 Q], .int .i64 car] W fun e w' => e = .returned (.tuple #[.int .i64 p, .int .i64 q, .int .i64 0]) ∧ Below W.heap.size W w')) (p0 : 1 ≤ p) (p1 : p < q) (p2 : q ≤ 2000) (h0 : 0 ≤ off) (h1 : off < q - p) (w : World) :
    Calls Tryd.prog 31 #[.agg #[.int .i64 C, .int .i64 N, .int .i64 S, .int .i64 K, .int .i64 Q], .int .i64 car, .int .i64 off] w fun e w' => e = .returned (.tuple #[.int .i64 (p + off), .int .i64 0]) ∧ Below w.heap.size w w' := by
  go_enter Tryd.func31, Tryd.ntmps31
  go_wp2_with (first
    | (go_at_call 25; refine (hs.out _).mono ?_; rintro e w1 ⟨rfl, hb1⟩; obtain ⟨hc1, hf1⟩ := bcell hb1)
    | (go_at_call 37; refine (in37_yes _ _ _ (by omega) (by omega) _).mono ?_; rintro e w' ⟨rfl, rfl⟩))
  go_ret2
  exact ⟨rfl, below_alloc_l hb1⟩
theorem addr30 (C N S K Q car off : Int) (w : World) :
    Calls Tryd.prog 30 #[.agg #[.int .i64 C, .int .i64 N, .int .i64 S, .int .i64 K, .int .i64 Q], .int .i64 car, .int .i64 off] w fun e w' => e = .returned (.tuple #[.int .i64 (addrR C N S K Q car off), .int .i64 (addrE C N S K Q car off)]) ∧ Below w.heap.size w w' := by
  unfold addrR addrE
  by_cases hc : good C N S K Q ∧ inCar N car
  · have r := start_range C N S K Q car hc.1 hc.2
    by_cases ho : 0 ≤ off ∧ off < endV C S car - startV C S car
    · have hy : addrOk C N S K Q car off := ⟨hc, ho⟩
      rw [if_pos hy, if_pos hy]
      exact addr30_in C N S K Q car off _ _ (Lib.hid (space24_in C N S K Q car hc)) r.1 r.2.1 r.2.2 ho.1 ho.2 w
    · have hn : ¬ addrOk C N S K Q car off := fun h => ho h.2
      rw [if_neg hn, if_neg hn]
      · rcases Int.lt_or_le off 0 with h | h
        · exact addr30_low C N S K Q car off _ _ (Lib.hid (space24_in C N S K Q car hc)) r.1 r.2.1 r.2.2 h w
        · exact addr30_high C N S K Q car off _ _ (Lib.hid (space24_in C N S K Q car hc)) r.1 r.2.1 r.2.2 (by omega) w
  · have hn : ¬ addrOk C N S K Q car off := fun h => hc h.1
    rw [if_neg hn, if_neg hn]
    exact addr30_no C N S K Q car off (Lib.hid (space24_no C N S K Q car hc)) w
theorem addr31 (C N S K Q car off : Int) (w : World) :
    Calls Tryd.prog 31 #[.agg #[.int .i64 C, .int .i64 N, .int .i64 S, .int .i64 K, .int .i64 Q], .int .i64 car, .int .i64 off] w fun e w' => e = .returned (.tuple #[.int .i64 (addrR C N S K Q car off), .int .i64 (addrE C N S K Q car off)]) ∧ Below w.heap.size w w' := by
  unfold addrR addrE
  by_cases hc : good C N S K Q ∧ inCar N car
  · have r := start_range C N S K Q car hc.1 hc.2
    by_cases ho : 0 ≤ off ∧ off < endV C S car - startV C S car
    · have hy : addrOk C N S K Q car off := ⟨hc, ho⟩
      rw [if_pos hy, if_pos hy]
      exact addr31_in C N S K Q car off _ _ (Lib.hid (space25_in C N S K Q car hc)) r.1 r.2.1 r.2.2 ho.1 ho.2 w
    · have hn : ¬ addrOk C N S K Q car off := fun h => ho h.2
      rw [if_neg hn, if_neg hn]
      · exact addr31_out C N S K Q car off _ _ (Lib.hid (space25_in C N S K Q car hc)) r.1 r.2.1 r.2.2 (by omega) w
  · have hn : ¬ addrOk C N S K Q car off := fun h => hc h.1
    rw [if_neg hn, if_neg hn]
    exact addr31_no C N S K Q car off (Lib.hid (space25_no C N S K Q car hc)) w
end YtoebnjciioiccaaDoor
end Go.Proofs
