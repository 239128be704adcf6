/- The laws ConfigChecks and ConfigSums. -/
import Derived.Test.YtoebnjciioiccaaDoorPrn
import Derived.Test.YtoebnjciioiccaaDoorFits
import Derived.Test.YtoebnjciioiccaaDoorSumB
import Derived.Test.YtoebnjciioiccaaDoorSumC
namespace Go.Proofs
namespace YtoebnjciioiccaaDoor
open Go.RowKit

theorem box_below {w W W' : World} {C N S K Q : Int} (h : W.cell? ⟨w.heap.size, 0, none⟩ = some (.int .i64 C) ∧ W.cell? ⟨w.heap.size, 1, none⟩ = some (.int .i64 N) ∧ W.cell? ⟨w.heap.size, 2, none⟩ = some (.int .i64 S) ∧ W.cell? ⟨w.heap.size, 3, none⟩ = some (.int .i64 K) ∧ W.cell? ⟨w.heap.size, 4, none⟩ = some (.int .i64 Q) ∧ w.heap.size < W.heap.size ∧ Below w.heap.size w W) (hb : Below W.heap.size W W') :
    W'.cell? ⟨w.heap.size, 0, none⟩ = some (.int .i64 C) ∧ W'.cell? ⟨w.heap.size, 1, none⟩ = some (.int .i64 N) ∧ W'.cell? ⟨w.heap.size, 2, none⟩ = some (.int .i64 S) ∧ W'.cell? ⟨w.heap.size, 3, none⟩ = some (.int .i64 K) ∧ W'.cell? ⟨w.heap.size, 4, none⟩ = some (.int .i64 Q) ∧ w.heap.size < W'.heap.size ∧ Below w.heap.size w W' := by
  obtain ⟨h0, h1, h2, h3, h4, hz, hB⟩ := h
  have e : ∀ i, W'.cell? ⟨w.heap.size, i, none⟩ = W.cell? ⟨w.heap.size, i, none⟩ := fun i => hb.cell (p := ⟨w.heap.size, i, none⟩) hz
  exact ⟨by rw [e, h0], by rw [e, h1], by rw [e, h2], by rw [e, h3], by rw [e, h4], Nat.lt_of_lt_of_le hz hb.size, hB.trans (hb.mono hB.size)⟩
theorem box_new (w : World) (C N S K Q : Int) : (w.alloc (.cells #[.int .i64 C, .int .i64 N, .int .i64 S, .int .i64 K, .int .i64 Q] 23)).cell? ⟨w.heap.size, 0, none⟩ = some (.int .i64 C) ∧ (w.alloc (.cells #[.int .i64 C, .int .i64 N, .int .i64 S, .int .i64 K, .int .i64 Q] 23)).cell? ⟨w.heap.size, 1, none⟩ = some (.int .i64 N) ∧ (w.alloc (.cells #[.int .i64 C, .int .i64 N, .int .i64 S, .int .i64 K, .int .i64 Q] 23)).cell? ⟨w.heap.size, 2, none⟩ = some (.int .i64 S) ∧ (w.alloc (.cells #[.int .i64 C, .int .i64 N, .int .i64 S, .int .i64 K, .int .i64 Q] 23)).cell? ⟨w.heap.size, 3, none⟩ = some (.int .i64 K) ∧ (w.alloc (.cells #[.int .i64 C, .int .i64 N, .int .i64 S, .int .i64 K, .int .i64 Q] 23)).cell? ⟨w.heap.size, 4, none⟩ = some (.int .i64 Q) ∧ w.heap.size < (w.alloc (.cells #[.int .i64 C, .int .i64 N, .int .i64 S, .int .i64 K, .int .i64 Q] 23)).heap.size ∧ Below w.heap.size w (w.alloc (.cells #[.int .i64 C, .int .i64 N, .int .i64 S, .int .i64 K, .int .i64 Q] 23)) :=
  ⟨by simp, by simp, by simp, by simp, by simp, by simp, (Below.refl _ _).alloc (Nat.le_refl _) _⟩
theorem box_drew {w W : World} {C N S K Q : Int} (h : W.cell? ⟨w.heap.size, 0, none⟩ = some (.int .i64 C) ∧ W.cell? ⟨w.heap.size, 1, none⟩ = some (.int .i64 N) ∧ W.cell? ⟨w.heap.size, 2, none⟩ = some (.int .i64 S) ∧ W.cell? ⟨w.heap.size, 3, none⟩ = some (.int .i64 K) ∧ W.cell? ⟨w.heap.size, 4, none⟩ = some (.int .i64 Q) ∧ w.heap.size < W.heap.size ∧ Below w.heap.size w W) : W.drew.cell? ⟨w.heap.size, 0, none⟩ = some (.int .i64 C) ∧ W.drew.cell? ⟨w.heap.size, 1, none⟩ = some (.int .i64 N) ∧ W.drew.cell? ⟨w.heap.size, 2, none⟩ = some (.int .i64 S) ∧ W.drew.cell? ⟨w.heap.size, 3, none⟩ = some (.int .i64 K) ∧ W.drew.cell? ⟨w.heap.size, 4, none⟩ = some (.int .i64 Q) ∧ w.heap.size < W.drew.heap.size ∧ Below w.heap.size w W.drew :=
  ⟨h.1, h.2.1, h.2.2.1, h.2.2.2.1, h.2.2.2.2.1, h.2.2.2.2.2.1, h.2.2.2.2.2.2.drew⟩

set_option maxRecDepth 100000 in
set_option maxHeartbeats 2000000 in
theorem checks3 (C N S K Q n : Int) (w : World) :
    Calls Tryd.prog 3 #[.agg #[.int .i64 C, .int .i64 N, .int .i64 S, .int .i64 K, .int .i64 Q], .int .i64 n] w fun e w' => e = .returned (.bool true) ∧ Below w.heap.size w w' := by
  have F11 := Lib.hid (fits11 C N S K Q n)
  have F12 := Lib.hid (fits12 C N S K Q n)
  have C13 := Lib.hid (chk13 C N S K Q)
  have C14 := Lib.hid (chk14 C N S K Q)
  have s0 := Lib.hid (box_new w C N S K Q)
  generalize fitsR C N S K Q n = F at *
  generalize chkE C N S K Q = E at *
  go_enter Tryd.func3, Tryd.ntmps3
  go_wp2_with (first
    | (go_at_call 11; refine (F11.out _).mono ?_; rintro e w1 ⟨rfl, hb1⟩; have s1 := Lib.hid (box_below s0.out hb1); obtain ⟨hc1, hf1⟩ := bcell hb1; have z1 := s1.out.2.2.2.2.2.1)
    | (go_at_call 12; refine (F12.out _).mono ?_; rintro e w2 ⟨rfl, hb2⟩; have s2 := Lib.hid (box_below s1.out hb2); obtain ⟨hc2, hf2⟩ := bcell hb2; have z2 := s2.out.2.2.2.2.2.1))
  clear hc1 hf1 hc2 hf2 hb1 hb2
  go_region_held3 (fun W => W.cell? ⟨w.heap.size, 0, none⟩ = some (.int .i64 C) ∧ W.cell? ⟨w.heap.size, 1, none⟩ = some (.int .i64 N) ∧ W.cell? ⟨w.heap.size, 2, none⟩ = some (.int .i64 S) ∧ W.cell? ⟨w.heap.size, 3, none⟩ = some (.int .i64 K) ∧ W.cell? ⟨w.heap.size, 4, none⟩ = some (.int .i64 Q) ∧ w.heap.size < W.heap.size ∧ Below w.heap.size w W) (first | exact box_drew s2.out | exact s3.out | exact s4.out | exact s5.out)
    (first
      | (go_at_call 13; refine (C13.out _).mono ?_; rintro e w3 ⟨rfl, hb3⟩; have s3 := Lib.hid (box_below s2.out (below_drew_l hb3)))
      | (go_at_call 14; refine (C14.out _).mono ?_; rintro e w4 ⟨rfl, hb4⟩; have s4 := Lib.hid (box_below s3.out hb4))
      | (go_at_call 15; refine (awake15 _).mono ?_; rintro e w5 ⟨rfl, hb5⟩; have s5 := Lib.hid (box_below s4.out hb5)))
  go_wp2
  go_ret
  exact ⟨rfl, s5.out.2.2.2.2.2.2⟩

set_option maxRecDepth 100000 in
set_option maxHeartbeats 2000000 in
theorem sums4 (C N S K Q : Int) (w : World) :
    Calls Tryd.prog 4 #[.agg #[.int .i64 C, .int .i64 N, .int .i64 S, .int .i64 K, .int .i64 Q]] w fun e w' => e = .returned (.bool true) ∧ Below w.heap.size w w' := by
  have F16 := Lib.hid (words16 C N S K Q)
  have F17 := Lib.hid (words17 C N S K Q)
  have F18 := Lib.hid (largest18 C N S K Q)
  have F19 := Lib.hid (largest19 C N S K Q)
  have F20 := Lib.hid (budget20 C N S K Q)
  have F21 := Lib.hid (budget21 C N S K Q)
  have F22 := Lib.hid (bound22 C N S K Q)
  have F23 := Lib.hid (bound23 C N S K Q)
  have s0 := Lib.hid (box_new w C N S K Q)
  generalize wordsR C N S K Q = RW at *
  generalize largestR C N S K Q = RL at *
  generalize budgetR C N S K Q = RB at *
  generalize boundR C N S K Q = RD at *
  generalize chkE C N S K Q = E at *
  go_enter Tryd.func4, Tryd.ntmps4
  go_wp2_with (first
    | (go_at_call 16; refine (F16.out _).mono ?_; rintro e w1 ⟨rfl, hb1⟩; have s1 := Lib.hid (box_below s0.out hb1); obtain ⟨q1a, q1b, q1c, q1d, q1e, _, _⟩ := s1.out; clear hb1)
    | (go_at_call 17; refine (F17.out _).mono ?_; rintro e w2 ⟨rfl, hb2⟩; have s2 := Lib.hid (box_below s1.out hb2); clear q1a q1b q1c q1d q1e; obtain ⟨q2a, q2b, q2c, q2d, q2e, _, _⟩ := s2.out; clear hb2)
    | (go_at_call 18; refine (F18.out _).mono ?_; rintro e w3 ⟨rfl, hb3⟩; have s3 := Lib.hid (box_below s2.out hb3); clear q2a q2b q2c q2d q2e; obtain ⟨q3a, q3b, q3c, q3d, q3e, _, _⟩ := s3.out; clear hb3)
    | (go_at_call 19; refine (F19.out _).mono ?_; rintro e w4 ⟨rfl, hb4⟩; have s4 := Lib.hid (box_below s3.out hb4); clear q3a q3b q3c q3d q3e; obtain ⟨q4a, q4b, q4c, q4d, q4e, _, _⟩ := s4.out; clear hb4)
    | (go_at_call 20; refine (F20.out _).mono ?_; rintro e w5 ⟨rfl, hb5⟩; have s5 := Lib.hid (box_below s4.out hb5); clear q4a q4b q4c q4d q4e; obtain ⟨q5a, q5b, q5c, q5d, q5e, _, _⟩ := s5.out; clear hb5)
    | (go_at_call 21; refine (F21.out _).mono ?_; rintro e w6 ⟨rfl, hb6⟩; have s6 := Lib.hid (box_below s5.out hb6); clear q5a q5b q5c q5d q5e; obtain ⟨q6a, q6b, q6c, q6d, q6e, _, _⟩ := s6.out; clear hb6)
    | (go_at_call 22; refine (F22.out _).mono ?_; rintro e w7 ⟨rfl, hb7⟩; have s7 := Lib.hid (box_below s6.out hb7); clear q6a q6b q6c q6d q6e; obtain ⟨q7a, q7b, q7c, q7d, q7e, _, _⟩ := s7.out; clear hb7)
    | (go_at_call 23; refine (F23.out _).mono ?_; rintro e w8 ⟨rfl, hb8⟩; have s8 := Lib.hid (box_below s7.out hb8); clear q7a q7b q7c q7d q7e; obtain ⟨q8a, q8b, q8c, q8d, q8e, _, _⟩ := s8.out; clear hb8)
    | (go_at_call 15; refine (awake15 _).mono ?_; rintro e w9 ⟨rfl, hb9⟩; have s9 := Lib.hid (box_below s8.out hb9)))
  go_ret
  exact ⟨rfl, s9.out.2.2.2.2.2.2⟩
end YtoebnjciioiccaaDoor
end Go.Proofs
