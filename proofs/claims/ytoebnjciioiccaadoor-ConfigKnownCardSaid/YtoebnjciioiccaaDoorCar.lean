/- Car; where an address is. -/
import Derived.Test.YtoebnjciioiccaaDoorPlace
namespace Go.Proofs
namespace YtoebnjciioiccaaDoor
open Go.RowKit

theorem car26_of (C N S K Q a p o e : Int) (H : Hid (∀ W : World, Calls Tryd.prog 28 #[.agg #[.int .i64 C, .int .i64 N, .int .i64 S, .int .i64 K, .int .i64 Q], .int .i64 a] W fun E w' => E = .returned (.tuple #[.int .i64 p, .int .i64 o, .int .i64 e]) ∧ Below W.heap.size W w')) (w : World) :
    Calls Tryd.prog 26 #[.agg #[.int .i64 C, .int .i64 N, .int .i64 S, .int .i64 K, .int .i64 Q], .int .i64 a] w fun E w' => E = .returned (.tuple #[.int .i64 p, .int .i64 e]) ∧ Below w.heap.size w w' := by
  go_enter Tryd.func26, Tryd.ntmps26
  go_wp2_with (go_at_call 28; refine (H.out _).mono ?_; rintro e w1 ⟨rfl, hb1⟩)
  go_ret2
  exact ⟨rfl, below_alloc_l hb1⟩

theorem place28_in (C N S K Q a : Int) (hg : good C N S K Q) (ha : inWords C N S a) (w : World) :
    Calls Tryd.prog 28 #[.agg #[.int .i64 C, .int .i64 N, .int .i64 S, .int .i64 K, .int .i64 Q], .int .i64 a] w fun e w' => e = .returned (.tuple #[.int .i64 (placeC C S a), .int .i64 (placeO C S a), .int .i64 0]) ∧ Below w.heap.size w w' := by
  unfold placeC placeO
  by_cases h : a < 1 + S
  · rw [if_pos h, if_pos h]; exact place28_nur C N S K Q a hg ha.1 h w
  · rw [if_neg h, if_neg h]; exact place28_car C N S K Q a hg (by omega) ha.2 w
theorem place28_out (C N S K Q a : Int) (hg : good C N S K Q) (ha : ¬ inWords C N S a) (w : World) :
    Calls Tryd.prog 28 #[.agg #[.int .i64 C, .int .i64 N, .int .i64 S, .int .i64 K, .int .i64 Q], .int .i64 a] w fun e w' => e = .returned (.tuple #[.int .i64 0, .int .i64 0, .int .i64 7]) ∧ Below w.heap.size w w' := by
  by_cases h : a < 1
  · exact place28_low C N S K Q a hg h w
  · exact place28_high C N S K Q a hg (by unfold inWords at ha; omega) w
theorem place_of (C N S K Q car a : Int) (hg : good C N S K Q) (hc : inCar N car) (h0 : startV C S car ≤ a) (h1 : a < endV C S car) : inWords C N S a ∧ placeC C S a = car ∧ placeO C S a = a - startV C S car := by
  obtain ⟨c0, c1, n0, n1, z0, z1, k0, k1, q0, q1⟩ := hg
  obtain ⟨d0, d1⟩ := hc
  unfold startV at *
  unfold endV at h1
  unfold placeC placeO inWords
  have m := mul_range (show 0 ≤ N by omega) n1 (show 0 ≤ C by omega) c1
  by_cases h : car < 0
  · rw [if_pos h] at h0 h1
    rw [if_pos h, if_pos (by omega), if_pos (by omega)]
    omega
  · rw [if_neg h] at h0 h1
    rw [if_neg h]
    have mc := Int.mul_nonneg (show 0 ≤ car by omega) (show 0 ≤ C by omega)
    have mn := Int.mul_le_mul_of_nonneg_right (show car + 1 ≤ N by omega) (show 0 ≤ C by omega)
    rw [Int.add_mul, Int.one_mul] at mn
    rw [if_neg (by omega), if_neg (by omega)]
    have e : a - (1 + S) = a - (1 + S + car * C) + car * C := by omega
    have q : (a - (1 + S + car * C)) / C = 0 := Int.ediv_eq_zero_of_lt (by omega) (by omega)
    have r : (a - (1 + S + car * C)) % C = a - (1 + S + car * C) := Int.emod_eq_of_lt (by omega) (by omega)
    refine ⟨by omega, ?_, ?_⟩
    · rw [e, Int.add_mul_ediv_right _ _ (by omega), q]; omega
    · rw [e, Int.add_mul_emod_self_right, r]
theorem start_next (C S car : Int) (h : -1 ≤ car) : startV C S (car + 1) = endV C S car := by
  unfold startV endV
  by_cases h0 : car < 0
  · obtain rfl : car = -1 := by omega
    simp
  · rw [if_neg h0, if_neg (by omega), Int.add_mul, Int.one_mul]; omega
end YtoebnjciioiccaaDoor
end Go.Proofs
