/- same, Far; the examples, as plain facts. -/
import Derived.Test.YtjanicngedkhnaaSlBl
import Derived.Test.YtjanicngedkhnaaSlBm
namespace Go.Proofs
namespace Ytjanicngedkhnaa
open Go.RowKit

set_option maxRecDepth 100000 in
theorem same17 (v1 v2 : Value) (xs : List Int) (w : World) (h1 : IAt w v1 xs) (h2 : IAt w v2 xs) (hm : xs.length ≤ 1000000) :
    Calls Try.prog 17 #[sv v1, sv v2] w fun e w' => e = .returned (.bool true) ∧ Below w.heap.size w w' := by
  obtain ⟨k0, k1, ks, hb⟩ := two_boxes w (.cells #[v1] 24) (.cells #[v2] 24)
  have C := Lib.hid (rints24 v1 v2 xs xs hm _ (h1.below hb) (h2.below hb))
  rw [decide_eq_true rfl] at C
  obtain ⟨A, cap, rfl, -⟩ := h1
  obtain ⟨A2, cap2, rfl, -⟩ := h2
  have c0 := (one_cell k0).1
  have c1 := (one_cell k1).1
  have B := Lib.hid hb
  unfold sv
  generalize xs.length = n at *
  clear k0 k1 ks hb
  go_enter Try.func17, Try.ntmps17
  go_wp2_with (go_at_call 24; refine C.out.mono ?_; rintro e w1 ⟨rfl, hb1⟩; have B1 := Lib.hid (below_end B.out hb1); clear hb1)
  refine bodyPost_ret (v := .bool true) (by simp [results, Try.f17, go_sem]) rfl ⟨rfl, B1.out⟩
def farB (n : Nat) : Bool := if 600 < n ∧ n ≤ 8192 then true else decide (8200 < n)
theorem far_no {n : Nat} (h : farB n = false) : n ≤ 8200 := by
  unfold farB at h
  split at h
  · cases h
  · simp only [decide_eq_false_iff_not] at h; omega
set_option maxRecDepth 100000 in
theorem far11 (v : Value) (cs : List Int) (w : World) (h : IAt w v cs) :
    Calls Try.prog 11 #[sv v] w fun e w' => e = .returned (.bool (farB cs.length)) ∧ Below w.heap.size w w' := by
  have h0 := heap_alloc_new w (.cells #[v] 24)
  have hb := alloc_below w (.cells #[v] 24)
  obtain ⟨A, cap, rfl, -⟩ := h
  have c0 := (one_cell h0).1
  have B := Lib.hid hb
  unfold sv
  generalize cs.length = n at *
  clear h0 hb
  by_cases h1 : 600 < n
  · have q1 : decide ((600 : Int) < (n : Int)) = true := decide_eq_true (by omega)
    by_cases h2 : n ≤ 8192
    · have q2 : decide ((n : Int) ≤ 8192) = true := decide_eq_true (by omega)
      have q2' : (n : Int) ≤ 8192 := by omega
      have e : farB n = true := by unfold farB; rw [if_pos ⟨h1, h2⟩]
      rw [e]
      clear h1 h2 e
      go_enter Try.func11, Try.ntmps11
      go_wp2
      refine bodyPost_ret (v := .bool true) (by simp [results, Try.f11, go_sem]) rfl ⟨rfl, B.out⟩
    · have q2 : decide ((n : Int) ≤ 8192) = false := decide_eq_false (by omega)
      have q2' : ¬ (n : Int) ≤ 8192 := by omega
      have e : farB n = decide ((8200 : Int) < (n : Int)) := by unfold farB; rw [if_neg (by omega), Bool.eq_iff_iff]; simp only [decide_eq_true_eq]; omega
      rw [e]
      clear h1 h2 e
      go_enter Try.func11, Try.ntmps11
      go_wp2
      refine bodyPost_ret (v := .bool (decide ((8200 : Int) < (n : Int)))) (by simp [results, Try.f11, go_sem]) rfl ⟨rfl, B.out⟩
  · have q1 : decide ((600 : Int) < (n : Int)) = false := decide_eq_false (by omega)
    have q1' : ¬ (600 : Int) < (n : Int) := by omega
    have e : farB n = decide ((8200 : Int) < (n : Int)) := by unfold farB; rw [if_neg (by omega), Bool.eq_iff_iff]; simp only [decide_eq_true_eq]; omega
    rw [e]
    clear h1 e
    go_enter Try.func11, Try.ntmps11
    go_wp2
    refine bodyPost_ret (v := .bool (decide ((8200 : Int) < (n : Int)))) (by simp [results, Try.f11, go_sem]) rfl ⟨rfl, B.out⟩
theorem k_1 : ofA [1, 2] = ([0, 0, 0, 0, 0, 0, 2, 1], 0) := by decide +kernel
theorem k_2 : ofA [1, 9] = ([9, 0, 0, 0, 0, 0, 0, 1], 0) := by decide +kernel
theorem k_3 : dropA [9, 0, 0, 0, 0, 0, 0, 1] 1 = ([9, 0, 0, 0, 0, 0, 0, -1], true, 0) := by decide +kernel
theorem k_4 : addA [9, 0, 0, 0, 0, 0, 0, -1] 17 = ([9, 0, 0, 0, 0, 0, 0, 17], true, 0) := by decide +kernel
theorem k_5 : (ofA [1, 2, 3, 4, 5, 6, 7]).1.length = 16 ∧ (ofA [1, 2, 3, 4, 5, 6, 7]).2 = 0 := by decide +kernel
theorem k_6 : addA [0, 0, 0, 0, 0, 0, 2, 1] 0 = ([], false, 7) := by decide +kernel
theorem k_7 : chkF (List.replicate 9 0) = (-1, 6) := by decide +kernel
end Ytjanicngedkhnaa
end Go.Proofs
