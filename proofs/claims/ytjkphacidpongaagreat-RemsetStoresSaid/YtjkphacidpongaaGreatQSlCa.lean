/- same, Far; the examples, as plain facts. -/
import Derived.Test.YtjkphacidpongaaGreatG20
namespace Go.Proofs
namespace YtjkphacidpongaaGreat
open Go.RowKit

def farB (n : Nat) : Bool := if 600 < n ∧ n ≤ 8192 then true else decide (8200 < n)
theorem far_no {n : Nat} (h : farB n = false) : n ≤ 8200 := by
  unfold farB at h
  split at h
  · cases h
  · simp only [decide_eq_false_iff_not] at h; omega
set_option maxRecDepth 100000 in
theorem far11 (v : Value) (cs : List Int) (w : World) (h : IAt w v cs) :
    Calls Tryz.prog 76 #[sv v] w fun e w' => e = .returned (.bool (farB cs.length)) ∧ Below w.heap.size w w' := by
  have h0 := heap_alloc_new w (.cells #[v] 27)
  have hb := alloc_below w (.cells #[v] 27)
  obtain ⟨A, cap, rfl, -⟩ := h
  have c0 := (one_cell h0).1
  have B := Lib.hid hb
  unfold sv
  generalize cs.length = n at *
  clear h0 hb
  by_cases h1 : 600 < n
  · have q1 : decide ((600 : Int) < (n : Int)) = true := decide_eq_true (by omega)
    by_cases h2 : n ≤ 8192
    · have q2 : decide ((n : Int) ≤ 8192) = true := decide_eq_true (by omega)
      have q2' : (n : Int) ≤ 8192 := by omega
      have e : farB n = true := by unfold farB; rw [if_pos ⟨h1, h2⟩]
      rw [e]
      clear h1 h2 e
      go_enter Tryz.func76, Tryz.ntmps76
      go_wp2
      refine bodyPost_ret (v := .bool true) (by simp [results, Tryz.f76, go_sem]) rfl ⟨rfl, B.out⟩
    · have q2 : decide ((n : Int) ≤ 8192) = false := decide_eq_false (by omega)
      have q2' : ¬ (n : Int) ≤ 8192 := by omega
      have e : farB n = decide ((8200 : Int) < (n : Int)) := by unfold farB; rw [if_neg (by omega), Bool.eq_iff_iff]; simp only [decide_eq_true_eq]; omega
      rw [e]
      clear h1 h2 e
      go_enter Tryz.func76, Tryz.ntmps76
      go_wp2
      refine bodyPost_ret (v := .bool (decide ((8200 : Int) < (n : Int)))) (by simp [results, Tryz.f76, go_sem]) rfl ⟨rfl, B.out⟩
  · have q1 : decide ((600 : Int) < (n : Int)) = false := decide_eq_false (by omega)
    have q1' : ¬ (600 : Int) < (n : Int) := by omega
    have e : farB n = decide ((8200 : Int) < (n : Int)) := by unfold farB; rw [if_neg (by omega), Bool.eq_iff_iff]; simp only [decide_eq_true_eq]; omega
    rw [e]
    clear h1 e
    go_enter Tryz.func76, Tryz.ntmps76
    go_wp2
    refine bodyPost_ret (v := .bool (decide ((8200 : Int) < (n : Int)))) (by simp [results, Tryz.f76, go_sem]) rfl ⟨rfl, B.out⟩
theorem k_1 : ofA [1, 2] = ([0, 0, 0, 0, 0, 0, 2, 1], 0) := by decide +kernel
theorem k_2 : ofA [1, 9] = ([9, 0, 0, 0, 0, 0, 0, 1], 0) := by decide +kernel
theorem k_3 : dropA [9, 0, 0, 0, 0, 0, 0, 1] 1 = ([9, 0, 0, 0, 0, 0, 0, -1], true, 0) := by decide +kernel
theorem k_4 : addA [9, 0, 0, 0, 0, 0, 0, -1] 17 = ([9, 0, 0, 0, 0, 0, 0, 17], true, 0) := by decide +kernel
theorem k_5 : (ofA [1, 2, 3, 4, 5, 6, 7]).1.length = 16 ∧ (ofA [1, 2, 3, 4, 5, 6, 7]).2 = 0 := by decide +kernel
theorem k_6 : addA [0, 0, 0, 0, 0, 0, 2, 1] 0 = ([], false, 7) := by decide +kernel
theorem k_7 : chkF (List.replicate 9 0) = (-1, 6) := by decide +kernel
end YtjkphacidpongaaGreat
end Go.Proofs
