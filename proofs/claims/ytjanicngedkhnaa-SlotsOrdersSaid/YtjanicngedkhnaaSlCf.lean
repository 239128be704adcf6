/- The law of Purge. -/
import Derived.Test.YtjanicngedkhnaaSlCc
namespace Go.Proofs
namespace Ytjanicngedkhnaa
open Go.RowKit

theorem purge_len2 (cs : List Int) (f t : Int) : (purgeA cs f t).1.length ≤ cs.length := by
  unfold purgeA
  by_cases h : (chkF cs).2 ≠ 0
  · rw [if_pos h]; exact Nat.zero_le _
  · rw [if_neg h]; exact Nat.le_of_eq (purge_len cs f t)
set_option maxRecDepth 100000 in
set_option maxHeartbeats 400000 in
theorem purges6 (v : Value) (cs : List Int) (f t : Int) (w : World) (h : IAt w v cs) :
    Calls Try.prog 6 #[.agg #[v], .int .i64 f, .int .i64 t] w fun e w' => e = .returned (.bool true) ∧ Below w.heap.size w w' := by
  have h0 := heap_alloc_new w (.cells #[v] 24)
  have hb := alloc_below w (.cells #[v] 24)
  have FA := Lib.hid (far_at h)
  have AW := Lib.hid awake12
  by_cases hf : farB cs.length = true
  · rw [hf] at FA
    obtain ⟨A, cap, rfl, -⟩ := h
    have q := (one_cell h0).1
    have B0 := Lib.hid hb
    unfold sv at *
    clear h0 hb hf
    go_enter Try.func6, Try.ntmps6
    go_wp2_with (first
      | (go_at_call 11; refine (FA.out _ B0.out).mono ?_; rintro e w1 ⟨rfl, hb⟩; have B1 := Lib.hid (below_end B0.out hb); clear hb)
      | (go_at_call 12; refine (AW.out _).mono ?_; rintro e w2 ⟨rfl, hb⟩; have B2 := Lib.hid (below_end B1.out hb); clear hb))
    refine bodyPost_ret (v := .bool true) (by simp [results, Try.f6, go_sem]) rfl ⟨rfl, B2.out⟩
  have hfn : farB cs.length = false := by simpa using hf
  have hm := far_no hfn
  have hm1 : cs.length ≤ 100000 := by omega
  rw [hfn] at FA
  have C1 := Lib.hid (fun W (hb : Below w.heap.size w W) => (purge35 v cs f t W (h.below hb) hm1).mono fun e w' h => h.form2)
  have C2 := Lib.hid (fun W (hb : Below w.heap.size w W) => (rpurge36 v cs f t W (h.below hb) hm1).mono fun e w' h => h.form2)
  have LR := Lib.hid (show (purgeA cs f t).1.length ≤ 1000000 by have := purge_len2 cs f t; omega)
  obtain ⟨A, cap, rfl, -⟩ := h
  have B0 := Lib.hid hb
  have K0 := Lib.hid h0
  unfold sv at *
  generalize purgeA cs f t = r1 at *
  obtain ⟨L, z, e0⟩ := r1
  dsimp only at *
  generalize hN : L.length = N at *
  have HN := Lib.hid hN
  generalize cs.length = n at *
  have q := (one_cell K0.out).1
  clear h0 hb hf hfn hm hm1 hN
  go_enter Try.func6, Try.ntmps6
  go_upto_region 4 with (first
    | (go_at_call 11; refine (FA.out _ B0.out).mono ?_; rintro e w1 ⟨rfl, hb⟩; have B1 := Lib.hid (below_end B0.out hb); have K1 := Lib.hid (keep_heap hb K0.out); have q1 := (one_cell K1.out).1; clear hb)
    | (go_at_call 35; refine (C1.out _ B1.out).mono ?_; rintro e w2 ⟨A2, c2, rfl, hi, hb⟩; have B2 := Lib.hid (below_end B1.out hb); have K2 := Lib.hid (keep_heap hb K1.out); have I2 := Lib.hid hi; clear hb hi))
  clear q q1
  have ba := alloc_below w2 (.cells #[.slice A2 N c2] 24)
  have P := Lib.hid (heap_alloc_new w2 (.cells #[.slice A2 N c2] 24))
  obtain ⟨b2, hb2⟩ : ∃ b, w2.heap.size = b := ⟨_, rfl⟩
  rw [hb2] at P
  try rw [hb2]
  generalize w2.alloc (.cells #[.slice A2 N c2] 24) = X2 at *
  have B2 := Lib.hid (below_end B2.out ba)
  have K2 := Lib.hid (keep_heap ba K2.out)
  have I2 := Lib.hid (I2.out.below ba)
  have q2 := (one_cell K2.out).1
  clear ba
  go_upto_region 5 with (go_at_call 36; refine (C2.out _ B2.out).mono ?_; rintro e w3 ⟨A3, c3, rfl, hi, hb⟩; have B3 := Lib.hid (below_end B2.out hb); have P3 := Lib.hid (keep_heap hb P.out); have I3 := Lib.hid hi; have J3 := Lib.hid (I2.out.below hb); clear hb hi)
  clear q2
  have ba := alloc_below w3 (.cells #[.slice A3 N c3] 24)
  have Q := Lib.hid (heap_alloc_new w3 (.cells #[.slice A3 N c3] 24))
  obtain ⟨b3, hb3⟩ : ∃ b, w3.heap.size = b := ⟨_, rfl⟩
  rw [hb3] at Q
  try rw [hb3]
  generalize w3.alloc (.cells #[.slice A3 N c3] 24) = X3 at *
  have B3 := Lib.hid (below_end B3.out ba)
  have P4 := Lib.hid (keep_heap ba P3.out)
  have S := Lib.hid (same_at _ _ L X3 (J3.out.below ba) (I3.out.below ba) (by rw [HN.out]; exact LR.out))
  have q3 := (one_cell P4.out).1
  have q4 := (one_cell Q.out).1
  clear ba
  go_wp2_with (first
    | (go_at_call 17; refine S.out.mono ?_; rintro e w4 ⟨rfl, hb⟩; have B4 := Lib.hid (below_end B3.out hb); clear hb)
    | (go_at_call 12; refine (AW.out _).mono ?_; rintro e w5 ⟨rfl, hb⟩; have B5 := Lib.hid (below_end B4.out hb); clear hb))
  refine bodyPost_ret (v := .bool true) (by simp [results, Try.f6, go_sem]) rfl ⟨rfl, B5.out⟩
end Ytjanicngedkhnaa
end Go.Proofs
