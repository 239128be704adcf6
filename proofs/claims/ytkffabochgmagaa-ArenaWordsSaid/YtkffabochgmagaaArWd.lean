/- New, both of them; the law ArenaWords answers true. -/
import Derived.Test.YtkffabochgmagaaCfSums
import Derived.Test.YtkffabochgmagaaArRg
import Derived.Test.YtkffabochgmagaaArX
namespace Go.Proofs
namespace Ytkffabochgmagaa
open Go.RowKit

/-- what New answers, said in memory -/
def NAns (w : World) (C N S K Q : Int) (e : Ending) (w' : World) : Prop := ∃ v, e = .returned (.tuple #[v, .int .i64 (Cf.chkE C N S K Q)]) ∧ WAt w' v (List.replicate (Cf.wordsR C N S K Q).toNat 0) ∧ Below w.heap.size w w'
theorem words_room {C N S K Q : Int} : 0 ≤ Cf.wordsR C N S K Q ∧ Cf.wordsR C N S K Q ≤ 1601 := by
  unfold Cf.wordsR
  split
  · rename_i hg
    obtain ⟨c0, c1, n0, n1, s0, s1, -⟩ := hg
    have m := Cf.mul_range (show 0 ≤ N by omega) n1 (show 0 ≤ C by omega) c1
    omega
  · omega
set_option maxRecDepth 100000 in
set_option maxHeartbeats 400000 in
theorem new11 (C N S K Q : Int) (w : World) : Calls Try.prog 11 #[.agg #[.int .i64 C, .int .i64 N, .int .i64 S, .int .i64 K, .int .i64 Q]] w fun e w' => NAns w C N S K Q e w' := by
  have F := Lib.hid (Cf.words16 C N S K Q)
  have hr := words_room (C := C) (N := N) (S := S) (K := K) (Q := Q)
  unfold NAns
  by_cases hg : Cf.good C N S K Q
  · have e1 : Cf.chkE C N S K Q = 0 := if_pos hg
    rw [e1] at F ⊢
    clear e1 hg
    generalize Cf.wordsR C N S K Q = z at *
    obtain ⟨m, rfl⟩ : ∃ m : Nat, z = (m : Int) := ⟨z.toNat, by omega⟩
    have hmk := mk25 m (by omega)
    rw [Int.toNat_natCast]
    clear hr
    go_enter Try.func11, Try.ntmps11
    go_wp2_with (go_at_call 34; refine (F.out _).mono ?_; rintro e w1 ⟨rfl, hb1⟩; have hB := Lib.hid (below_end (alloc_below _ _) hb1); clear hb1)
    go_ret2
    refine ⟨_, rfl, ?_, below_end hB.out (alloc_below _ _)⟩
    have h := WAt.row (zs := List.replicate m 0) (cap := m) (heap_alloc_new w1 (.cells (wc (List.replicate m 0)).toArray 25))
    rw [List.length_replicate] at h
    exact h
  · have e1 : Cf.chkE C N S K Q = 7 := if_neg hg
    have e2 : Cf.wordsR C N S K Q = 0 := if_neg hg
    rw [e1, e2] at F
    rw [e1, e2]
    clear e1 e2 hg hr
    go_enter Try.func11, Try.ntmps11
    go_wp2_with (go_at_call 34; refine (F.out _).mono ?_; rintro e w1 ⟨rfl, hb1⟩; have hB := Lib.hid (below_end (alloc_below _ _) hb1); clear hb1)
    go_ret2
    exact ⟨_, rfl, WAt.nil _, hB.out⟩
set_option maxRecDepth 100000 in
set_option maxHeartbeats 400000 in
theorem new12 (C N S K Q : Int) (w : World) : Calls Try.prog 12 #[.agg #[.int .i64 C, .int .i64 N, .int .i64 S, .int .i64 K, .int .i64 Q]] w fun e w' => NAns w C N S K Q e w' := by
  have F := Lib.hid (Cf.words17 C N S K Q)
  have hr := words_room (C := C) (N := N) (S := S) (K := K) (Q := Q)
  unfold NAns
  by_cases hg : Cf.good C N S K Q
  · have e1 : Cf.chkE C N S K Q = 0 := if_pos hg
    rw [e1] at F ⊢
    clear e1 hg
    generalize Cf.wordsR C N S K Q = z at *
    obtain ⟨m, rfl⟩ : ∃ m : Nat, z = (m : Int) := ⟨z.toNat, by omega⟩
    have hmk := mk25 m (by omega)
    rw [Int.toNat_natCast]
    clear hr
    go_enter Try.func12, Try.ntmps12
    go_wp2_with (go_at_call 35; refine (F.out _).mono ?_; rintro e w1 ⟨rfl, hb1⟩; have hB := Lib.hid (below_end (alloc_below _ _) hb1); clear hb1)
    go_ret2
    refine ⟨_, rfl, ?_, below_end hB.out (alloc_below _ _)⟩
    have h := WAt.row (zs := List.replicate m 0) (cap := m) (heap_alloc_new w1 (.cells (wc (List.replicate m 0)).toArray 25))
    rw [List.length_replicate] at h
    exact h
  · have e1 : Cf.chkE C N S K Q = 7 := if_neg hg
    have e2 : Cf.wordsR C N S K Q = 0 := if_neg hg
    rw [e1, e2] at F
    rw [e1, e2]
    clear e1 e2 hg hr
    go_enter Try.func12, Try.ntmps12
    go_wp2_with (go_at_call 35; refine (F.out _).mono ?_; rintro e w1 ⟨rfl, hb1⟩; have hB := Lib.hid (below_end (alloc_below _ _) hb1); clear hb1)
    go_ret2
    exact ⟨_, rfl, WAt.nil _, hB.out⟩
theorem cfg_cells {W : World} {g : Nat} {C N S K Q : Int} (h : W.heap[g]? = some (.cells #[.int .i64 C, .int .i64 N, .int .i64 S, .int .i64 K, .int .i64 Q] 23 (0, 0))) :
    W.cell? ⟨g, 0, none⟩ = some (.int .i64 C) ∧ W.cell? ⟨g, 1, none⟩ = some (.int .i64 N) ∧ W.cell? ⟨g, 2, none⟩ = some (.int .i64 S) ∧ W.cell? ⟨g, 3, none⟩ = some (.int .i64 K) ∧ W.cell? ⟨g, 4, none⟩ = some (.int .i64 Q) := by
  refine ⟨?_, ?_, ?_, ?_, ?_⟩ <;> rw [cell_of_row _ _ _ _ _ _ h] <;> rfl
theorem word_cells {W : World} {g : Nat} {a z : Int} (h : W.heap[g]? = some (.cells #[.int .i64 a, .int .u64 z] 27 (0, 0))) : W.cell? ⟨g, 0, none⟩ = some (.int .i64 a) ∧ W.cell? ⟨g, 1, none⟩ = some (.int .u64 z) := by
  refine ⟨?_, ?_⟩ <;> rw [cell_of_row _ _ _ _ _ _ h] <;> rfl
theorem set_len (ws : List Int) (a z : Int) : (setF ws a z).1.length ≤ ws.length := by
  unfold setF
  split
  · simp
  · split <;> simp
set_option maxRecDepth 100000 in
set_option maxHeartbeats 4000000 in
theorem words3 (C N S K Q : Int) (v1 : Value) (ws : List Int) (a z : Int) (w : World) (h1 : WAt w v1 ws) :
    Calls Try.prog 3 #[.agg #[.int .i64 C, .int .i64 N, .int .i64 S, .int .i64 K, .int .i64 Q], v1, .agg #[.int .i64 a, .int .u64 z]] w fun e w' => e = .returned (.bool true) ∧ Below w.heap.size w w' := by
  by_cases hl : 1610 < ws.length
  · obtain ⟨A1, p1, rfl, -⟩ := h1
    have q : decide ((1610 : Int) < (ws.length : Int)) = true := decide_eq_true (by omega)
    go_enter Try.func3, Try.ntmps3
    go_wp2_with (go_at_call 10; refine (awake10 _).mono ?_; rintro e u3 ⟨rfl, hu3⟩)
    exact bodyPost_ret (v := .bool true) (by simp [results, Try.f3, go_sem]) rfl ⟨rfl, below_end (below_end (alloc_below _ _) (alloc_below _ _)) hu3⟩
  · have hr := words_room (C := C) (N := N) (S := S) (K := K) (Q := Q)
    have F11 := Lib.hid (new11 C N S K Q)
    have F12 := Lib.hid (new12 C N S K Q)
    have F14 := Lib.hid (fun W hb => check14 v1 ws W (WAt.below (W := w) h1 hb) (by omega))
    have F15 := Lib.hid (fun W hb => rcheck15 v1 ws W (WAt.below (W := w) h1 hb) (by omega))
    have F16 := Lib.hid (fun W hb => get16 v1 ws a W (WAt.below (W := w) h1 hb) (by omega))
    have F17 := Lib.hid (fun W hb => rget17 v1 ws a W (WAt.below (W := w) h1 hb) (by omega))
    have F18 := Lib.hid (fun W hb => set18 v1 ws a z W (WAt.below (W := w) h1 hb) (by omega))
    have F19 := Lib.hid (fun W hb => rset19 v1 ws a z W (WAt.below (W := w) h1 hb) (by omega))
    rw [after_set] at F18
    have SL := set_len ws a z
    have N0 := Lib.hid (keep_heap (alloc_below _ (.cells #[.int .i64 a, .int .u64 z] 27)) (heap_alloc_new w (.cells #[.int .i64 C, .int .i64 N, .int .i64 S, .int .i64 K, .int .i64 Q] 23)))
    have N1 := Lib.hid (show ((w.alloc (.cells #[.int .i64 C, .int .i64 N, .int .i64 S, .int .i64 K, .int .i64 Q] 23)).alloc (.cells #[.int .i64 a, .int .u64 z] 27)).heap[w.heap.size + 1]? = some (.cells #[.int .i64 a, .int .u64 z] 27 (0, 0)) by
      have h := heap_alloc_new (w.alloc (.cells #[.int .i64 C, .int .i64 N, .int .i64 S, .int .i64 K, .int .i64 Q] 23)) (.cells #[.int .i64 a, .int .u64 z] 27)
      rw [World.size_alloc] at h
      exact h)
    have K0 := Lib.hid (below_end (alloc_below w (.cells #[.int .i64 C, .int .i64 N, .int .i64 S, .int .i64 K, .int .i64 Q] 23)) (alloc_below _ (.cells #[.int .i64 a, .int .u64 z] 27)))
    obtain ⟨A1, p1, rfl, -⟩ := h1
    have q : decide ((1610 : Int) < (ws.length : Int)) = false := decide_eq_false (by omega)
    have B1 := Lib.hid (show (List.replicate (Cf.wordsR C N S K Q).toNat (0 : Int)).length ≤ 1000000 ∧ (setF ws a z).1.length ≤ 1000000 by rw [List.length_replicate]; omega)
    clear hl hr SL
    unfold NAns at F11 F12
    generalize List.replicate (Cf.wordsR C N S K Q).toNat (0 : Int) = zs at *
    generalize Cf.chkE C N S K Q = ce at *
    generalize chkF ws = cw at *
    generalize getF ws a = G at *
    generalize setF ws a z = R at *
    obtain ⟨g1, g2⟩ := G
    obtain ⟨rs, rc⟩ := R
    dsimp only at B1
    go_enter Try.func3, Try.ntmps3
    go_upto_region 3 with (fail)
    generalize (w.alloc (.cells #[.int .i64 C, .int .i64 N, .int .i64 S, .int .i64 K, .int .i64 Q] 23)).alloc (.cells #[.int .i64 a, .int .u64 z] 27) = X at *
    obtain ⟨q0, q1, q2, q3, q4⟩ := cfg_cells N0.out
    go_upto_region 4 with (go_at_call 11; refine (F11.out _).mono ?_; rintro e w3 ⟨va, rfl, hV, hb⟩; have V3 := Lib.hid hV; have K3 := Lib.hid (below_end K0.out hb); have X3 := Lib.hid hb; clear hV hb q0 q1 q2 q3 q4)
    obtain ⟨q0, q1, q2, q3, q4⟩ := cfg_cells (keep_heap X3.out N0.out)
    go_upto_region 5 with (go_at_call 12; refine (F12.out _).mono ?_; rintro e w4 ⟨vb, rfl, hV, hb⟩; have V4 := Lib.hid hV; have V34 := Lib.hid (V3.out.below hb); have K4 := Lib.hid (below_end K3.out hb); have X4 := Lib.hid (below_end X3.out hb); clear hV hb q0 q1 q2 q3 q4)
    have SA := Lib.hid (S13 zs va vb w4 B1.out.1 V34.out V4.out)
    clear V3 V34 V4
    go_upto_region 7 with (first
      | (go_at_call 13; refine SA.out.mono ?_; rintro e w5 ⟨rfl, hb⟩; have K5 := Lib.hid (below_end K4.out hb); have X5 := Lib.hid (below_end X4.out hb); clear hb)
      | (go_at_call 14; refine (F14.out _ K5.out).mono ?_; rintro e w' ⟨rfl, rfl⟩)
      | (go_at_call 15; refine (F15.out _ K5.out).mono ?_; rintro e w' ⟨rfl, rfl⟩))
    obtain ⟨q0, q1⟩ := word_cells (keep_heap X5.out N1.out)
    go_upto_region 10 with (first
      | (go_at_call 16; refine (F16.out _ K5.out).mono ?_; rintro e w' ⟨rfl, rfl⟩)
      | (go_at_call 17; refine (F17.out _ K5.out).mono ?_; rintro e w' ⟨rfl, rfl⟩)
      | (go_at_call 18; refine (F18.out _ K5.out).mono ?_; rintro e w6 ⟨vc, rfl, ho, hb⟩; have V6 := Lib.hid (WAt.of_own ho); have K6 := Lib.hid (below_end K5.out hb); have X6 := Lib.hid (below_end X5.out hb); clear ho hb q0 q1))
    obtain ⟨q0, q1⟩ := word_cells (keep_heap X6.out N1.out)
    go_upto_region 11 with (go_at_call 19; refine (F19.out _ K6.out).mono ?_; rintro e w7 ⟨vd, rfl, ho, hb⟩; have V7 := Lib.hid (WAt.of_own ho); have V67 := Lib.hid (V6.out.below hb); have K7 := Lib.hid (below_end K6.out hb); clear ho hb q0 q1)
    have SB := Lib.hid (S13 rs vc vd w7 B1.out.2 V67.out V7.out)
    clear V6 V67 V7
    go_wp2_with (first
      | (go_at_call 13; refine SB.out.mono ?_; rintro e w8 ⟨rfl, hb⟩; have K8 := Lib.hid (below_end K7.out hb); clear hb)
      | (go_at_call 10; refine (awake10 _).mono ?_; rintro e u3 ⟨rfl, hu3⟩))
    exact bodyPost_ret (v := .bool true) (by simp [results, Try.f3, go_sem]) rfl ⟨rfl, below_end K8.out hu3⟩
end Ytkffabochgmagaa
end Go.Proofs
