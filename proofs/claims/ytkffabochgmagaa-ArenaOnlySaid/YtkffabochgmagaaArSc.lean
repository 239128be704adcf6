/- The law ArenaPlays answers true. -/
import Derived.Test.YtkffabochgmagaaArSb
import Derived.Test.YtkffabochgmagaaArX
import Derived.Test.YtkffabochgmagaaArPt
namespace Go.Proofs
namespace Ytkffabochgmagaa
open Go.RowKit

theorem go_gl (ops : List AOp) : ∀ (i : Nat) (s : ASt), s.ws.length ≤ 1601 → (goF i s ops).got.length ≤ s.got.length + ops.length := by
  induction ops with
  | nil => intro i s _; simp [goF]
  | cons o t ih =>
    intro i s h
    by_cases hc : (stepF s o).1 = 0
    · rw [goF_step hc]
      have := ih (i + 1) (stepF s o).2 (by rw [step_length]; exact h)
      have := (step_counts s o h).2.2.2.2
      simp only [List.length_cons]
      omega
    · rw [goF_err hc]
      simp [AAns.err]
theorem play_gl (ws : List Int) (ops : List AOp) : (playF ws ops).got.length ≤ ops.length := by
  unfold playF
  split
  · simp [AAns.err]
  · rename_i hc
    split
    · simp [AAns.err]
    · have hl : ws.length ≤ 1601 := by
        apply Classical.byContradiction
        intro hn
        exact hc (by rw [chk_long (by omega)]; decide)
      have := go_gl ops 0 ⟨ws, [], 0, 0⟩ hl
      simpa using this
theorem eq50g (a b : Int) (W : World) : (binOp .eql 50 (.agg #[.int .i64 a, .int .i64 b]) (.agg #[.int .i64 a, .int .i64 b])).run Try.prog W = .ok (.bool true) W := by
  simp [go_sem]
/-- which sizes the law looks at -/
theorem plays5_skip (A1 : Option Addr) (n1 p1 : Nat) (A2 : Option Addr) (n2 p2 : Nat) (w : World)
    (h : 200 < n1 ∧ n1 ≤ 1601 ∨ 1610 < n1 ∨ 60 < n2 ∧ n2 ≤ 500 ∨ 505 < n2) :
    Calls Try.prog 5 #[.slice A1 n1 p1, .slice A2 n2 p2] w fun e w' => e = .returned (.bool true) ∧ Below w.heap.size w w' := by
  have L : n1 ≤ 200 ∨ (200 < n1 ∧ n1 ≤ 1601) ∨ (1601 < n1 ∧ n1 ≤ 1610) ∨ 1610 < n1 := by omega
  have M : n2 ≤ 60 ∨ (60 < n2 ∧ n2 ≤ 500) ∨ (500 < n2 ∧ n2 ≤ 505) ∨ 505 < n2 := by omega
  rcases L with l | l | l | l <;> rcases M with m | m | m | m
  all_goals first
    | (exfalso; omega)
    | skip
  all_goals
    clear h
    obtain ⟨b1, e1⟩ : ∃ b, decide ((200 : Int) < (n1 : Int)) = b := ⟨_, rfl⟩
    obtain ⟨b2, e2⟩ : ∃ b, decide ((n1 : Int) ≤ 1601) = b := ⟨_, rfl⟩
    obtain ⟨b3, e3⟩ : ∃ b, decide ((1610 : Int) < (n1 : Int)) = b := ⟨_, rfl⟩
    obtain ⟨b4, e4⟩ : ∃ b, decide ((60 : Int) < (n2 : Int)) = b := ⟨_, rfl⟩
    obtain ⟨b5, e5⟩ : ∃ b, decide ((n2 : Int) ≤ 500) = b := ⟨_, rfl⟩
    obtain ⟨b6, e6⟩ : ∃ b, decide ((505 : Int) < (n2 : Int)) = b := ⟨_, rfl⟩
    have c1 : b1 = decide (200 < n1) := by rw [← e1]; simp only [decide_eq_decide]; omega
    have c2 : b2 = decide (n1 ≤ 1601) := by rw [← e2]; simp only [decide_eq_decide]; omega
    have c3 : b3 = decide (1610 < n1) := by rw [← e3]; simp only [decide_eq_decide]; omega
    have c4 : b4 = decide (60 < n2) := by rw [← e4]; simp only [decide_eq_decide]; omega
    have c5 : b5 = decide (n2 ≤ 500) := by rw [← e5]; simp only [decide_eq_decide]; omega
    have c6 : b6 = decide (505 < n2) := by rw [← e6]; simp only [decide_eq_decide]; omega
    first | rw [decide_eq_true (by omega)] at c1 | rw [decide_eq_false (by omega)] at c1
    first | rw [decide_eq_true (by omega)] at c2 | rw [decide_eq_false (by omega)] at c2
    first | rw [decide_eq_true (by omega)] at c3 | rw [decide_eq_false (by omega)] at c3
    first | rw [decide_eq_true (by omega)] at c4 | rw [decide_eq_false (by omega)] at c4
    first | rw [decide_eq_true (by omega)] at c5 | rw [decide_eq_false (by omega)] at c5
    first | rw [decide_eq_true (by omega)] at c6 | rw [decide_eq_false (by omega)] at c6
    subst c1 c2 c3 c4 c5 c6
    go_enter Try.func5, Try.ntmps5
    go_wp2_with (go_at_call 10; refine (awake10 _).mono ?_; rintro e u3 ⟨rfl, hu3⟩)
    exact bodyPost_ret (v := .bool true) (by simp [results, Try.f5, go_sem]) rfl ⟨rfl, hu3⟩
set_option maxRecDepth 100000 in
set_option maxHeartbeats 4000000 in
theorem plays5_go (v1 v2 : Value) (ws : List Int) (ops : List AOp) (w : World) (h1 : WAt w v1 ws) (h2 : OAt w v2 ops)
    (h : ¬ (200 < ws.length ∧ ws.length ≤ 1601 ∨ 1610 < ws.length ∨ 60 < ops.length ∧ ops.length ≤ 500 ∨ 505 < ops.length)) :
    Calls Try.prog 5 #[v1, v2] w fun e w' => e = .returned (.bool true) ∧ Below w.heap.size w w' := by
  have F29 := Lib.hid (play29 v1 v2 ws ops w h1 h2 (by omega) (by omega))
  have F30 := Lib.hid (show ∀ W, Below w.heap.size w W → Calls Try.prog 30 #[v1, v2] W fun e w' => PAns W (playF ws ops) e w' from fun W hb => rplay30 v1 v2 ws ops W (h1.below hb) (h2.below hb) (by omega) (by omega))
  have B1 := (play_got ws ops).2
  have B2 := play_gl ws ops
  obtain ⟨A1, p1, rfl, -⟩ := h1
  obtain ⟨A2, p2, rfl, -⟩ := h2
  have B3 : (playF ws ops).ws.length ≤ 1000000 ∧ (playF ws ops).got.length ≤ 1000000 := by omega
  have L : ws.length ≤ 200 ∨ (1601 < ws.length ∧ ws.length ≤ 1610) := by omega
  have M : ops.length ≤ 60 ∨ (500 < ops.length ∧ ops.length ≤ 505) := by omega
  clear B1 B2 h
  generalize playF ws ops = R at *
  generalize ws.length = n1 at *
  generalize ops.length = n2 at *
  obtain ⟨zs, gs, r, c, i, e0⟩ := R
  dsimp only at B3
  have HB := Lib.hid B3
  clear B3
  have hq := eq50g r c
  rcases L with l | l <;> rcases M with m | m
  all_goals
    obtain ⟨b1, e1⟩ : ∃ b, decide ((200 : Int) < (n1 : Int)) = b := ⟨_, rfl⟩
    obtain ⟨b2, e2⟩ : ∃ b, decide ((n1 : Int) ≤ 1601) = b := ⟨_, rfl⟩
    obtain ⟨b3, e3⟩ : ∃ b, decide ((1610 : Int) < (n1 : Int)) = b := ⟨_, rfl⟩
    obtain ⟨b4, e4⟩ : ∃ b, decide ((60 : Int) < (n2 : Int)) = b := ⟨_, rfl⟩
    obtain ⟨b5, e5⟩ : ∃ b, decide ((n2 : Int) ≤ 500) = b := ⟨_, rfl⟩
    obtain ⟨b6, e6⟩ : ∃ b, decide ((505 : Int) < (n2 : Int)) = b := ⟨_, rfl⟩
    have c1 : b1 = decide (200 < n1) := by rw [← e1]; simp only [decide_eq_decide]; omega
    have c2 : b2 = decide (n1 ≤ 1601) := by rw [← e2]; simp only [decide_eq_decide]; omega
    have c3 : b3 = decide (1610 < n1) := by rw [← e3]; simp only [decide_eq_decide]; omega
    have c4 : b4 = decide (60 < n2) := by rw [← e4]; simp only [decide_eq_decide]; omega
    have c5 : b5 = decide (n2 ≤ 500) := by rw [← e5]; simp only [decide_eq_decide]; omega
    have c6 : b6 = decide (505 < n2) := by rw [← e6]; simp only [decide_eq_decide]; omega
    first | rw [decide_eq_true (by omega)] at c1 | rw [decide_eq_false (by omega)] at c1
    first | rw [decide_eq_true (by omega)] at c2 | rw [decide_eq_false (by omega)] at c2
    first | rw [decide_eq_true (by omega)] at c3 | rw [decide_eq_false (by omega)] at c3
    first | rw [decide_eq_true (by omega)] at c4 | rw [decide_eq_false (by omega)] at c4
    first | rw [decide_eq_true (by omega)] at c5 | rw [decide_eq_false (by omega)] at c5
    first | rw [decide_eq_true (by omega)] at c6 | rw [decide_eq_false (by omega)] at c6
    subst c1 c2 c3 c4 c5 c6
    go_enter Try.func5, Try.ntmps5
    go_upto_region 4 with (go_at_call 29; refine F29.out.mono ?_; rintro e W1 ⟨va, ga, rfl, hV1, hG1, hb1⟩)
    have K1 := Lib.hid (below_end hb1 (alloc_below W1 (.cells #[.int .i64 r, .int .i64 c] 50)))
    have V1 := Lib.hid ((WAt.of_own hV1).below (alloc_below W1 (.cells #[.int .i64 r, .int .i64 c] 50)))
    have U1 := Lib.hid ((WAt.of_own hG1).below (alloc_below W1 (.cells #[.int .i64 r, .int .i64 c] 50)))
    have C1 := Lib.hid (heap_alloc_new W1 (.cells #[.int .i64 r, .int .i64 c] 50))
    generalize W1.alloc (.cells #[.int .i64 r, .int .i64 c] 50) = X1 at *
    generalize W1.heap.size = g1 at *
    clear hb1 hV1 hG1
    go_upto_region 5 with (go_at_call 30; refine (F30.out _ K1.out).mono ?_; rintro e W2 ⟨vb, gb, rfl, hV2, hG2, hb2⟩)
    have b12 := below_end hb2 (alloc_below W2 (.cells #[.int .i64 r, .int .i64 c] 50))
    have K2 := Lib.hid (below_end K1.out b12)
    have V12 := Lib.hid (V1.out.below b12)
    have U12 := Lib.hid (U1.out.below b12)
    have C12 := Lib.hid (keep_heap b12 C1.out)
    have V2 := Lib.hid ((WAt.of_own hV2).below (alloc_below W2 (.cells #[.int .i64 r, .int .i64 c] 50)))
    have U2 := Lib.hid ((WAt.of_own hG2).below (alloc_below W2 (.cells #[.int .i64 r, .int .i64 c] 50)))
    have C2 := Lib.hid (heap_alloc_new W2 (.cells #[.int .i64 r, .int .i64 c] 50))
    generalize W2.alloc (.cells #[.int .i64 r, .int .i64 c] 50) = X2 at *
    generalize W2.heap.size = g2 at *
    clear hb2 hV2 hG2 b12 V1 U1 C1 K1
    have SA := Lib.hid (S13 zs va vb X2 HB.out.1 V12.out V2.out)
    have SB := Lib.hid (fun W (hb : Below X2.heap.size X2 W) => S13 gs ga gb W HB.out.2 (U12.out.below hb) (U2.out.below hb))
    clear V12 V2 U12 U2
    go_wp2_with (first
      | (go_at_call 13; first
          | ((with_reducible refine SA.out.mono ?_); rintro e W3 ⟨rfl, hb3⟩; have K3 := Lib.hid hb3; clear hb3)
          | ((with_reducible refine (SB.out _ K3.out).mono ?_); rintro e W4 ⟨rfl, hb4⟩; have K4 := Lib.hid (below_end K3.out hb4); obtain ⟨y0, y1⟩ := cnt_cells (keep_heap K4.out C12.out); obtain ⟨y2, y3⟩ := cnt_cells (keep_heap K4.out C2.out); clear hb4))
      | (go_at_call 10; refine (awake10 _).mono ?_; rintro e u3 ⟨rfl, hu3⟩))
    exact bodyPost_ret (v := .bool true) (by simp [results, Try.f5, go_sem]) rfl ⟨rfl, below_end K2.out (below_end K4.out hu3)⟩
theorem plays5 (v1 v2 : Value) (ws : List Int) (ops : List AOp) (w : World) (h1 : WAt w v1 ws) (h2 : OAt w v2 ops) :
    Calls Try.prog 5 #[v1, v2] w fun e w' => e = .returned (.bool true) ∧ Below w.heap.size w w' := by
  by_cases h : 200 < ws.length ∧ ws.length ≤ 1601 ∨ 1610 < ws.length ∨ 60 < ops.length ∧ ops.length ≤ 500 ∨ 505 < ops.length
  · obtain ⟨A1, p1, rfl, -⟩ := h1
    obtain ⟨A2, p2, rfl, -⟩ := h2
    exact plays5_skip A1 _ p1 A2 _ p2 w h
  · exact plays5_go v1 v2 ws ops w h1 h2 h
end Ytkffabochgmagaa
end Go.Proofs
