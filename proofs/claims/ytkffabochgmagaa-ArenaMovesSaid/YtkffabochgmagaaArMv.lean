/- The law ArenaMoves answers true, whatever the words and the numbers. -/
import Derived.Test.YtkffabochgmagaaArX
import Derived.Test.YtkffabochgmagaaArZz
import Derived.Test.YtkffabochgmagaaArRc
import Derived.Test.YtkffabochgmagaaArRd
import Derived.Test.YtkffabochgmagaaArRz
import Derived.Test.YtkffabochgmagaaArRf
namespace Go.Proofs
namespace Ytkffabochgmagaa
open Go.RowKit

theorem clr_len (ws : List Int) (a n : Int) : (clrF ws a n).1.length ≤ ws.length := by
  unfold clrF
  by_cases hc : chkF ws ≠ 0
  · rw [if_pos hc]; simp
  · rw [if_neg hc]
    by_cases hp : partB ws.length a n = true
    · rw [if_pos hp]
      have := partB_spec.1 hp
      exact Nat.le_of_eq (zeroL_length (by omega))
    · rw [if_neg hp]; simp
theorem cpy_len (ws : List Int) (a b n : Int) : (cpyF ws a b n).1.length ≤ ws.length := by
  unfold cpyF
  by_cases hc : chkF ws ≠ 0
  · rw [if_pos hc]; simp
  · rw [if_neg hc]
    by_cases hp : partB ws.length a n = true ∧ partB ws.length b n = true
    · rw [if_pos hp]
      have := partB_spec.1 hp.1
      have := partB_spec.1 hp.2
      exact Nat.le_of_eq (copyL_length (by omega) (by omega))
    · rw [if_neg hp]; simp
theorem diffs_len (k : Nat) (xs ys : List Int) : (diffs k xs ys).length ≤ xs.length := by
  induction xs generalizing k ys with
  | nil => simp [diffs_nil]
  | cons x xs ih =>
    cases ys with
    | nil => simp [diffs]
    | cons y ys =>
      rw [diffs]
      have := ih (k + 1) ys
      split <;> simp <;> omega
theorem differ_len (xs ys : List Int) : (differF xs ys).1.length ≤ xs.length := by
  unfold differF
  split
  · simp
  · split
    · simp
    · split
      · simp
      · exact diffs_len _ _ _
/-- the three numbers lie in block g -/
def Tri (W : World) (g : Nat) (a b n : Int) : Prop := ∃ t, W.heap[g]? = some (.cells #[.int .i64 a, .int .i64 b, .int .i64 n] t (0, 0))
theorem Tri.below {W W' : World} {g : Nat} {a b n : Int} (h : Tri W g a b n) (hb : Below W.heap.size W W') : Tri W' g a b n := by
  obtain ⟨t, h⟩ := h
  exact ⟨t, keep_heap hb h⟩
theorem Tri.cells {W : World} {g : Nat} {a b n : Int} (h : Tri W g a b n) : W.cell? ⟨g, 0, none⟩ = some (.int .i64 a) ∧ W.cell? ⟨g, 1, none⟩ = some (.int .i64 b) ∧ W.cell? ⟨g, 2, none⟩ = some (.int .i64 n) := by
  obtain ⟨t, h⟩ := h
  refine ⟨?_, ?_, ?_⟩ <;> rw [cell_of_row _ _ _ _ _ _ h] <;> rfl
set_option maxRecDepth 100000 in
set_option maxHeartbeats 2000000 in
theorem moves4_long (v1 v2 : Value) (xs ys : List Int) (a b n : Int) (w : World) (h1 : WAt w v1 xs) (h2 : WAt w v2 ys) (hl : 1610 < xs.length ∨ 1610 < ys.length) :
    Calls Try.prog 4 #[v1, v2, .agg #[.int .i64 a, .int .i64 b, .int .i64 n]] w fun e w' => e = .returned (.bool true) ∧ Below w.heap.size w w' := by
  obtain ⟨A1, p1, rfl, -⟩ := h1
  obtain ⟨A2, p2, rfl, -⟩ := h2
  by_cases hx : 1610 < xs.length
  · have q : decide ((1610 : Int) < (xs.length : Int)) = true := decide_eq_true (by omega)
    go_enter Try.func4, Try.ntmps4
    go_wp2_with (go_at_call 10; refine (awake10 _).mono ?_; rintro e u3 ⟨rfl, hu3⟩)
    exact bodyPost_ret (v := .bool true) (by simp [results, Try.f4, go_sem]) rfl ⟨rfl, below_end (alloc_below w _) hu3⟩
  · have q : decide ((1610 : Int) < (xs.length : Int)) = false := decide_eq_false (by omega)
    have q2 : decide ((1610 : Int) < (ys.length : Int)) = true := decide_eq_true (by omega)
    go_enter Try.func4, Try.ntmps4
    go_wp2_with (go_at_call 10; refine (awake10 _).mono ?_; rintro e u3 ⟨rfl, hu3⟩)
    exact bodyPost_ret (v := .bool true) (by simp [results, Try.f4, go_sem]) rfl ⟨rfl, below_end (alloc_below w _) hu3⟩
set_option maxRecDepth 100000 in
set_option maxHeartbeats 2000000 in
theorem moves4_good (A2 : Option Addr) (p2 : Nat) (v1 : Value) (xs ys : List Int) (a b n : Int) (w : World) (h1 : WAt w v1 xs) (h2 : WAt w (.slice A2 ys.length p2) ys) (hcap : ys.length ≤ p2) (hx : xs.length ≤ 1610) (hy : ys.length ≤ 1610)
    (a1 : -9223372036854775808 ≤ a) (a2 : a ≤ 9223372036854775807) (b1 : -9223372036854775808 ≤ b) (b2 : b ≤ 9223372036854775807) :
    Calls Try.prog 4 #[v1, .slice A2 ys.length p2, .agg #[.int .i64 a, .int .i64 b, .int .i64 n]] w fun e w' => e = .returned (.bool true) ∧ Below w.heap.size w w' := by
  have q1 : decide ((1610 : Int) < (xs.length : Int)) = false := decide_eq_false (by omega)
  have q2 : decide ((1610 : Int) < (ys.length : Int)) = false := decide_eq_false (by omega)
  have F20 := Lib.hid (show ∀ W, Below w.heap.size w W → Calls Try.prog 20 #[.slice A2 ys.length p2, .int .i64 a, .int .i64 b, .int .i64 n] W fun e w' => CAns W (cpyF ys a b n) e w' from fun W hb => by
    rw [← after_cpy]; exact copy20 _ ys a b n W (h2.below hb) (by omega))
  have F21 := Lib.hid (show ∀ W, Below w.heap.size w W → Calls Try.prog 21 #[.slice A2 ys.length p2, .int .i64 a, .int .i64 b, .int .i64 n] W fun e w' => CAns W (cpyF ys a b n) e w' from fun W hb => rcopy21 _ ys a b n W (h2.below hb) (by omega))
  have F22 := Lib.hid (show ∀ W, Below w.heap.size w W → Calls Try.prog 22 #[.slice A2 ys.length p2, .int .i64 a, .int .i64 n] W fun e w' => CAns W (clrF ys a n) e w' from fun W hb => by
    rw [← after_clr]; exact clear22 _ ys a n W (h2.below hb) (by omega))
  have F23 := Lib.hid (show ∀ W, Below w.heap.size w W → Calls Try.prog 23 #[.slice A2 ys.length p2, .int .i64 a, .int .i64 n] W fun e w' => CAns W (clrF ys a n) e w' from fun W hb => rclear23 _ ys a n W (h2.below hb) (by omega))
  have F24 := Lib.hid (show ∀ W, Below w.heap.size w W → Calls Try.prog 24 #[.slice A2 ys.length p2, .int .i64 a, .int .i64 b] W fun e w' => e = .returned (.tuple #[.bool (zeroF ys a b).1, .int .i64 (zeroF ys a b).2]) ∧ W = w' from fun W hb => zero24 A2 p2 ys a b W (h2.below hb) (by omega) (by omega) a1 a2 b1 b2)
  have F25 := Lib.hid (show ∀ W, Below w.heap.size w W → Calls Try.prog 25 #[.slice A2 ys.length p2, .int .i64 a, .int .i64 b] W fun e w' => e = .returned (.tuple #[.bool (zeroF ys a b).1, .int .i64 (zeroF ys a b).2]) ∧ W = w' from fun W hb => rzero25 _ ys a b W (h2.below hb) (by omega))
  have F26 := Lib.hid (show ∀ W, Below w.heap.size w W → Calls Try.prog 26 #[v1, .slice A2 ys.length p2] W fun e w' => DAns W (differF xs ys) e w' from fun W hb => differ26 _ _ xs ys W (h1.below hb) (h2.below hb) (by omega) (by omega))
  have F27 := Lib.hid (show ∀ W, Below w.heap.size w W → Calls Try.prog 27 #[v1, .slice A2 ys.length p2] W fun e w' => DAns W (differF xs ys) e w' from fun W hb => rdiffer27 _ _ xs ys W (h1.below hb) (h2.below hb) (by omega) (by omega))
  have L1 := Lib.hid (Nat.le_trans (cpy_len ys a b n) (show ys.length ≤ 1000000 by omega))
  have L2 := Lib.hid (Nat.le_trans (clr_len ys a n) (show ys.length ≤ 1000000 by omega))
  have L3 := Lib.hid (Nat.le_trans (differ_len xs ys) (show xs.length ≤ 1000000 by omega))
  clear h2 a1 a2 b1 b2 hcap hy hx
  obtain ⟨A1, p1, rfl, -⟩ := h1
  generalize cpyF ys a b n = R1 at *
  generalize clrF ys a n = R2 at *
  generalize zeroF ys a b = R3 at *
  generalize differF xs ys = R4 at *
  generalize xs.length = lx at *
  generalize ys.length = ly at *
  obtain ⟨r1, e1⟩ := R1
  obtain ⟨r2, e2⟩ := R2
  obtain ⟨z3, e3⟩ := R3
  obtain ⟨r4, e4⟩ := R4
  dsimp only at F24 F25 L1 L2 L3
  have n1 : (e1 != e1) = false := by simp
  have n2 : (e2 != e2) = false := by simp
  have n3 : (e3 == e3) = true := by simp
  have n4 : (e4 == e4) = true := by simp
  have n5 : (z3 == z3) = true := by simp
  go_enter Try.func4, Try.ntmps4
  go_upto_region 3 with (fail)
  have T0 := Lib.hid (show Tri _ w.heap.size a b n from ⟨_, heap_alloc_new w (.cells #[.int .i64 a, .int .i64 b, .int .i64 n] 38)⟩)
  have K0 := Lib.hid (alloc_below w (.cells #[.int .i64 a, .int .i64 b, .int .i64 n] 38))
  generalize w.alloc (.cells #[.int .i64 a, .int .i64 b, .int .i64 n] 38) = W0 at *
  obtain ⟨d0, d1, d2⟩ := T0.out.cells
  go_upto_region 4 with (go_at_call 20; refine (F20.out _ K0.out).mono ?_; rintro e W1 ⟨va, rfl, hA, hb1⟩)
  clear d0 d1 d2
  have A1 := Lib.hid (WAt.of_own hA)
  have K1 := Lib.hid (below_end K0.out hb1)
  have T1 := Lib.hid (T0.out.below hb1)
  clear hA hb1 T0 K0
  obtain ⟨d0, d1, d2⟩ := T1.out.cells
  go_upto_region 5 with (go_at_call 21; refine (F21.out _ K1.out).mono ?_; rintro e W2 ⟨vb, rfl, hA, hb1⟩)
  clear d0 d1 d2
  have B2 := Lib.hid (WAt.of_own hA)
  have A2' := Lib.hid (A1.out.below hb1)
  have K2 := Lib.hid (below_end K1.out hb1)
  have T2 := Lib.hid (T1.out.below hb1)
  clear hA hb1 T1 K1 A1
  go_upto_region 7 with (go_at_call 13; refine (S13 r1 _ _ _ L1.out A2'.out B2.out).mono ?_; rintro e W3 ⟨rfl, hb1⟩)
  have K3 := Lib.hid (below_end K2.out hb1)
  have T3 := Lib.hid (T2.out.below hb1)
  clear hb1 T2 K2 A2' B2
  obtain ⟨d0, d1, d2⟩ := T3.out.cells
  go_upto_region 8 with (go_at_call 22; refine (F22.out _ K3.out).mono ?_; rintro e W4 ⟨vc, rfl, hA, hb1⟩)
  clear d0 d1 d2
  have A4 := Lib.hid (WAt.of_own hA)
  have K4 := Lib.hid (below_end K3.out hb1)
  have T4 := Lib.hid (T3.out.below hb1)
  clear hA hb1 T3 K3
  obtain ⟨d0, d1, d2⟩ := T4.out.cells
  go_upto_region 9 with (go_at_call 23; refine (F23.out _ K4.out).mono ?_; rintro e W5 ⟨vd, rfl, hA, hb1⟩)
  clear d0 d1 d2
  have B5 := Lib.hid (WAt.of_own hA)
  have A5 := Lib.hid (A4.out.below hb1)
  have K5' := Lib.hid (below_end K4.out hb1)
  have T5 := Lib.hid (T4.out.below hb1)
  clear hA hb1 T4 K4 A4
  go_upto_region 11 with (go_at_call 13; refine (S13 r2 _ _ _ L2.out A5.out B5.out).mono ?_; rintro e W6 ⟨rfl, hb1⟩)
  have K6' := Lib.hid (below_end K5'.out hb1)
  have T6 := Lib.hid (T5.out.below hb1)
  clear hb1 T5 K5' A5 B5
  obtain ⟨d0, d1, d2⟩ := T6.out.cells
  go_upto_region 12 with (go_at_call 24; refine (F24.out _ K6'.out).mono ?_; rintro e W' ⟨rfl, rfl⟩)
  go_upto_region 13 with (go_at_call 25; refine (F25.out _ K6'.out).mono ?_; rintro e W' ⟨rfl, rfl⟩)
  clear d0 d1 d2
  go_upto_region 14 with (go_at_call 26; refine (F26.out _ K6'.out).mono ?_; rintro e W7 ⟨ve, rfl, hA, hb1⟩)
  have A7 := Lib.hid (IAt.of_own hA)
  have K7 := Lib.hid (below_end K6'.out hb1)
  clear hA hb1 T6 K6'
  go_upto_region 15 with (go_at_call 27; refine (F27.out _ K7.out).mono ?_; rintro e W8 ⟨vf, rfl, hA, hb1⟩)
  have B8 := Lib.hid (IAt.of_own hA)
  have A8 := Lib.hid (A7.out.below hb1)
  have K8 := Lib.hid (below_end K7.out hb1)
  clear hA hb1 K7 A7
  go_wp2_with (first
    | (go_at_call 28; refine (I28 r4 _ _ _ L3.out A8.out B8.out).mono ?_; rintro e u1 ⟨rfl, hu1⟩; have j1 := Lib.hid (below_end K8.out hu1); clear hu1)
    | (go_at_call 10; refine (awake10 _).mono ?_; rintro e u3 ⟨rfl, hu3⟩; have j3 := Lib.hid (below_end j1.out hu3); clear hu3))
  exact bodyPost_ret (v := .bool true) (by simp [results, Try.f4, go_sem]) rfl ⟨rfl, j3.out⟩
end Ytkffabochgmagaa
end Go.Proofs
