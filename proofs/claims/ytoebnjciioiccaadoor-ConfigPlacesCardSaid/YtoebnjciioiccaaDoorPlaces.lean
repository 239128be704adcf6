/- The law ConfigPlaces. -/
import Derived.Test.YtoebnjciioiccaaDoorRPlace
namespace Go.Proofs
namespace YtoebnjciioiccaaDoor
open Go.RowKit

theorem tw_below {w W W' : World} {C N S K Q x y : Int} (h : W.heap[w.heap.size]? = some (.cells #[.int .i64 C, .int .i64 N, .int .i64 S, .int .i64 K, .int .i64 Q] 23 (0, 0)) ∧ W.heap[w.heap.size + 1]? = some (.cells #[.int .i64 x, .int .i64 y] 33 (0, 0)) ∧ Below w.heap.size w W) (hb : Below W.heap.size W W') : W'.heap[w.heap.size]? = some (.cells #[.int .i64 C, .int .i64 N, .int .i64 S, .int .i64 K, .int .i64 Q] 23 (0, 0)) ∧ W'.heap[w.heap.size + 1]? = some (.cells #[.int .i64 x, .int .i64 y] 33 (0, 0)) ∧ Below w.heap.size w W' := by
  obtain ⟨h0, h1, hB⟩ := h
  exact ⟨(hb.block _ (heap_lt h0)).trans h0, (hb.block _ (heap_lt h1)).trans h1, hB.trans (hb.mono hB.size)⟩
theorem tw_new (w : World) (C N S K Q x y : Int) : ((w.alloc (.cells #[.int .i64 C, .int .i64 N, .int .i64 S, .int .i64 K, .int .i64 Q] 23)).alloc (.cells #[.int .i64 x, .int .i64 y] 33)).heap[w.heap.size]? = some (.cells #[.int .i64 C, .int .i64 N, .int .i64 S, .int .i64 K, .int .i64 Q] 23 (0, 0)) ∧ ((w.alloc (.cells #[.int .i64 C, .int .i64 N, .int .i64 S, .int .i64 K, .int .i64 Q] 23)).alloc (.cells #[.int .i64 x, .int .i64 y] 33)).heap[w.heap.size + 1]? = some (.cells #[.int .i64 x, .int .i64 y] 33 (0, 0)) ∧ Below w.heap.size w ((w.alloc (.cells #[.int .i64 C, .int .i64 N, .int .i64 S, .int .i64 K, .int .i64 Q] 23)).alloc (.cells #[.int .i64 x, .int .i64 y] 33)) :=
  ⟨heap_alloc2_old _ _ _, heap_alloc2_new _ _ _, ((Below.refl _ _).alloc (Nat.le_refl _) _).alloc (by simp) _⟩
theorem tw_cells {w W : World} {C N S K Q x y : Int} (h : W.heap[w.heap.size]? = some (.cells #[.int .i64 C, .int .i64 N, .int .i64 S, .int .i64 K, .int .i64 Q] 23 (0, 0)) ∧ W.heap[w.heap.size + 1]? = some (.cells #[.int .i64 x, .int .i64 y] 33 (0, 0)) ∧ Below w.heap.size w W) : W.cell? ⟨w.heap.size, 0, none⟩ = some (.int .i64 C) ∧ W.cell? ⟨w.heap.size, 1, none⟩ = some (.int .i64 N) ∧ W.cell? ⟨w.heap.size, 2, none⟩ = some (.int .i64 S) ∧ W.cell? ⟨w.heap.size, 3, none⟩ = some (.int .i64 K) ∧ W.cell? ⟨w.heap.size, 4, none⟩ = some (.int .i64 Q) ∧ W.cell? ⟨w.heap.size + 1, 0, none⟩ = some (.int .i64 x) ∧ W.cell? ⟨w.heap.size + 1, 1, none⟩ = some (.int .i64 y) :=
  ⟨by rw [cell_of_row _ _ _ _ _ _ h.1]; rfl, by rw [cell_of_row _ _ _ _ _ _ h.1]; rfl, by rw [cell_of_row _ _ _ _ _ _ h.1]; rfl, by rw [cell_of_row _ _ _ _ _ _ h.1]; rfl, by rw [cell_of_row _ _ _ _ _ _ h.1]; rfl, by rw [cell_of_row _ _ _ _ _ _ h.2.1]; rfl, by rw [cell_of_row _ _ _ _ _ _ h.2.1]; rfl⟩

set_option maxRecDepth 100000 in
set_option maxHeartbeats 4000000 in
theorem places5 (C N S K Q a x y : Int) (w : World) :
    Calls Tryd.prog 5 #[.agg #[.int .i64 C, .int .i64 N, .int .i64 S, .int .i64 K, .int .i64 Q], .int .i64 a, .agg #[.int .i64 x, .int .i64 y]] w fun e w' => e = .returned (.bool true) ∧ Below w.heap.size w w' := by
  have F24 := Lib.hid (space24 C N S K Q x)
  have F25 := Lib.hid (space25 C N S K Q x)
  have F26 := Lib.hid (car26_of C N S K Q a _ _ _ (Lib.hid (place28 C N S K Q a)))
  have F27 := Lib.hid (car27_of C N S K Q a _ _ _ (Lib.hid (place29 C N S K Q a)))
  have F28 := Lib.hid (place28 C N S K Q a)
  have F29 := Lib.hid (place29 C N S K Q a)
  have F30 := Lib.hid (addr30 C N S K Q x y)
  have F31 := Lib.hid (addr31 C N S K Q x y)
  have s0 := Lib.hid (tw_new w C N S K Q x y)
  generalize spaceS C N S K Q x = RS at *
  generalize spaceT C N S K Q x = RT at *
  generalize spaceE C N S K Q x = RE at *
  generalize plC C N S K Q a = PC at *
  generalize plO C N S K Q a = PO at *
  generalize plE C N S K Q a = PE at *
  generalize addrR C N S K Q x y = AR at *
  generalize addrE C N S K Q x y = AE at *
  go_enter Tryd.func5, Tryd.ntmps5
  go_wp2_with (first
    | (go_at_call 24; refine (F24.out _).mono ?_; rintro e w1 ⟨rfl, hb⟩; have s1 := Lib.hid (tw_below s0.out hb); clear hb; obtain ⟨a0, a1, a2, a3, a4, a5, a6⟩ := tw_cells s1.out)
    | (go_at_call 25; refine (F25.out _).mono ?_; rintro e w2 ⟨rfl, hb⟩; have s2 := Lib.hid (tw_below s1.out hb); clear hb a0 a1 a2 a3 a4 a5 a6; obtain ⟨a0, a1, a2, a3, a4, a5, a6⟩ := tw_cells s2.out)
    | (go_at_call 26; refine (F26.out _).mono ?_; rintro e w3 ⟨rfl, hb⟩; have s3 := Lib.hid (tw_below s2.out hb); clear hb a0 a1 a2 a3 a4 a5 a6; obtain ⟨a0, a1, a2, a3, a4, a5, a6⟩ := tw_cells s3.out)
    | (go_at_call 27; refine (F27.out _).mono ?_; rintro e w4 ⟨rfl, hb⟩; have s4 := Lib.hid (tw_below s3.out hb); clear hb a0 a1 a2 a3 a4 a5 a6; obtain ⟨a0, a1, a2, a3, a4, a5, a6⟩ := tw_cells s4.out)
    | (go_at_call 28; refine (F28.out _).mono ?_; rintro e w5 ⟨rfl, hb⟩; have s5 := Lib.hid (tw_below s4.out hb); clear hb a0 a1 a2 a3 a4 a5 a6; obtain ⟨a0, a1, a2, a3, a4, a5, a6⟩ := tw_cells s5.out)
    | (go_at_call 29; refine (F29.out _).mono ?_; rintro e w6 ⟨rfl, hb⟩; have s6 := Lib.hid (tw_below s5.out hb); clear hb a0 a1 a2 a3 a4 a5 a6; obtain ⟨a0, a1, a2, a3, a4, a5, a6⟩ := tw_cells s6.out)
    | (go_at_call 30; refine (F30.out _).mono ?_; rintro e w7 ⟨rfl, hb⟩; have s7 := Lib.hid (tw_below s6.out hb); clear hb a0 a1 a2 a3 a4 a5 a6; obtain ⟨a0, a1, a2, a3, a4, a5, a6⟩ := tw_cells s7.out)
    | (go_at_call 31; refine (F31.out _).mono ?_; rintro e w8 ⟨rfl, hb⟩; have s8 := Lib.hid (tw_below s7.out hb); clear hb a0 a1 a2 a3 a4 a5 a6; obtain ⟨a0, a1, a2, a3, a4, a5, a6⟩ := tw_cells s8.out)
    | (go_at_call 15; refine (awake15 _).mono ?_; rintro e w9 ⟨rfl, hb9⟩; have s9 := Lib.hid (tw_below s8.out hb9)))
  go_ret
  exact ⟨rfl, s9.out.2.2⟩
end YtoebnjciioiccaaDoor
end Go.Proofs
