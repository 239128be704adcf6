/- nearest: each number of a config, clamped. -/
import Derived.Test.YtoebnjciioiccaaDoorLim
import Derived.StillTailTactics
import Derived.RegionTactic
import Derived.BigRegion
import Derived.LoopN
namespace Go.Proofs
namespace YtoebnjciioiccaaDoor
open Go.RowKit

def clampI (lo hi n : Int) : Int := if hi < (if n < lo then lo else n) then hi else if n < lo then lo else n
def nearStep (k : Nat) (cs : List Int) : List Int := cs.set (limOff k) (clampI (limLow k) (limHigh k) (cs.getD (limOff k) 0))
def nearL : Nat → List Int → List Int
  | 0, cs => cs
  | k + 1, cs => nearStep k (nearL k cs)
def cfgA (cs : List Int) : Array Value := (cs.map (Value.int .i64)).toArray

theorem heap_lt {w : World} {g : Nat} {o : Obj} (h : w.heap[g]? = some o) : g < w.heap.size := (Array.getElem?_eq_some_iff.1 h).1
theorem after_cfg {wr : World} {g : Nat} {cs : Array Value} {t : TypeId} (h : wr.heap[g]? = some (.cells cs t (0, 0))) (i : Nat) (v : Value) (o : Obj) : (((wr.setCell ⟨g, i, none⟩ v).alloc o).drew).heap[g]? = some (.cells (cs.setIfInBounds i v) t (0, 0)) := by
  rw [heap_drew, heap_alloc_old _ _ (by simpa using heap_lt h)]
  exact heap_setCell_same wr g i cs t v h
theorem after_other {wr : World} {g g' : Nat} {o' : Obj} (h : wr.heap[g']? = some o') (hne : g' ≠ g) (i : Nat) (v : Value) (o : Obj) : (((wr.setCell ⟨g, i, none⟩ v).alloc o).drew).heap[g']? = some o' := by
  rw [heap_drew, heap_alloc_old _ _ (by simpa using heap_lt h), heap_setCell_other _ _ _ _ hne]
  exact h
theorem after_below {w wr : World} (h : Below w.heap.size w wr) (i : Nat) (v : Value) (o : Obj) : Below w.heap.size w (((wr.setCell ⟨w.heap.size, i, none⟩ v).alloc o).drew) :=
  ((h.setCell (Nat.le_refl _) v).alloc (by simpa using h.size) o).drew

theorem info23 : (Tryd.prog.info? 23).map (·.size) = some 5 := by kernel_rfl

set_option maxRecDepth 100000 in
set_option maxHeartbeats 2000000 in
theorem near38 (C N S K Q : Int) (w : World) :
    Calls Tryd.prog 38 #[.agg (cfgA [C, N, S, K, Q])] w fun e w' => e = .returned (.agg (cfgA (nearL 5 [C, N, S, K, Q]))) ∧ Below w.heap.size w w' := by
  unfold cfgA
  simp only [List.map]
  have hx0 : ∀ w, (Instr.index 53 limV (.int .i64 0)).run Tryd.prog w = .ok (.agg #[.string ⟨#[99, 97, 114, 115]⟩, .int .i64 7, .int .i64 24, .func (.func 49) #[] #[]]) w := fun w => limV_index 0 (by omega) w
  have hx1 : ∀ w, (Instr.index 53 limV (.int .i64 1)).run Tryd.prog w = .ok (.agg #[.string ⟨#[111, 102]⟩, .int .i64 8, .int .i64 64, .func (.func 50) #[] #[]]) w := fun w => limV_index 1 (by omega) w
  have hx2 : ∀ w, (Instr.index 53 limV (.int .i64 2)).run Tryd.prog w = .ok (.agg #[.string ⟨#[110, 117, 114, 115, 101, 114, 121]⟩, .int .i64 4, .int .i64 64, .func (.func 51) #[] #[]]) w := fun w => limV_index 2 (by omega) w
  have hx3 : ∀ w, (Instr.index 53 limV (.int .i64 3)).run Tryd.prog w = .ok (.agg #[.string ⟨#[114, 101, 103, 105, 115, 116, 101, 114, 115]⟩, .int .i64 1, .int .i64 8, .func (.func 52) #[] #[]]) w := fun w => limV_index 3 (by omega) w
  have hx4 : ∀ w, (Instr.index 53 limV (.int .i64 4)).run Tryd.prog w = .ok (.agg #[.string ⟨#[112, 111, 112, 117, 108, 97, 114]⟩, .int .i64 2, .int .i64 16, .func (.func 53) #[] #[]]) w := fun w => limV_index 4 (by omega) w
  go_enter Tryd.func38, Tryd.ntmps38
  go_wp2_with (go_at_call 41; refine (lim41 _).mono ?_; rintro e w1 ⟨rfl, hb1⟩)
  have B1 := Lib.hid (((Below.refl w.heap.size w).alloc (Nat.le_refl _) (.cells #[.int .i64 C, .int .i64 N, .int .i64 S, .int .i64 K, .int .i64 Q] 23)).alloc (by simp) (.cells #[.int .i64 0, .int .i64 0, .int .i64 0, .int .i64 0, .int .i64 0] 23))
  have B2 := Lib.hid (B1.out.trans (hb1.mono (by simp; omega)))
  have H1 := Lib.hid ((hb1.block w.heap.size (by simp; omega)).trans (heap_alloc2_old _ _ _))
  have H2 := Lib.hid ((hb1.block (w.heap.size + 1) (by simp)).trans (heap_alloc2_new _ _ _))
  clear hb1 B1
  go_loopw [7] (fun i wr => ∃ k : Nat, k ≤ 5 ∧ i = .int .i64 k ∧ Hid (wr.heap[w.heap.size]? = some (.cells (cfgA (nearL k [C, N, S, K, Q])) 23 (0, 0))) ∧ Hid (wr.heap[w.heap.size + 1]? = some (.cells #[.int .i64 0, .int .i64 0, .int .i64 0, .int .i64 0, .int .i64 0] 23 (0, 0))) ∧ Hid (Below w.heap.size w wr)) (fun i _ => 5 - (intOf i).toNat)
  case atStart => exact ⟨0, by omega, rfl, H1, H2, B2⟩
  case round =>
    obtain ⟨k, hk, hi, R1, R2, RB⟩ := hrel
    match k, hk, hi, R1 with
    | 0, _, hi, R1 =>
      obtain rfl : _ = Value.int .i64 0 := hi
      have c1 : wr.cell? ⟨w.heap.size, 1, none⟩ = some (.int .i64 N) := cell_of_row _ _ 1 _ _ _ R1.out
      have f1 := frozen_of_row _ _ 1 _ _ R1.out
      have hlt := block_lt_of_cell c1
      go_wp2_with (go_at_call 49; refine (fld49 _ _).mono ?_; rintro e w2 ⟨rfl, rfl⟩)
      go_region
      go_wp2
      go_roundw
      case rel => exact ⟨1, by omega, rfl, Lib.hid (after_cfg R1.out _ _ _), Lib.hid (after_other R2.out (by omega) _ _ _), Lib.hid (after_below RB.out _ _ _)⟩
      case measure => simp [intOf]
    | 1, _, hi, R1 =>
      obtain rfl : _ = Value.int .i64 1 := hi
      have c1 : wr.cell? ⟨w.heap.size, 0, none⟩ = some (.int .i64 C) := cell_of_row _ _ 0 _ _ _ R1.out
      have f1 := frozen_of_row _ _ 0 _ _ R1.out
      have hlt := block_lt_of_cell c1
      go_wp2_with (go_at_call 50; refine (fld50 _ _).mono ?_; rintro e w2 ⟨rfl, rfl⟩)
      go_region
      go_wp2
      go_roundw
      case rel => exact ⟨2, by omega, rfl, Lib.hid (after_cfg R1.out _ _ _), Lib.hid (after_other R2.out (by omega) _ _ _), Lib.hid (after_below RB.out _ _ _)⟩
      case measure => simp [intOf]
    | 2, _, hi, R1 =>
      obtain rfl : _ = Value.int .i64 2 := hi
      have c1 : wr.cell? ⟨w.heap.size, 2, none⟩ = some (.int .i64 S) := cell_of_row _ _ 2 _ _ _ R1.out
      have f1 := frozen_of_row _ _ 2 _ _ R1.out
      have hlt := block_lt_of_cell c1
      go_wp2_with (go_at_call 51; refine (fld51 _ _).mono ?_; rintro e w2 ⟨rfl, rfl⟩)
      go_region
      go_wp2
      go_roundw
      case rel => exact ⟨3, by omega, rfl, Lib.hid (after_cfg R1.out _ _ _), Lib.hid (after_other R2.out (by omega) _ _ _), Lib.hid (after_below RB.out _ _ _)⟩
      case measure => simp [intOf]
    | 3, _, hi, R1 =>
      obtain rfl : _ = Value.int .i64 3 := hi
      have c1 : wr.cell? ⟨w.heap.size, 3, none⟩ = some (.int .i64 K) := cell_of_row _ _ 3 _ _ _ R1.out
      have f1 := frozen_of_row _ _ 3 _ _ R1.out
      have hlt := block_lt_of_cell c1
      go_wp2_with (go_at_call 52; refine (fld52 _ _).mono ?_; rintro e w2 ⟨rfl, rfl⟩)
      go_region
      go_wp2
      go_roundw
      case rel => exact ⟨4, by omega, rfl, Lib.hid (after_cfg R1.out _ _ _), Lib.hid (after_other R2.out (by omega) _ _ _), Lib.hid (after_below RB.out _ _ _)⟩
      case measure => simp [intOf]
    | 4, _, hi, R1 =>
      obtain rfl : _ = Value.int .i64 4 := hi
      have c1 : wr.cell? ⟨w.heap.size, 4, none⟩ = some (.int .i64 Q) := cell_of_row _ _ 4 _ _ _ R1.out
      have f1 := frozen_of_row _ _ 4 _ _ R1.out
      have hlt := block_lt_of_cell c1
      go_wp2_with (go_at_call 53; refine (fld53 _ _).mono ?_; rintro e w2 ⟨rfl, rfl⟩)
      go_region
      go_wp2
      go_roundw
      case rel => exact ⟨5, by omega, rfl, Lib.hid (after_cfg R1.out _ _ _), Lib.hid (after_other R2.out (by omega) _ _ _), Lib.hid (after_below RB.out _ _ _)⟩
      case measure => simp [intOf]
    | 5, _, hi, R1 =>
      obtain rfl : _ = Value.int .i64 5 := hi
      go_upto_region 7 with (fail)
      refine wp_region_lit ?_
      refine wpList_load_row rfl 23 (.tmp 1) rfl w.heap.size rfl 23 _ (0, 0) _ R1.out Tryd.underlying23 rfl info23 ?_
      refine wpList_store_row rfl 23 (.tmp 2) (.tmp 25) rfl (w.heap.size + 1) _ rfl rfl 23 _ R2.out info23 rfl (by simp [Value.oneCell', nearL, nearStep, limOff, cfgA]) ?_
      refine wpList_nil ?_
      go_wp2
      refine bodyPost_ret (v := .agg (cfgA (nearL 5 [C, N, S, K, Q]))) (results_cell_row rfl _ _ (w.heap.size + 1) 23 _ (0, 0) _ rfl (setRow_heap _ _ _ _ _ _ R2.out) Tryd.underlying23 rfl info23) rfl ⟨rfl, ?_⟩
      exact below_setRow RB.out (by omega) _
end YtoebnjciioiccaaDoor
end Go.Proofs
