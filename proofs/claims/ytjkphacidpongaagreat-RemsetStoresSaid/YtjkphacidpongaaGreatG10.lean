/- The table of limits. -/
import Derived.Test.YtjkphacidpongaaGreatProg
import Derived.WalkKit
import Derived.WalkLawsBesides
import Derived.OwnWalk
import Derived.BigQuiet
import Derived.Deep.QuietTactic
import Derived.Lib.Hide
import Derived.Outline
import Derived.Deep.Cut
import Derived.Laws.EntriesVeiled
import Derived.StillTailTactics
import Derived.RegionTactic
import Derived.BigRegion
import Derived.LoopN
namespace Go.Proofs
namespace YtjkphacidpongaaGreat
namespace Cf
open Go.RowKit

theorem fld49 (b : Nat) (w : World) : Calls Tryz.prog 120 #[.pointer (some ⟨b, 0, none⟩)] w fun e w' => e = .returned (.pointer (some ⟨b, 1, none⟩)) ∧ w = w' := by
  go_enter Tryz.func120, Tryz.ntmps120
  go_wp2
  go_ret
  exact ⟨rfl, rfl⟩
theorem fld50 (b : Nat) (w : World) : Calls Tryz.prog 121 #[.pointer (some ⟨b, 0, none⟩)] w fun e w' => e = .returned (.pointer (some ⟨b, 0, none⟩)) ∧ w = w' := by
  go_enter Tryz.func121, Tryz.ntmps121
  go_wp2
  go_ret
  exact ⟨rfl, rfl⟩
theorem fld51 (b : Nat) (w : World) : Calls Tryz.prog 122 #[.pointer (some ⟨b, 0, none⟩)] w fun e w' => e = .returned (.pointer (some ⟨b, 2, none⟩)) ∧ w = w' := by
  go_enter Tryz.func122, Tryz.ntmps122
  go_wp2
  go_ret
  exact ⟨rfl, rfl⟩
theorem fld52 (b : Nat) (w : World) : Calls Tryz.prog 123 #[.pointer (some ⟨b, 0, none⟩)] w fun e w' => e = .returned (.pointer (some ⟨b, 3, none⟩)) ∧ w = w' := by
  go_enter Tryz.func123, Tryz.ntmps123
  go_wp2
  go_ret
  exact ⟨rfl, rfl⟩
theorem fld53 (b : Nat) (w : World) : Calls Tryz.prog 124 #[.pointer (some ⟨b, 0, none⟩)] w fun e w' => e = .returned (.pointer (some ⟨b, 4, none⟩)) ∧ w = w' := by
  go_enter Tryz.func124, Tryz.ntmps124
  go_wp2
  go_ret
  exact ⟨rfl, rfl⟩

/-- the names of the five numbers, in the table's order -/
def limName : Nat → ByteArray
  | 0 => ⟨#[99, 97, 114, 115]⟩
  | 1 => ⟨#[111, 102]⟩
  | 2 => ⟨#[110, 117, 114, 115, 101, 114, 121]⟩
  | 3 => ⟨#[114, 101, 103, 105, 115, 116, 101, 114, 115]⟩
  | _ => ⟨#[112, 111, 112, 117, 108, 97, 114]⟩
def limLow : Nat → Int
  | 0 => 7
  | 1 => 8
  | 2 => 4
  | 3 => 1
  | _ => 2
def limHigh : Nat → Int
  | 0 => 24
  | 1 => 64
  | 2 => 64
  | 3 => 8
  | _ => 16
/-- which cell of a config is meant -/
def limOff : Nat → Nat
  | 0 => 1
  | 1 => 0
  | 2 => 2
  | 3 => 3
  | _ => 4
theorem fldK (k : Nat) (hk : k < 5) (b : Nat) (w : World) : Calls Tryz.prog (120 + k) #[.pointer (some ⟨b, 0, none⟩)] w fun e w' => e = .returned (.pointer (some ⟨b, limOff k, none⟩)) ∧ w = w' := by
  match k, hk with
  | 0, _ => exact fld49 b w
  | 1, _ => exact fld50 b w
  | 2, _ => exact fld51 b w
  | 3, _ => exact fld52 b w
  | 4, _ => exact fld53 b w

theorem bld52 (s : ByteArray) (lo hi : Int) (F : Nat) : Tryz.prog.built 122 [(0, .string s), (1, .int .i64 lo), (2, .int .i64 hi), (3, .func (.func F) #[] #[])] = some #[.string s, .int .i64 lo, .int .i64 hi, .func (.func F) #[] #[]] := by kernel_rfl
theorem bld53 (s0 s1 s2 s3 s4 : ByteArray) (a0 b0 a1 b1 a2 b2 a3 b3 a4 b4 : Int) (f0 f1 f2 f3 f4 : Nat) :
    Tryz.prog.built 123 [(0, .agg #[.string s0, .int .i64 a0, .int .i64 b0, .func (.func f0) #[] #[]]), (1, .agg #[.string s1, .int .i64 a1, .int .i64 b1, .func (.func f1) #[] #[]]), (2, .agg #[.string s2, .int .i64 a2, .int .i64 b2, .func (.func f2) #[] #[]]), (3, .agg #[.string s3, .int .i64 a3, .int .i64 b3, .func (.func f3) #[] #[]]), (4, .agg #[.string s4, .int .i64 a4, .int .i64 b4, .func (.func f4) #[] #[]])] = some #[.string s0, .int .i64 a0, .int .i64 b0, .func (.func f0) #[] #[], .string s1, .int .i64 a1, .int .i64 b1, .func (.func f1) #[] #[], .string s2, .int .i64 a2, .int .i64 b2, .func (.func f2) #[] #[], .string s3, .int .i64 a3, .int .i64 b3, .func (.func f3) #[] #[], .string s4, .int .i64 a4, .int .i64 b4, .func (.func f4) #[] #[]] := by kernel_rfl
theorem wpList_built {P : Program} {ops : Array Oper} {rest : List Oper} {o : Oper} {a : Act} {w : World} {Q : Exit → Act → World → Prop} (cells : Array Value) (hg : o.guard = none) (t : TypeId) (l : List (Nat × Operand)) (ho : o.op = .build t l.toArray)
    (hf : P.built t (l.map fun p => (p.1, a.eval p.2)) = some cells)
    (h : wpList P ops Q rest (a.put o.dst (.agg cells)) w) : wpList P ops Q (o :: rest) a w := by
  have e : (l.toArray.map fun (i, x) => (i, a.eval x)).toList = l.map fun p => (p.1, a.eval p.2) := by simp
  exact wpList_build hg t l.toArray ho (by rw [e, hf]; rfl) (by rw [e, hf]; exact h)
def limCells (k : Nat) : List Value := [.string (limName k), .int .i64 (limLow k), .int .i64 (limHigh k), .func (.func (120 + k)) #[] #[]]
def limV : Value := .agg (limCells 0 ++ limCells 1 ++ limCells 2 ++ limCells 3 ++ limCells 4).toArray
theorem limV_index (k : Nat) (hk : k < 5) (w : World) : (Instr.index 123 limV (.int .i64 (k : Int))).run Tryz.prog w = .ok (.agg (limCells k).toArray) w := by
  match k, hk with
  | 0, _ | 1, _ | 2, _ | 3, _ | 4, _ => show _ = _; kernel_rfl
theorem below_setRow {B : Nat} {a w : World} (h : Below B a w) {g : Nat} (hg : B ≤ g) (cells : Array Value) : Below B a (w.setRow g cells) := by
  refine ⟨h.os, h.tape, h.output, by simpa using h.size, fun k hk => ?_⟩
  rw [← h.block k hk]
  simp only [World.setRow]
  rw [Array.getElem?_modify, if_neg (by omega)]

theorem info53 : (Tryz.prog.info? 123).map (·.size) = some 20 := by kernel_rfl
set_option maxRecDepth 100000 in
theorem lim41 (w : World) : Calls Tryz.prog 99 #[] w fun e w' => e = .returned limV ∧ Below w.heap.size w w' := by
  go_enter Tryz.func99, Tryz.ntmps99
  go_upto_region 1 with (fail)
  refine wp_region_lit ?_
  refine wpList_built _ rfl 122 _ rfl (bld52 _ _ _ _) ?_
  refine wpList_built _ rfl 122 _ rfl (bld52 _ _ _ _) ?_
  refine wpList_built _ rfl 122 _ rfl (bld52 _ _ _ _) ?_
  refine wpList_built _ rfl 122 _ rfl (bld52 _ _ _ _) ?_
  refine wpList_built _ rfl 122 _ rfl (bld52 _ _ _ _) ?_
  refine wpList_built _ rfl 123 _ rfl (bld53 _ _ _ _ _ _ _ _ _ _ _ _ _ _ _ _ _ _ _ _) ?_
  refine wpList_store_row rfl 123 (.tmp 0) (.tmp 6) rfl w.heap.size _ rfl rfl 123 _ (heap_alloc_new w _) info53 rfl (by simp [Value.oneCell']) ?_
  refine wpList_nil ?_
  go_wp2
  refine bodyPost_ret (v := limV) (results_cell_row rfl _ _ w.heap.size 123 _ (0, 0) _ rfl (setRow_heap _ _ _ _ _ _ (heap_alloc_new w _)) Tryz.underlying123 rfl info53) rfl ⟨rfl, ?_⟩
  exact below_setRow ((Below.refl _ _).alloc (Nat.le_refl _) _) (Nat.le_refl _) _
end Cf
end YtjkphacidpongaaGreat
end Go.Proofs
/- nearest: each number of a config, clamped. -/
namespace Go.Proofs
namespace YtjkphacidpongaaGreat
namespace Cf
open Go.RowKit

def clampI (lo hi n : Int) : Int := if hi < (if n < lo then lo else n) then hi else if n < lo then lo else n
def nearStep (k : Nat) (cs : List Int) : List Int := cs.set (limOff k) (clampI (limLow k) (limHigh k) (cs.getD (limOff k) 0))
def nearL : Nat → List Int → List Int
  | 0, cs => cs
  | k + 1, cs => nearStep k (nearL k cs)
def cfgA (cs : List Int) : Array Value := (cs.map (Value.int .i64)).toArray

theorem heap_lt {w : World} {g : Nat} {o : Obj} (h : w.heap[g]? = some o) : g < w.heap.size := (Array.getElem?_eq_some_iff.1 h).1
theorem after_cfg {wr : World} {g : Nat} {cs : Array Value} {t : TypeId} (h : wr.heap[g]? = some (.cells cs t (0, 0))) (i : Nat) (v : Value) (o : Obj) : (((wr.setCell ⟨g, i, none⟩ v).alloc o).drew).heap[g]? = some (.cells (cs.setIfInBounds i v) t (0, 0)) := by
  rw [heap_drew, heap_alloc_old _ _ (by simpa using heap_lt h)]
  exact heap_setCell_same wr g i cs t v h
theorem after_other {wr : World} {g g' : Nat} {o' : Obj} (h : wr.heap[g']? = some o') (hne : g' ≠ g) (i : Nat) (v : Value) (o : Obj) : (((wr.setCell ⟨g, i, none⟩ v).alloc o).drew).heap[g']? = some o' := by
  rw [heap_drew, heap_alloc_old _ _ (by simpa using heap_lt h), heap_setCell_other _ _ _ _ hne]
  exact h
theorem after_below {w wr : World} (h : Below w.heap.size w wr) (i : Nat) (v : Value) (o : Obj) : Below w.heap.size w (((wr.setCell ⟨w.heap.size, i, none⟩ v).alloc o).drew) :=
  ((h.setCell (Nat.le_refl _) v).alloc (by simpa using h.size) o).drew

theorem info23 : (Tryz.prog.info? 23).map (·.size) = some 5 := by kernel_rfl

set_option maxRecDepth 100000 in
set_option maxHeartbeats 2000000 in
theorem near38 (C N S K Q : Int) (w : World) :
    Calls Tryz.prog 77 #[.agg (cfgA [C, N, S, K, Q])] w fun e w' => e = .returned (.agg (cfgA (nearL 5 [C, N, S, K, Q]))) ∧ Below w.heap.size w w' := by
  unfold cfgA
  simp only [List.map]
  have hx0 : ∀ w, (Instr.index 123 limV (.int .i64 0)).run Tryz.prog w = .ok (.agg #[.string ⟨#[99, 97, 114, 115]⟩, .int .i64 7, .int .i64 24, .func (.func 120) #[] #[]]) w := fun w => limV_index 0 (by omega) w
  have hx1 : ∀ w, (Instr.index 123 limV (.int .i64 1)).run Tryz.prog w = .ok (.agg #[.string ⟨#[111, 102]⟩, .int .i64 8, .int .i64 64, .func (.func 121) #[] #[]]) w := fun w => limV_index 1 (by omega) w
  have hx2 : ∀ w, (Instr.index 123 limV (.int .i64 2)).run Tryz.prog w = .ok (.agg #[.string ⟨#[110, 117, 114, 115, 101, 114, 121]⟩, .int .i64 4, .int .i64 64, .func (.func 122) #[] #[]]) w := fun w => limV_index 2 (by omega) w
  have hx3 : ∀ w, (Instr.index 123 limV (.int .i64 3)).run Tryz.prog w = .ok (.agg #[.string ⟨#[114, 101, 103, 105, 115, 116, 101, 114, 115]⟩, .int .i64 1, .int .i64 8, .func (.func 123) #[] #[]]) w := fun w => limV_index 3 (by omega) w
  have hx4 : ∀ w, (Instr.index 123 limV (.int .i64 4)).run Tryz.prog w = .ok (.agg #[.string ⟨#[112, 111, 112, 117, 108, 97, 114]⟩, .int .i64 2, .int .i64 16, .func (.func 124) #[] #[]]) w := fun w => limV_index 4 (by omega) w
  go_enter Tryz.func77, Tryz.ntmps77
  go_wp2_with (go_at_call 99; refine (lim41 _).mono ?_; rintro e w1 ⟨rfl, hb1⟩)
  have B1 := Lib.hid (((Below.refl w.heap.size w).alloc (Nat.le_refl _) (.cells #[.int .i64 C, .int .i64 N, .int .i64 S, .int .i64 K, .int .i64 Q] 23)).alloc (by simp) (.cells #[.int .i64 0, .int .i64 0, .int .i64 0, .int .i64 0, .int .i64 0] 23))
  have B2 := Lib.hid (B1.out.trans (hb1.mono (by simp; omega)))
  have H1 := Lib.hid ((hb1.block w.heap.size (by simp; omega)).trans (heap_alloc2_old _ _ _))
  have H2 := Lib.hid ((hb1.block (w.heap.size + 1) (by simp)).trans (heap_alloc2_new _ _ _))
  clear hb1 B1
  go_loopw [7] (fun i wr => ∃ k : Nat, k ≤ 5 ∧ i = .int .i64 k ∧ Hid (wr.heap[w.heap.size]? = some (.cells (cfgA (nearL k [C, N, S, K, Q])) 23 (0, 0))) ∧ Hid (wr.heap[w.heap.size + 1]? = some (.cells #[.int .i64 0, .int .i64 0, .int .i64 0, .int .i64 0, .int .i64 0] 23 (0, 0))) ∧ Hid (Below w.heap.size w wr)) (fun i _ => 5 - (intOf i).toNat)
  case atStart => exact ⟨0, by omega, rfl, H1, H2, B2⟩
  case round =>
    obtain ⟨k, hk, hi, R1, R2, RB⟩ := hrel
    match k, hk, hi, R1 with
    | 0, _, hi, R1 =>
      obtain rfl : _ = Value.int .i64 0 := hi
      have c1 : wr.cell? ⟨w.heap.size, 1, none⟩ = some (.int .i64 N) := cell_of_row _ _ 1 _ _ _ R1.out
      have f1 := frozen_of_row _ _ 1 _ _ R1.out
      have hlt := block_lt_of_cell c1
      go_wp2_with (go_at_call 120; refine (fld49 _ _).mono ?_; rintro e w2 ⟨rfl, rfl⟩)
      go_region
      go_wp2
      go_roundw
      case rel => exact ⟨1, by omega, rfl, Lib.hid (after_cfg R1.out _ _ _), Lib.hid (after_other R2.out (by omega) _ _ _), Lib.hid (after_below RB.out _ _ _)⟩
      case measure => simp [intOf]
    | 1, _, hi, R1 =>
      obtain rfl : _ = Value.int .i64 1 := hi
      have c1 : wr.cell? ⟨w.heap.size, 0, none⟩ = some (.int .i64 C) := cell_of_row _ _ 0 _ _ _ R1.out
      have f1 := frozen_of_row _ _ 0 _ _ R1.out
      have hlt := block_lt_of_cell c1
      go_wp2_with (go_at_call 121; refine (fld50 _ _).mono ?_; rintro e w2 ⟨rfl, rfl⟩)
      go_region
      go_wp2
      go_roundw
      case rel => exact ⟨2, by omega, rfl, Lib.hid (after_cfg R1.out _ _ _), Lib.hid (after_other R2.out (by omega) _ _ _), Lib.hid (after_below RB.out _ _ _)⟩
      case measure => simp [intOf]
    | 2, _, hi, R1 =>
      obtain rfl : _ = Value.int .i64 2 := hi
      have c1 : wr.cell? ⟨w.heap.size, 2, none⟩ = some (.int .i64 S) := cell_of_row _ _ 2 _ _ _ R1.out
      have f1 := frozen_of_row _ _ 2 _ _ R1.out
      have hlt := block_lt_of_cell c1
      go_wp2_with (go_at_call 122; refine (fld51 _ _).mono ?_; rintro e w2 ⟨rfl, rfl⟩)
      go_region
      go_wp2
      go_roundw
      case rel => exact ⟨3, by omega, rfl, Lib.hid (after_cfg R1.out _ _ _), Lib.hid (after_other R2.out (by omega) _ _ _), Lib.hid (after_below RB.out _ _ _)⟩
      case measure => simp [intOf]
    | 3, _, hi, R1 =>
      obtain rfl : _ = Value.int .i64 3 := hi
      have c1 : wr.cell? ⟨w.heap.size, 3, none⟩ = some (.int .i64 K) := cell_of_row _ _ 3 _ _ _ R1.out
      have f1 := frozen_of_row _ _ 3 _ _ R1.out
      have hlt := block_lt_of_cell c1
      go_wp2_with (go_at_call 123; refine (fld52 _ _).mono ?_; rintro e w2 ⟨rfl, rfl⟩)
      go_region
      go_wp2
      go_roundw
      case rel => exact ⟨4, by omega, rfl, Lib.hid (after_cfg R1.out _ _ _), Lib.hid (after_other R2.out (by omega) _ _ _), Lib.hid (after_below RB.out _ _ _)⟩
      case measure => simp [intOf]
    | 4, _, hi, R1 =>
      obtain rfl : _ = Value.int .i64 4 := hi
      have c1 : wr.cell? ⟨w.heap.size, 4, none⟩ = some (.int .i64 Q) := cell_of_row _ _ 4 _ _ _ R1.out
      have f1 := frozen_of_row _ _ 4 _ _ R1.out
      have hlt := block_lt_of_cell c1
      go_wp2_with (go_at_call 124; refine (fld53 _ _).mono ?_; rintro e w2 ⟨rfl, rfl⟩)
      go_region
      go_wp2
      go_roundw
      case rel => exact ⟨5, by omega, rfl, Lib.hid (after_cfg R1.out _ _ _), Lib.hid (after_other R2.out (by omega) _ _ _), Lib.hid (after_below RB.out _ _ _)⟩
      case measure => simp [intOf]
    | 5, _, hi, R1 =>
      obtain rfl : _ = Value.int .i64 5 := hi
      go_upto_region 7 with (fail)
      refine wp_region_lit ?_
      refine wpList_load_row rfl 23 (.tmp 1) rfl w.heap.size rfl 23 _ (0, 0) _ R1.out Tryz.underlying23 rfl info23 ?_
      refine wpList_store_row rfl 23 (.tmp 2) (.tmp 25) rfl (w.heap.size + 1) _ rfl rfl 23 _ R2.out info23 rfl (by simp [Value.oneCell', nearL, nearStep, limOff, cfgA]) ?_
      refine wpList_nil ?_
      go_wp2
      refine bodyPost_ret (v := .agg (cfgA (nearL 5 [C, N, S, K, Q]))) (results_cell_row rfl _ _ (w.heap.size + 1)  23 _ (0, 0) _ rfl (setRow_heap _ _ _ _ _ _ R2.out) Tryz.underlying23 rfl info23) rfl ⟨rfl, ?_⟩
      exact below_setRow RB.out (by omega) _
end Cf
end YtjkphacidpongaaGreat
end Go.Proofs
