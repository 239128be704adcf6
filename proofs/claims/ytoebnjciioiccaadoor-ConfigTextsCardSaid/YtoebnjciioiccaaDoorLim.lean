/- The table of limits. -/
import Derived.Test.YtoebnjciioiccaaDoorProg
import Derived.WalkKit
import Derived.WalkLawsBesides
import Derived.OwnWalk
import Derived.BigQuiet
import Derived.Deep.QuietTactic
import Derived.Lib.Hide
import Derived.Outline
import Derived.Deep.Cut
import Derived.Laws.EntriesVeiled
namespace Go.Proofs
namespace YtoebnjciioiccaaDoor
open Go.RowKit

theorem fld49 (b : Nat) (w : World) : Calls Tryd.prog 49 #[.pointer (some ⟨b, 0, none⟩)] w fun e w' => e = .returned (.pointer (some ⟨b, 1, none⟩)) ∧ w = w' := by
  go_enter Tryd.func49, Tryd.ntmps49
  go_wp2
  go_ret
  exact ⟨rfl, rfl⟩
theorem fld50 (b : Nat) (w : World) : Calls Tryd.prog 50 #[.pointer (some ⟨b, 0, none⟩)] w fun e w' => e = .returned (.pointer (some ⟨b, 0, none⟩)) ∧ w = w' := by
  go_enter Tryd.func50, Tryd.ntmps50
  go_wp2
  go_ret
  exact ⟨rfl, rfl⟩
theorem fld51 (b : Nat) (w : World) : Calls Tryd.prog 51 #[.pointer (some ⟨b, 0, none⟩)] w fun e w' => e = .returned (.pointer (some ⟨b, 2, none⟩)) ∧ w = w' := by
  go_enter Tryd.func51, Tryd.ntmps51
  go_wp2
  go_ret
  exact ⟨rfl, rfl⟩
theorem fld52 (b : Nat) (w : World) : Calls Tryd.prog 52 #[.pointer (some ⟨b, 0, none⟩)] w fun e w' => e = .returned (.pointer (some ⟨b, 3, none⟩)) ∧ w = w' := by
  go_enter Tryd.func52, Tryd.ntmps52
  go_wp2
  go_ret
  exact ⟨rfl, rfl⟩
theorem fld53 (b : Nat) (w : World) : Calls Tryd.prog 53 #[.pointer (some ⟨b, 0, none⟩)] w fun e w' => e = .returned (.pointer (some ⟨b, 4, none⟩)) ∧ w = w' := by
  go_enter Tryd.func53, Tryd.ntmps53
  go_wp2
  go_ret
  exact ⟨rfl, rfl⟩

/-- the names of the five numbers, in the table's order -/
def limName : Nat → ByteArray
  | 0 => ⟨#[99, 97, 114, 115]⟩
  | 1 => ⟨#[111, 102]⟩
  | 2 => ⟨#[110, 117, 114, 115, 101, 114, 121]⟩
  | 3 => ⟨#[114, 101, 103, 105, 115, 116, 101, 114, 115]⟩
  | _ => ⟨#[112, 111, 112, 117, 108, 97, 114]⟩
def limLow : Nat → Int
  | 0 => 7
  | 1 => 8
  | 2 => 4
  | 3 => 1
  | _ => 2
def limHigh : Nat → Int
  | 0 => 24
  | 1 => 64
  | 2 => 64
  | 3 => 8
  | _ => 16
/-- which cell of a config is meant -/
def limOff : Nat → Nat
  | 0 => 1
  | 1 => 0
  | 2 => 2
  | 3 => 3
  | _ => 4
theorem fldK (k : Nat) (hk : k < 5) (b : Nat) (w : World) : Calls Tryd.prog (49 + k) #[.pointer (some ⟨b, 0, none⟩)] w fun e w' => e = .returned (.pointer (some ⟨b, limOff k, none⟩)) ∧ w = w' := by
  match k, hk with
  | 0, _ => exact fld49 b w
  | 1, _ => exact fld50 b w
  | 2, _ => exact fld51 b w
  | 3, _ => exact fld52 b w
  | 4, _ => exact fld53 b w

theorem bld52 (s : ByteArray) (lo hi : Int) (F : Nat) : Tryd.prog.built 52 [(0, .string s), (1, .int .i64 lo), (2, .int .i64 hi), (3, .func (.func F) #[] #[])] = some #[.string s, .int .i64 lo, .int .i64 hi, .func (.func F) #[] #[]] := by kernel_rfl
theorem bld53 (s0 s1 s2 s3 s4 : ByteArray) (a0 b0 a1 b1 a2 b2 a3 b3 a4 b4 : Int) (f0 f1 f2 f3 f4 : Nat) :
    Tryd.prog.built 53 [(0, .agg #[.string s0, .int .i64 a0, .int .i64 b0, .func (.func f0) #[] #[]]), (1, .agg #[.string s1, .int .i64 a1, .int .i64 b1, .func (.func f1) #[] #[]]), (2, .agg #[.string s2, .int .i64 a2, .int .i64 b2, .func (.func f2) #[] #[]]), (3, .agg #[.string s3, .int .i64 a3, .int .i64 b3, .func (.func f3) #[] #[]]), (4, .agg #[.string s4, .int .i64 a4, .int .i64 b4, .func (.func f4) #[] #[]])] = some #[.string s0, .int .i64 a0, .int .i64 b0, .func (.func f0) #[] #[], .string s1, .int .i64 a1, .int .i64 b1, .func (.func f1) #[] #[], .string s2, .int .i64 a2, .int .i64 b2, .func (.func f2) #[] #[], .string s3, .int .i64 a3, .int .i64 b3, .func (.func f3) #[] #[], .string s4, .int .i64 a4, .int .i64 b4, .func (.func f4) #[] #[]] := by kernel_rfl
theorem wpList_built {P : Program} {ops : Array Oper} {rest : List Oper} {o : Oper} {a : Act} {w : World} {Q : Exit → Act → World → Prop} (cells : Array Value) (hg : o.guard = none) (t : TypeId) (l : List (Nat × Operand)) (ho : o.op = .build t l.toArray)
    (hf : P.built t (l.map fun p => (p.1, a.eval p.2)) = some cells)
    (h : wpList P ops Q rest (a.put o.dst (.agg cells)) w) : wpList P ops Q (o :: rest) a w := by
  have e : (l.toArray.map fun (i, x) => (i, a.eval x)).toList = l.map fun p => (p.1, a.eval p.2) := by simp
  exact wpList_build hg t l.toArray ho (by rw [e, hf]; rfl) (by rw [e, hf]; exact h)
def limCells (k : Nat) : List Value := [.string (limName k), .int .i64 (limLow k), .int .i64 (limHigh k), .func (.func (49 + k)) #[] #[]]
def limV : Value := .agg (limCells 0 ++ limCells 1 ++ limCells 2 ++ limCells 3 ++ limCells 4).toArray
theorem limV_index (k : Nat) (hk : k < 5) (w : World) : (Instr.index 53 limV (.int .i64 (k : Int))).run Tryd.prog w = .ok (.agg (limCells k).toArray) w := by
  match k, hk with
  | 0, _ | 1, _ | 2, _ | 3, _ | 4, _ => show _ = _; kernel_rfl
theorem below_setRow {B : Nat} {a w : World} (h : Below B a w) {g : Nat} (hg : B ≤ g) (cells : Array Value) : Below B a (w.setRow g cells) := by
  refine ⟨h.os, h.tape, h.output, by simpa using h.size, fun k hk => ?_⟩
  rw [← h.block k hk]
  simp only [World.setRow]
  rw [Array.getElem?_modify, if_neg (by omega)]

theorem info53 : (Tryd.prog.info? 53).map (·.size) = some 20 := by kernel_rfl
set_option maxRecDepth 100000 in
theorem lim41 (w : World) : Calls Tryd.prog 41 #[] w fun e w' => e = .returned limV ∧ Below w.heap.size w w' := by
  go_enter Tryd.func41, Tryd.ntmps41
  go_upto_region 1 with (fail)
  refine wp_region_lit ?_
  refine wpList_built _ rfl 52 _ rfl (bld52 _ _ _ _) ?_
  refine wpList_built _ rfl 52 _ rfl (bld52 _ _ _ _) ?_
  refine wpList_built _ rfl 52 _ rfl (bld52 _ _ _ _) ?_
  refine wpList_built _ rfl 52 _ rfl (bld52 _ _ _ _) ?_
  refine wpList_built _ rfl 52 _ rfl (bld52 _ _ _ _) ?_
  refine wpList_built _ rfl 53 _ rfl (bld53 _ _ _ _ _ _ _ _ _ _ _ _ _ _ _ _ _ _ _ _) ?_
  refine wpList_store_row rfl 53 (.tmp 0) (.tmp 6) rfl w.heap.size _ rfl rfl 53 _ (heap_alloc_new w _) info53 rfl (by simp [Value.oneCell']) ?_
  refine wpList_nil ?_
  go_wp2
  refine bodyPost_ret (v := limV) (results_cell_row rfl _ _ w.heap.size 53 _ (0, 0) _ rfl (setRow_heap _ _ _ _ _ _ (heap_alloc_new w _)) Tryd.underlying53 rfl info53) rfl ⟨rfl, ?_⟩
  exact below_setRow ((Below.refl _ _).alloc (Nat.le_refl _) _) (Nat.le_refl _) _
end YtoebnjciioiccaaDoor
end Go.Proofs
