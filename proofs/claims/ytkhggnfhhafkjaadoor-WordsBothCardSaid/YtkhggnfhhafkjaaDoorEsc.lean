/- The table of the bytes that have a letter of their own: letterOf and meaningOf. -/
import Derived.Test.YtkhggnfhhafkjaaDoorBytes
import Derived.Handy
import Derived.Laws.Rows
import Derived.Laws.Cells
namespace Go.Proofs
namespace YtkhggnfhhafkjaaDoor
open Go.RowKit

def escTab : List Int := [34, 34, 92, 92, 10, 110, 13, 114, 9, 116]
/-- the table's cells, in block 3 -/
def EscLaid (w : World) : Prop := ∀ (i : Nat) (z : Int), escTab[i]? = some z → w.cell? ⟨3, i, none⟩ = some (.int .u8 z)
theorem EscLaid.below {w w' : World} {B : Nat} (h : EscLaid w) (hb : Below B w w') (hB : 3 < B) : EscLaid w' := fun i z hz => (hb.cell (p := ⟨3, i, none⟩) hB).trans (h i z hz)
theorem EscLaid.lt {w : World} (h : EscLaid w) : 3 < w.heap.size := by
  have h0 := h 0 34 rfl
  rcases Nat.lt_or_ge 3 w.heap.size with hlt | hge
  · exact hlt
  · simp [World.cell?, Array.getElem?_eq_none hge] at h0
theorem EscLaid.self {w w' : World} (h : EscLaid w) (hb : Below w.heap.size w w') : EscLaid w' := h.below hb h.lt

def escCells : Array Value := #[.int .u8 34, .int .u8 34, .int .u8 92, .int .u8 92, .int .u8 10, .int .u8 110, .int .u8 13, .int .u8 114, .int .u8 9, .int .u8 116]
theorem run_load_esc {w : World} (h : EscLaid w) : (loadVar 131 ⟨3, 0, none⟩).run Tryd.prog w = .ok (.agg escCells) w := by
  have hl : (loadCells ⟨3, 0, none⟩ escCells.toList.length).run Tryd.prog w = .ok escCells.toList.toArray w :=
    run_loadCells_list (P := Tryd.prog) w ⟨3, 0, none⟩ escCells.toList (fun j v hv => by
      have hadd : (⟨3, 0, none⟩ : Addr).add j = ⟨3, j, none⟩ := by unfold Addr.add; split <;> simp_all
      rw [hadd]
      match j, hv with
      | 0, hv | 1, hv | 2, hv | 3, hv | 4, hv | 5, hv | 6, hv | 7, hv | 8, hv | 9, hv => simp [escCells] at hv; subst hv; exact h _ _ rfl
      | j + 10, hv => simp [escCells] at hv)
  have hi : (Tryd.prog.info? 131).map (·.size) = some 10 := by kernel_rfl
  have hagg : (isAgg 131).run Tryd.prog w = .ok true w := by
    unfold isAgg
    rw [Sem.run_bind, run_underlying Tryd.underlying131 w]
    rfl
  cases hq : Tryd.prog.info? 131 with
  | none => simp [hq] at hi
  | some i =>
    have hs : i.size = 10 := by simpa [hq] using hi
    have hl' : (loadCells ⟨3, 0, none⟩ 10).run Tryd.prog w = .ok escCells w := hl
    simp [loadVar, Sem.run_bind, hagg, sizeOf, typeInfo, hq, hs, hl']

theorem wpList_load_esc {ops : Array Oper} {rest : List Oper} {o : Oper} {a : Act} {w : World} {Q : Exit → Act → World → Prop} (hgd : o.guard = none) (x : Operand) (ho : o.op = .load 131 x)
    (hx : a.eval x = .pointer (some ⟨3, 0, none⟩)) (hE : EscLaid w) (h : wpList Tryd.prog ops Q rest (a.put o.dst (.agg escCells)) w) : wpList Tryd.prog ops Q (o :: rest) a w := by
  refine wpList_plain hgd fun _ hK => ?_
  unfold Oper.wp execOp
  simp only [ho, hx, Instr.loadAt, Instr.sureAddr, Sem.run_bind, Sem.run_pure, Result.andThen_ok, run_load_esc hE]
  exact hK _ _ h

def letterZ (c : Int) : Int := if c = 34 then 34 else if c = 92 then 92 else if c = 10 then 110 else if c = 13 then 114 else if c = 9 then 116 else 0
def letterQ (c : Int) : Bool := decide (c = 34 ∨ c = 92 ∨ c = 10 ∨ c = 13 ∨ c = 9)
def meantZ (c : Int) : Int := if c = 34 then 34 else if c = 92 then 92 else if c = 110 then 10 else if c = 114 then 13 else if c = 116 then 9 else 0
def meantQ (c : Int) : Bool := decide (c = 34 ∨ c = 92 ∨ c = 110 ∨ c = 114 ∨ c = 116)

set_option maxRecDepth 100000 in
theorem letter94 (c : Int) (w : World) (hE : EscLaid w) : Calls Tryd.prog 94 #[.int .u8 c] w fun e w' => e = .returned (.tuple #[.int .u8 (letterZ c), .bool (letterQ c)]) ∧ Below w.heap.size w w' := by
  have i0 : ∀ w : World, (Instr.index 131 (.agg escCells) (.int .i64 0)).run Tryd.prog w = .ok (.agg #[.int .u8 34, .int .u8 34]) w := fun _ => by kernel_rfl
  have i1 : ∀ w : World, (Instr.index 131 (.agg escCells) (.int .i64 1)).run Tryd.prog w = .ok (.agg #[.int .u8 92, .int .u8 92]) w := fun _ => by kernel_rfl
  have i2 : ∀ w : World, (Instr.index 131 (.agg escCells) (.int .i64 2)).run Tryd.prog w = .ok (.agg #[.int .u8 10, .int .u8 110]) w := fun _ => by kernel_rfl
  have i3 : ∀ w : World, (Instr.index 131 (.agg escCells) (.int .i64 3)).run Tryd.prog w = .ok (.agg #[.int .u8 13, .int .u8 114]) w := fun _ => by kernel_rfl
  have i4 : ∀ w : World, (Instr.index 131 (.agg escCells) (.int .i64 4)).run Tryd.prog w = .ok (.agg #[.int .u8 9, .int .u8 116]) w := fun _ => by kernel_rfl
  have HE := Lib.hid hE
  clear hE
  go_enter Tryd.func94, Tryd.ntmps94
  go_wp2_with (refine wpList_load_esc rfl _ rfl rfl HE.out ?_)
  go_rounds 6
  all_goals go_ret2
  all_goals (simp only [beq_iff_eq, beq_eq_false_iff_ne] at *)
  all_goals refine ⟨?_, by go_grown⟩
  all_goals (simp only [Ending.returned.injEq, Value.tuple.injEq])
  all_goals (congr 4 <;> simp [letterZ, letterQ] <;> omega)
set_option maxRecDepth 100000 in
theorem meant92 (c : Int) (w : World) (hE : EscLaid w) : Calls Tryd.prog 92 #[.int .u8 c] w fun e w' => e = .returned (.tuple #[.int .u8 (meantZ c), .bool (meantQ c)]) ∧ Below w.heap.size w w' := by
  have i0 : ∀ w : World, (Instr.index 131 (.agg escCells) (.int .i64 0)).run Tryd.prog w = .ok (.agg #[.int .u8 34, .int .u8 34]) w := fun _ => by kernel_rfl
  have i1 : ∀ w : World, (Instr.index 131 (.agg escCells) (.int .i64 1)).run Tryd.prog w = .ok (.agg #[.int .u8 92, .int .u8 92]) w := fun _ => by kernel_rfl
  have i2 : ∀ w : World, (Instr.index 131 (.agg escCells) (.int .i64 2)).run Tryd.prog w = .ok (.agg #[.int .u8 10, .int .u8 110]) w := fun _ => by kernel_rfl
  have i3 : ∀ w : World, (Instr.index 131 (.agg escCells) (.int .i64 3)).run Tryd.prog w = .ok (.agg #[.int .u8 13, .int .u8 114]) w := fun _ => by kernel_rfl
  have i4 : ∀ w : World, (Instr.index 131 (.agg escCells) (.int .i64 4)).run Tryd.prog w = .ok (.agg #[.int .u8 9, .int .u8 116]) w := fun _ => by kernel_rfl
  have HE := Lib.hid hE
  clear hE
  go_enter Tryd.func92, Tryd.ntmps92
  go_wp2_with (refine wpList_load_esc rfl _ rfl rfl HE.out ?_)
  go_rounds 6
  all_goals go_ret2
  all_goals (simp only [beq_iff_eq, beq_eq_false_iff_ne] at *)
  all_goals refine ⟨?_, by go_grown⟩
  all_goals (simp only [Ending.returned.injEq, Value.tuple.injEq])
  all_goals (congr 4 <;> simp [meantZ, meantQ] <;> omega)
end YtkhggnfhhafkjaaDoor
end Go.Proofs
