/- Parse, the program's: not ten parts. -/
import Derived.Test.YtoebnjciioiccaaDoorCtS
import Derived.Test.YtoebnjciioiccaaDoorCtX
import Derived.Test.YtoebnjciioiccaaDoorChk
import Derived.Great.BuildSlice
import Derived.Great.Walk
namespace Go.Proofs
namespace YtoebnjciioiccaaDoor
namespace Ct
open Go.RowKit Go.Great

theorem bld23 : Tryd.prog.built 23 [] = some #[.int .i64 0, .int .i64 0, .int .i64 0, .int .i64 0, .int .i64 0] := by kernel_rfl
def ansV (l : List Int) (e : Int) : Value := .tuple #[.agg (cfgA l), .int .i64 e]
def limC : Array Value := (limCells 0 ++ limCells 1 ++ limCells 2 ++ limCells 3 ++ limCells 4).toArray
def z20 : Array Value := #[.string ⟨#[]⟩, .int .i64 0, .int .i64 0, .nilFunc, .string ⟨#[]⟩, .int .i64 0, .int .i64 0, .nilFunc, .string ⟨#[]⟩, .int .i64 0, .int .i64 0, .nilFunc, .string ⟨#[]⟩, .int .i64 0, .int .i64 0, .nilFunc, .string ⟨#[]⟩, .int .i64 0, .int .i64 0, .nilFunc]
theorem wpList_callR {ops : Array Oper} {rest : List Oper} {o : Oper} {a : Act} {w : World} {Q : Exit → Act → World → Prop} (hg : o.guard = none) (d : Option Tmp) (hd : o.dst = d)
    (f : FuncId) (args : Array Value) (hrun : (execOp a.eval o).run Tryd.prog w = .ok (.enter f args) w) {R : Value → World → Prop}
    (hc : Calls Tryd.prog f args w fun e w'' => ∃ v, e = .returned v ∧ R v w'')
    (h : ∀ v w'', R v w'' → wpList Tryd.prog ops Q rest (a.put d v) w'') : wpList Tryd.prog ops Q (o :: rest) a w := by
  subst hd
  refine wpList_plain hg fun K hK => ?_
  unfold Oper.wp
  rw [hrun, Oper.upon_enter]
  refine hc.mono fun e w'' hh => ?_
  obtain ⟨v, rfl, hR⟩ := hh
  exact hK _ _ (h v w'' hR)
theorem setRow_other (w : World) (g : Nat) (cs : Array Value) {b : Nat} (hb : b ≠ g) : (w.setRow g cs).heap[b]? = w.heap[b]? := by
  simp only [World.setRow]
  rw [Array.getElem?_modify, if_neg (by omega)]
theorem setRow_size (w : World) (g : Nat) (cs : Array Value) : (w.setRow g cs).heap.size = w.heap.size := by simp [World.setRow]
theorem cell_of_block {w w' : World} {b i : Nat} (h : w'.heap[b]? = w.heap[b]?) : w'.cell? ⟨b, i, none⟩ = w.cell? ⟨b, i, none⟩ := World.cell?_of_block h
theorem results_row2 {fn : Func} {p u : Tmp} {ty : TypeId} (h : fn.results = #[.cell p ty, .tmp u]) (tmps : Array Value) (w : World) (g : Nat) (cs : Array Value) (z : Value)
    (hp : tmps.getD p undef = .pointer (some ⟨g, 0, none⟩)) (hz : tmps.getD u undef = z) (hl : (loadVar ty ⟨g, 0, none⟩).run Tryd.prog w = .ok (.agg cs) w) :
    (results fn tmps).run Tryd.prog w = .ok (.tuple #[.agg cs, z]) w := by
  have hp' : tmps[p]?.getD undef = .pointer (some ⟨g, 0, none⟩) := by simpa using hp
  rw [results_cell_tmp h, hz]
  simp [hp', asAddr, hl]
/-- what stands of the world at the head of Parse -/
structure Head (w W : World) (t4 : Nat) : Prop where
  lt : w.heap.size < t4 ∧ t4 < W.heap.size
  res : W.heap[w.heap.size]? = some (.cells #[.int .i64 0, .int .i64 0, .int .i64 0, .int .i64 0, .int .i64 0] 23 (0, 0))
  tab : W.heap[t4]? = some (.cells limC 53 (0, 0))
  laid : Laid W
  laid0 : Laid w
  below : Below w.heap.size w W
theorem bdN (w : World) (n : Nat) : Below w.heap.size w (w.drewN n) := ⟨rfl, rfl, rfl, Nat.le_refl _, fun _ _ => rfl⟩
theorem Laid.below {w W : World} (h : Laid w) (hb : Below w.heap.size w W) : Laid W := by
  obtain ⟨⟨tp, p, hv⟩, m, hm⟩ := h
  have h1 : 1 < w.heap.size := block_lt_of_cell hm
  exact ⟨⟨tp, p, var_self hb hv⟩, m, (cell_of_block (hb.block 1 h1)).trans hm⟩
theorem head_mk {w w1 : World} (hm : Laid w) (hb : Below (w.heap.size + 1) (w.alloc (.cells #[.int .i64 0, .int .i64 0, .int .i64 0, .int .i64 0, .int .i64 0] 23)) w1) :
    Head w ((w1.alloc (.cells z20 53)).setRow w1.heap.size limC) w1.heap.size := by
  have hs := hb.size
  have hs2 : w.heap.size + 1 ≤ w1.heap.size := by simpa using hs
  have e : ∀ b, b < w1.heap.size → ((w1.alloc (.cells z20 53)).setRow w1.heap.size limC).heap[b]? = w1.heap[b]? := fun b hlt => by
    rw [setRow_other _ _ _ (by omega), heap_alloc_old _ _ hlt]
  have hB : Below w.heap.size w w1 := ((Below.refl w.heap.size w).alloc (Nat.le_refl _) _).trans (hb.mono (by simp))
  refine ⟨⟨by omega, by rw [setRow_size]; simp⟩, ?_, setRow_heap _ _ _ _ _ _ (heap_alloc_new w1 _), ?_, ?_, ?_⟩
  · rw [e _ (by omega), hb.block w.heap.size (by omega), heap_alloc_new]
  · exact hm.below (below_setRow (hB.alloc hB.size _) hB.size _)
  · exact hm
  · exact below_setRow (hB.alloc hB.size _) hB.size _
set_option maxRecDepth 100000 in
set_option maxHeartbeats 4000000 in
theorem parse34_no (s : ByteArray) (w : World) (hm : Laid w) (n : Nat) (hn : n ≠ 10) (cs : Array Value) (cap : Nat)
    (HS : Hid (∀ W : World, Laid W → Calls Tryd.prog 46 #[.string s, .string ⟨#[32]⟩, .int .i64 11] W fun e w' =>
      e = .returned (.slice (some ⟨W.heap.size, 0, none⟩) n cap) ∧ w' = W.alloc (.cells cs 9))) :
    Calls Tryd.prog 34 #[.string s] w fun e w' => e = .returned (ansV [0, 0, 0, 0, 0] 6) ∧ Below w.heap.size w w' := by
  have M := Lib.hid hm
  clear hm
  have q1 : decide ((n : Int) = 10) = false := decide_eq_false (by omega)
  go_enter Tryd.func34, Tryd.ntmps34
  go_upto_region 1 with (fail)
  refine wp_region_lit ?_
  refine wpList_callR rfl (some 12) rfl 41 #[] (by simp [go_sem]; done) (R := fun v W => v = limV ∧ Below (w.heap.size + 1) (w.alloc (.cells #[.int .i64 0, .int .i64 0, .int .i64 0, .int .i64 0, .int .i64 0] 23)) W) ((lim41 _).mono fun e W h => ⟨_, h.1, rfl, by simpa using h.2⟩) ?_
  rintro v w1 ⟨rfl, hb1⟩
  refine wpList_allocTo rfl (some 4) rfl (.pointer (some ⟨w1.heap.size, 0, none⟩)) (.cells z20 53) (by simp [go_sem, z20]; done) ?_
  refine wpList_store_rowTo rfl 53 (.tmp 4) (.tmp 12) rfl rfl w1.heap.size limC rfl rfl 53 _ (heap_alloc_new w1 _) info53 rfl (by simp [limC, limCells, Value.oneCell']) ?_
  refine wpList_nil ?_
  have hh := head_mk M.out hb1
  clear hb1
  revert hh
  generalize w1.heap.size = t4
  generalize (w1.alloc (.cells z20 53)).setRow t4 limC = w2
  intro hh
  have hH := Lib.hid hh
  clear hh
  go_upto_region 4 with (go_at_call 46; refine (HS.out _ hH.out.laid).mono ?_; rintro e w3 ⟨rfl, rfl⟩)
  have hw := hH.out.lt
  have hr := (heap_alloc_old (w := w2) (Obj.cells cs 9) (by omega)).trans hH.out.res
  have B := hH.out.below.alloc (by have := hH.out.lt; omega) (Obj.cells cs 9)
  refine wp_region_lit ?_
  refine wpList_built _ rfl 23 [] rfl bld23 ?_
  refine wpList_store_row rfl 23 (.tmp 2) (.tmp 18) rfl w.heap.size #[.int .i64 0, .int .i64 0, .int .i64 0, .int .i64 0, .int .i64 0] rfl rfl 23 _ hr info23 rfl (by simp [Value.oneCell']) ?_
  refine wpList_readTo rfl (some 3) rfl (.int .i64 6) (by simp [go_sem]; done) ?_
  refine wpList_nil ?_
  go_wp2
  exact bodyPost_ret (v := ansV [0, 0, 0, 0, 0] 6) (results_row2 rfl _ _ w.heap.size #[.int .i64 0, .int .i64 0, .int .i64 0, .int .i64 0, .int .i64 0] _ rfl rfl (run_loadVar_row _ _ _ _ _ _ _ (setRow_heap _ _ _ _ _ _ hr) Tryd.underlying23 rfl info23)) rfl ⟨rfl, below_setRow B (Nat.le_refl _) _⟩
end Ct
end YtoebnjciioiccaaDoor
end Go.Proofs
