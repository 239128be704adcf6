/- append of a whole argument, empty or not; a row beside a row that is written. -/
import Derived.Test.YtjanicngedkhnaaSlCd
import Derived.Test.YtjanicngedkhnaaSlCf
import Derived.Test.YtjanicngedkhnaaSlCe
namespace Go.Proofs
namespace Ytjanicngedkhnaa
open Go.RowKit

theorem run_append_zero {w : World} {base : Nat} (t ty e : TypeId) (i : TypeInfo) (size : Nat) (ht : Try.prog.underlying t = some (.slice e)) (hi : Try.prog.info? e = some i) (A : Option Addr) (c : Nat)
    (v : Value) (n : Nat) (xs : List Value) (hown : w.ownsRow base e size v n xs) :
    (Builtin.append_ #[t, t] ty #[v, .slice A 0 c]).run Try.prog w = .ok v w := by
  cases A with
  | none =>
    rcases hown.2 with ⟨rfl, rfl⟩ | ⟨g, cap, cur, rfl, _, _, hnc, _⟩
    · simp [Builtin.append_, run_underlying ht, sizeOf, typeInfo, hi, Builtin.lenOf, Builtin.firstCells]
    · simp [Builtin.append_, run_underlying ht, sizeOf, typeInfo, hi, Builtin.lenOf, Builtin.firstCells, hnc, storeCells]
  | some ad =>
    rcases hown.2 with ⟨rfl, rfl⟩ | ⟨g, cap, cur, rfl, _, _, hnc, _⟩
    · simp [Builtin.append_, run_underlying ht, sizeOf, typeInfo, hi, Builtin.lenOf, Builtin.firstCells, loadCells, loadCellsFrom]
    · simp [Builtin.append_, run_underlying ht, sizeOf, typeInfo, hi, Builtin.lenOf, Builtin.firstCells, hnc, storeCells, loadCells, loadCellsFrom]
theorem push_any {ops : Array Oper} {rest : List Oper} {o : Oper} {a : Act} {Q : Exit → Act → World → Prop} {W w : World} {h0 : Nat} {vg : Value} {ys : List Int} (hown : W.ownsRow w.heap.size 3 1 (.slice (some ⟨h0, 0, none⟩) 0 0) 0 (ic [])) (hB : Below w.heap.size w W) (hg : IAt W vg ys) (hgd : o.guard = none) (s x : Operand)
    (ho : o.op = .call { callee := .builtin .append, args := #[s, x], argTypes := #[22, 22] }) (hs : a.eval s = .slice (some ⟨h0, 0, none⟩) 0 0) (hx : a.eval x = vg) (hl : ys.length ≤ 1000000)
    (h : ∀ g cap W', W'.ownsRow w.heap.size 3 1 (.slice (some ⟨g, 0, none⟩) ys.length cap) ys.length (ic ys) → Below w.heap.size w W' → wpList Try.prog ops Q rest (a.put o.dst (.slice (some ⟨g, 0, none⟩) ys.length cap)) W') : wpList Try.prog ops Q (o :: rest) a W := by
  by_cases hne : 0 < ys.length
  · refine push_all (w := w) (xs := []) hown hB hg hne hgd s x ho hs hx (by simp; omega) ?_
    intro g cap W' h1 h2
    have e : ([] : List Int).length + ys.length = ys.length := by simp
    rw [e, List.nil_append] at h1
    rw [e]
    exact h g cap W' h1 h2
  · obtain ⟨A, cap, rfl, -⟩ := hg
    obtain rfl : ys = [] := List.eq_nil_of_length_eq_zero (by omega)
    obtain ⟨i0, hi, hz0, hz1, hz2⟩ := info_parts info3
    have hrun := run_append_zero 22 o.type 3 i0 1 Try.underlying22 hi A cap _ 0 _ hown
    refine wpList_plain hgd fun K hK => ?_
    unfold Oper.wp
    simp [execOp, ho, resolve, invoke, builtin, hs, hx, hrun, Result.andThen]
    exact hK _ _ (h _ _ _ hown hB)
theorem box_kept {X wr : World} {g b : Nat} {o : Obj} (h : X.heap[b]? = some o) (hg : X.grownBy wr (some g)) (hne : b ≠ g) : wr.heap[b]? = some o := (hg.block b (box_lt h) (fun e => hne (by injection e))).trans h
theorem row_kept {W1 X wr : World} {v : Value} {zs : List Int} {g : Nat} (h : Row W1 X v zs) (hg : X.grownBy wr (some g)) (hlt : g < W1.heap.size) : Row W1 wr v zs := by
  refine World.ownsRow.kept h hg ?_
  cases ho : v.ownBlock with
  | none => exact .inl rfl
  | some k => right; have := (World.ownsRow.lt h k ho).1; intro e; injection e with e; omega
theorem own_cell {W : World} {B g n cap k : Nat} {zs : List Int} (h : W.ownsRow B 3 1 (.slice (some ⟨g, 0, none⟩) n cap) n (ic zs)) (hk : k < n) : W.cell? ⟨g, k, none⟩ = some (.int .i64 (zs.getD k 0)) ∧ W.frozen? ⟨g, k, none⟩ = false :=
  irow_cell h (by have := h.1; rw [ic_length] at this; omega) hk
theorem own_put {W : World} {B g n cap : Nat} {zs : List Int} (h : W.ownsRow B 3 1 (.slice (some ⟨g, 0, none⟩) n cap) n (ic zs)) (k : Nat) (z : Int) :
    (W.setCell ⟨g, k, none⟩ (.int .i64 z)).ownsRow B 3 1 (.slice (some ⟨g, 0, none⟩) n cap) n (ic (zs.set k z)) := by
  obtain ⟨h1, h2⟩ := h.stored k (.int .i64 z)
  rw [ic_set]
  exact h1
theorem SnAns.form3 {w w' : World} {R : List Int × Int × Int} {e : Ending} (h : SnAns w R e w') : ∃ A cp, e = .returned (.tuple #[.agg #[.slice A R.1.length cp], .int .i64 R.2.1, .int .i64 R.2.2]) ∧ Row w w' (.slice A R.1.length cp) R.1 ∧ Below w.heap.size w w' := by
  obtain ⟨v, h1, h2, h3⟩ := h
  obtain ⟨A, cp, rfl⟩ := own_form h2
  exact ⟨A, cp, h1, h2, h3⟩
theorem SeAns.form3 {w w' : World} {R : List Int × Int} {e : Ending} (h : SeAns w R e w') : ∃ A cp, e = .returned (.tuple #[.agg #[.slice A R.1.length cp], .int .i64 R.2]) ∧ Row w w' (.slice A R.1.length cp) R.1 ∧ Below w.heap.size w w' := by
  obtain ⟨v, h1, h2, h3⟩ := h
  obtain ⟨A, cp, rfl⟩ := own_form h2
  exact ⟨A, cp, h1, h2, h3⟩
/-- what Add and Drop answer has the same error -/
theorem add_drop_err (cs : List Int) (a : Int) : ∃ L M y z e, addA cs a = (L, z, e) ∧ dropA cs a = (M, y, e) := by
  unfold addA dropA
  by_cases h : askE cs a ≠ 0
  · rw [if_pos h, if_pos h]; exact ⟨_, _, _, _, _, rfl, rfl⟩
  · rw [if_neg h, if_neg h]; exact ⟨_, _, _, _, _, rfl, rfl⟩
/-- and Purge's and Join's of a set with itself, which is that set where it is good -/
theorem purge_join_err (cs : List Int) (f t : Int) : ∃ L M z e, purgeA cs f t = (L, z, e) ∧ joinA cs cs = (M, e) ∧ (e ≠ 0 ∨ M = cs) := by
  unfold purgeA joinA
  by_cases h : (chkF cs).2 ≠ 0
  · rw [if_pos h, if_pos h]; exact ⟨_, _, _, _, rfl, rfl, .inl h⟩
  · rw [if_neg h, if_neg h, if_neg h]
    have hG := good_of_chk (cs := cs) (by omega)
    exact ⟨_, _, _, _, rfl, rfl, .inr (adds_same _ hG fun x hx => ⟨by have := mem_srt.1 hx; omega, (mem_srt.1 hx).2⟩)⟩
end Ytjanicngedkhnaa
end Go.Proofs
