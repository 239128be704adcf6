/- A text's lines as a plain function; a list of strings in memory; appending a string to a list of the call's own. -/
import Derived.Test.YtkhggnfhhafkjaaDoorRSplit
namespace Go.Proofs
namespace YtkhggnfhhafkjaaDoor
open Go.RowKit

/-- the lines of a rest of the text, where cur stands ahead of it in the line under way -/
def lnsC : List UInt8 → List UInt8 → List (List UInt8)
  | _, [] => []
  | cur, c :: r => if c = 10 then cur :: lnsC [] r else lnsC (cur ++ [c]) r
/-- the lines of a text, or its error -/
def linesF (l : List UInt8) : List (List UInt8) × Int :=
  if 1048576 < l.length then ([], 3) else if l = [] then ([], 0) else if l.getLast? = some 10 then (if 5000 < (lnsC [] l).length then ([], 3) else (lnsC [] l, 0)) else ([], 6)
/-- the cells of a list of strings -/
def sc (ls : List (List UInt8)) : List Value := ls.map fun l => .string ⟨l.toArray⟩
theorem sc_length (ls : List (List UInt8)) : (sc ls).length = ls.length := by simp [sc]
theorem sc_snoc (ls : List (List UInt8)) (l : List UInt8) : sc (ls ++ [l]) = sc ls ++ [.string ⟨l.toArray⟩] := by simp [sc]
/-- v is a slice whose cells are the strings ls -/
def SAt (W : World) (v : Value) (ls : List (List UInt8)) : Prop := ∃ A cap, v = .slice A ls.length cap ∧ (0 < ls.length → ∃ b off, A = some ⟨b, off, none⟩ ∧ ∀ j u, (sc ls)[j]? = some u → W.cell? ⟨b, off + j, none⟩ = some u)
theorem SAt.nil (W : World) : SAt W (.slice none 0 0) [] := ⟨none, 0, rfl, fun h => by simp at h⟩
theorem SAt.of_own {W : World} {base : Nat} {v : Value} {ls : List (List UInt8)} (h : W.ownsRow base 9 1 v ls.length (sc ls)) : SAt W v ls := by
  rcases h.2 with ⟨rfl, h0⟩ | ⟨gg, cap, cur, rfl, _⟩
  · exact ⟨none, 0, by rw [h0], fun h => by omega⟩
  · refine ⟨_, cap, rfl, fun _ => ⟨gg, 0, rfl, fun j u hu => ?_⟩⟩
    have := h.cells (g := gg) rfl j u hu
    rw [Nat.zero_add]
    have e : (⟨gg, 0, none⟩ : Addr).add j = ⟨gg, j, none⟩ := by unfold Addr.add; split <;> simp_all
    rwa [e] at this
theorem SAt.below {W W' : World} {v : Value} {ls : List (List UInt8)} (h : SAt W v ls) (hb : Below W.heap.size W W') : SAt W' v ls := by
  obtain ⟨A, cap, rfl, h⟩ := h
  exact ⟨A, cap, rfl, fun h0 => let ⟨b, off, hA, hc⟩ := h h0; ⟨b, off, hA, fun j u hu => (hb.cell (cell_lt (hc j u hu))).trans (hc j u hu)⟩⟩
/-- v is a list of strings of the call's own -/
def SRow (B : Nat) (W : World) (v : Value) (ls : List (List UInt8)) : Prop := W.ownsRow B 9 1 v ls.length (sc ls)
theorem SRow.nil (B : Nat) (W : World) : SRow B W (.slice none 0 0) [] := World.ownsRow_nil _ _ _ _
theorem SRow.below {B : Nat} {W W' : World} {v : Value} {ls : List (List UInt8)} (h : SRow B W v ls) (hb : Below W.heap.size W W') : SRow B W' v ls := own_below h hb
theorem info9 : (Tryd.prog.info? 9).map (fun i => (i.zero, i.size, i.bytes)) = some (some (.string ⟨#[]⟩), 1, 16) := by kernel_rfl

theorem push_line {ops : Array Oper} {rest : List Oper} {o : Oper} {a : Act} {Q : Exit → Act → World → Prop} {W W0 w : World} {B : Nat} {v : Value} {ls : List (List UInt8)} (hown : SRow B W v ls) (hB : Below B w W) (l : List UInt8) (hgd : o.guard = none) (s x : Operand)
    (ho : o.op = .call { callee := .builtin .append, args := #[s, x], argTypes := #[69, 69] }) (hs : a.eval s = v) (H : Nat) (hx : a.eval x = .slice (some ⟨H, 0, none⟩) 1 1) (hH : H = W.heap.size)
    (y : ByteArray) (hy : y = ⟨l.toArray⟩) (hW : W0 = W.alloc (.cells #[.string y] 9)) (hBs : B ≤ w.heap.size) (hl : ls.length + 1 ≤ 10000000)
    (h : ∀ v' W', SRow B W' v' (ls ++ [l]) → Below B w W' → wpList Tryd.prog ops Q rest (a.put o.dst v') W') : wpList Tryd.prog ops Q (o :: rest) a W0 := by
  subst hy
  subst hW
  subst hH
  obtain ⟨i0, hi, hz0, hz1, hz2⟩ := info_parts info9
  have hBW : B ≤ W.heap.size := Nat.le_trans hBs hB.size
  refine wpList_append_own _ hgd s x 69 ho B 9 i0 _ 1 16 Tryd.underlying69 hi hz0 hz1 hz2 rfl (by decide) v ls.length (sc ls) hs (hown.alloc _) ⟨W.heap.size, 0, none⟩ 1 1 [.string ⟨l.toArray⟩] hx rfl ?_ ?_ ?_ ?_ ?_ ?_
  · intro j u hj
    have e : (⟨W.heap.size, 0, none⟩ : Addr).add j = ⟨W.heap.size, j, none⟩ := by unfold Addr.add; split <;> simp_all
    rw [e, cell_of_row _ _ _ _ _ _ (heap_alloc_new W _)]
    simpa using hj
  · simp [Value.oneCell']
  · unfold maxLen; omega
  · omega
  · simp; omega
  · intro v' W' h1 h2 _
    refine h v' W' ?_ ?_
    · unfold SRow; rw [sc_snoc, List.length_append, List.length_singleton]; exact h1
    · exact (hB.alloc hBW _).grown h2 (by simp; omega) (fun k hk => (hown.lt k hk).1)

theorem lns_line (done : List (List UInt8)) (cur r : List UInt8) : done ++ lnsC cur (10 :: r) = (done ++ [cur]) ++ lnsC [] r := by simp [lnsC]
theorem lns_char (cur r : List UInt8) {c : UInt8} (h : c ≠ 10) : lnsC cur (c :: r) = lnsC (cur ++ [c]) r := by simp [lnsC, h]
theorem take_more (L : List UInt8) {k i : Nat} (hk : k ≤ i) (hi : i < L.length) : (L.drop k).take (i + 1 - k) = (L.drop k).take (i - k) ++ [L[i]] := by
  rw [show i + 1 - k = (i - k) + 1 by omega, List.take_add_one, List.getElem?_drop, show k + (i - k) = i by omega, List.getElem?_eq_getElem hi]
  rfl
theorem cut_to (s : ByteArray) (k i : Nat) (h : k ≤ i) : s.extract k i = ⟨((s.data.toList.drop k).take (i - k)).toArray⟩ := by
  have := cut_eq s k (i - k)
  rw [show k + (i - k) = i by omega, ByteArray.toList_eq] at this
  rw [← this]
end YtkhggnfhhafkjaaDoor
end Go.Proofs
