/- Lists of numbers in memory; the smallest facts on worlds. -/
import Derived.Test.YtjkphacidpongaaSlQ
import Derived.Laws.OwnMore
import Derived.Laws.Rows
import Derived.Deep.AppendLies
import Derived.Deep.RegionHeld3
import Derived.Deep.RegionWith
import Derived.Below
import Derived.RangeFuncBox
namespace Go.Proofs
namespace Ytjkphacidpongaa
open Go.RowKit

theorem below_end {w W W' : World} (hB : Below w.heap.size w W) (h : Below W.heap.size W W') : Below w.heap.size w W' := hB.trans (h.mono hB.size)
theorem grown_of_below {a w : World} (h : Below a.heap.size a w) (row : Option Nat) : a.grownBy w row := ⟨h.os, h.tape, h.output, h.size, fun i hi _ => h.block i hi⟩
theorem own_below {w w' : World} {base size n : Nat} {e : TypeId} {v : Value} {xs : List Value} (h : w.ownsRow base e size v n xs) (hb : Below w.heap.size w w') : w'.ownsRow base e size v n xs :=
  h.kept (grown_of_below hb none) (by cases v.ownBlock <;> simp)
theorem own_mono {W : World} {B C e size n : Nat} {v : Value} {xs : List Value} (h : W.ownsRow C e size v n xs) (hBC : B ≤ C) : W.ownsRow B e size v n xs := by
  refine ⟨h.1, ?_⟩
  rcases h.2 with h | ⟨g, cap, cur, h1, h2, h3⟩
  · exact .inl h
  · exact .inr ⟨g, cap, cur, h1, by omega, h3⟩
theorem own_form {W : World} {base size n : Nat} {e : TypeId} {v : Value} {xs : List Value} (h : W.ownsRow base e size v n xs) : ∃ A cap, v = .slice A n cap := by
  rcases h.2 with ⟨rfl, h0⟩ | ⟨gg, cap, cur, rfl, _⟩
  · rw [h0]; exact ⟨none, 0, rfl⟩
  · exact ⟨_, cap, rfl⟩
theorem grown_set (W : World) (fb i : Nat) (v : Value) : W.grownBy (W.setCell ⟨fb, i, none⟩ v) (some fb) :=
  ⟨rfl, rfl, rfl, by simp [World.setCell], fun k _ hk => Below.heap_setCell W ⟨fb, i, none⟩ v k (fun e => hk (by rw [e]))⟩
theorem size_set (W : World) (a : Addr) (v : Value) : (W.setCell a v).heap.size = W.heap.size := by simp [World.setCell]
theorem below_drewN {B : Nat} {a w : World} (h : Below B a w) (n : Nat) : Below B a (w.drewN n) := ⟨h.os, h.tape, h.output, h.size, h.block⟩
theorem cell_lt {W : World} {p : Addr} {u : Value} (h : W.cell? p = some u) : p.block < W.heap.size := by
  unfold World.cell? at h
  apply Classical.byContradiction
  intro hn
  have : W.heap[p.block]? = none := by simp; omega
  rw [this] at h
  simp at h
theorem keep_cell {W W' : World} (hb : Below W.heap.size W W') {p : Addr} {u : Value} (h : W.cell? p = some u) : W'.cell? p = some u := (hb.cell (cell_lt h)).trans h
theorem keep_heap {W W' : World} (hb : Below W.heap.size W W') {b : Nat} {o : Obj} (h : W.heap[b]? = some o) : W'.heap[b]? = some o := (hb.block _ (Array.getElem?_eq_some_iff.1 h).1).trans h
theorem alloc_below (W : World) (o : Obj) : Below W.heap.size W (W.alloc o) := (Below.refl _ _).alloc (Nat.le_refl _) _
theorem set_row {W : World} {b : Nat} {cs : Array Value} {ty : TypeId} (h : W.heap[b]? = some (.cells cs ty (0, 0))) (i : Nat) (v : Value) : (W.setCell ⟨b, i, none⟩ v).heap[b]? = some (.cells (cs.setIfInBounds i v) ty (0, 0)) :=
  heap_setCell_same W b i cs ty v h
theorem set_far {W : World} {b c i : Nat} (v : Value) {o : Obj} (hne : c ≠ b) (h : W.heap[c]? = some o) : (W.setCell ⟨b, i, none⟩ v).heap[c]? = some o :=
  (Below.heap_setCell W ⟨b, i, none⟩ v c hne).trans h
theorem one_cell {W : World} {g : Nat} {x : Value} {t : TypeId} (h : W.heap[g]? = some (.cells #[x] t (0, 0))) : W.cell? ⟨g, 0, none⟩ = some x ∧ W.frozen? ⟨g, 0, none⟩ = false := by
  refine ⟨?_, frozen_of_row _ _ _ _ _ h⟩; rw [cell_of_row _ _ _ _ _ _ h]; rfl

def ic (zs : List Int) : List Value := zs.map (Value.int .i64)
theorem ic_length (zs : List Int) : (ic zs).length = zs.length := by simp [ic]
theorem ic_append (xs ys : List Int) : ic (xs ++ ys) = ic xs ++ ic ys := by simp [ic]
theorem ic_set (xs : List Int) (i : Nat) (z : Int) : ic (xs.set i z) = (ic xs).set i (.int .i64 z) := by simp [ic, List.map_set]
theorem ic_get (zs : List Int) (k : Nat) (h : k < zs.length) : (ic zs)[k]? = some (.int .i64 (zs.getD k 0)) := by
  simp [ic, List.getD_eq_getElem?_getD, List.getElem?_eq_getElem h]
theorem ic_one (xs : List Int) : ∀ u ∈ ic xs, u.oneCell' = true := by
  intro u hu
  simp only [ic, List.mem_map] at hu
  obtain ⟨p, _, rfl⟩ := hu
  rfl
theorem ic_len1 (xs : List Int) : (ic xs).length = xs.length * 1 := by rw [ic_length, Nat.mul_one]
/-- v is a slice whose cells are the numbers zs -/
def IAt (W : World) (v : Value) (zs : List Int) : Prop := ∃ A cap, v = .slice A zs.length cap ∧ (0 < zs.length → ∃ b off, A = some ⟨b, off, none⟩ ∧ ∀ j, j < zs.length → W.cell? ⟨b, off + j, none⟩ = some (.int .i64 (zs.getD j 0)))
theorem IAt.nil (W : World) : IAt W (.slice none 0 0) [] := ⟨none, 0, rfl, fun h => by simp at h⟩
theorem IAt.row {W : World} {g : Nat} {zs : List Int} {cap : Nat} (h : W.heap[g]? = some (.cells (ic zs).toArray 3 (0, 0))) : IAt W (.slice (some ⟨g, 0, none⟩) zs.length cap) zs := by
  refine ⟨_, cap, rfl, fun _ => ⟨g, 0, rfl, fun j hj => ?_⟩⟩
  rw [cell_of_row _ _ _ _ _ _ h, Nat.zero_add]
  simpa using ic_get zs j hj
theorem IAt.of_own {W : World} {base : Nat} {v : Value} {zs : List Int} (h : W.ownsRow base 3 1 v zs.length (ic zs)) : IAt W v zs := by
  rcases h.2 with ⟨rfl, h0⟩ | ⟨gg, cap, cur, rfl, _⟩
  · exact ⟨none, 0, by rw [h0], fun h => by omega⟩
  · refine ⟨_, cap, rfl, fun _ => ⟨gg, 0, rfl, fun j hj => ?_⟩⟩
    have := h.cells (g := gg) rfl j _ (ic_get zs j hj)
    rw [Nat.zero_add]
    have e : (⟨gg, 0, none⟩ : Addr).add j = ⟨gg, j, none⟩ := by unfold Addr.add; split <;> simp_all
    rwa [e] at this
theorem IAt.below {W W' : World} {v : Value} {zs : List Int} (h : IAt W v zs) (hb : Below W.heap.size W W') : IAt W' v zs := by
  obtain ⟨A, cap, rfl, h⟩ := h
  exact ⟨A, cap, rfl, fun h0 => let ⟨b, off, hA, hc⟩ := h h0; ⟨b, off, hA, fun j hj => (hb.cell (cell_lt (hc j hj))).trans (hc j hj)⟩⟩
/-- the blocks of the slice are not block g -/
theorem IAt.grown {W W' : World} {v : Value} {zs : List Int} {r : Option Nat} (h : IAt W v zs) (hg : W.grownBy W' r) (hr : ∀ A n c b off, v = .slice A n c → A = some ⟨b, off, none⟩ → r ≠ some b) : IAt W' v zs := by
  obtain ⟨A, cap, rfl, h⟩ := h
  exact ⟨A, cap, rfl, fun h0 => let ⟨b, off, hA, hc⟩ := h h0; ⟨b, off, hA, fun j hj => (World.cell?_of_block (hg.block b (cell_lt (hc j hj)) (fun e => hr _ _ _ b off rfl hA e.symm))).trans (hc j hj)⟩⟩

/-- v is a table of the call's own, all of its block: the cells are the numbers zs -/
def TAt (W : World) (g : Nat) (zs : List Int) : Prop := W.heap[g]? = some (.cells (ic zs).toArray 3 (0, 0))
/-- its value -/
def tv (g n : Nat) : Value := .slice (some ⟨g, 0, none⟩) n n
theorem TAt.lt {W : World} {g : Nat} {zs : List Int} (h : TAt W g zs) : g < W.heap.size := (Array.getElem?_eq_some_iff.1 h).1
theorem TAt.iat {W : World} {g : Nat} {zs : List Int} (h : TAt W g zs) : IAt W (tv g zs.length) zs := IAt.row h
theorem TAt.below {W W' : World} {g : Nat} {zs : List Int} (h : TAt W g zs) (hb : Below W.heap.size W W') : TAt W' g zs := keep_heap hb h
theorem TAt.keep {W W' : World} {g : Nat} {zs : List Int} {r : Option Nat} (h : TAt W g zs) (hg : W.grownBy W' r) (hr : r ≠ some g) : TAt W' g zs := (hg.block g h.lt (fun e => hr e.symm)).trans h
theorem TAt.cell {W : World} {g : Nat} {zs : List Int} (h : TAt W g zs) {k : Nat} (hk : k < zs.length) : W.cell? ⟨g, k, none⟩ = some (.int .i64 (zs.getD k 0)) ∧ W.frozen? ⟨g, k, none⟩ = false := by
  refine ⟨?_, frozen_of_row _ _ _ _ _ h⟩
  rw [cell_of_row _ _ _ _ _ _ h]
  simpa using ic_get zs k hk
theorem TAt.set {W : World} {g : Nat} {zs : List Int} (h : TAt W g zs) (k : Nat) (z : Int) : TAt (W.setCell ⟨g, k, none⟩ (.int .i64 z)) g (zs.set k z) := by
  have := set_row h k (.int .i64 z)
  unfold TAt
  rw [this, ic_set]
  simp
theorem TAt.own {W : World} {B g : Nat} {zs : List Int} (h : TAt W g zs) (hB : B ≤ g) (hl : zs.length ≤ maxLen) : W.ownsRow B 3 1 (tv g zs.length) zs.length (ic zs) :=
  ⟨by simp [ic], .inr ⟨g, zs.length, (ic zs).toArray, rfl, hB, h, Nat.le_refl _, hl, by simp [ic], by simp [ic, List.take_of_length_le]⟩⟩
theorem info3 : (Try.prog.info? 3).map (fun i => (i.zero, i.size, i.bytes)) = some (some (.int .i64 0), 1, 8) := by kernel_rfl
theorem push_int {ops : Array Oper} {rest : List Oper} {o : Oper} {a : Act} {Q : Exit → Act → World → Prop} {W W0 w : World} {v : Value} {zs : List Int} (hown : W.ownsRow w.heap.size 3 1 v zs.length (ic zs)) (hB : Below w.heap.size w W) (z : Int) (hgd : o.guard = none) (s x : Operand)
    (ho : o.op = .call { callee := .builtin .append, args := #[s, x], argTypes := #[24, 24] }) (hs : a.eval s = v) (H : Nat) (hx : a.eval x = .slice (some ⟨H, 0, none⟩) 1 1) (hH : H = W.heap.size)
    (hW : W0 = W.alloc (.cells #[.int .i64 z] 3)) (hl : zs.length + 1 ≤ 1000000)
    (h : ∀ v' W', W'.ownsRow w.heap.size 3 1 v' (zs ++ [z]).length (ic (zs ++ [z])) → Below w.heap.size w W' → W.heap.size ≤ W'.heap.size → wpList Try.prog ops Q rest (a.put o.dst v') W') : wpList Try.prog ops Q (o :: rest) a W0 := by
  subst hW
  subst hH
  obtain ⟨i0, hi, hz0, hz1, hz2⟩ := info_parts info3
  refine wpList_append_own _ hgd s x 24 ho w.heap.size 3 i0 _ 1 8 Try.underlying24 hi hz0 hz1 hz2 rfl (by decide) v zs.length (ic zs) hs (hown.alloc _) ⟨W.heap.size, 0, none⟩ 1 1 [.int .i64 z] hx rfl ?_ (by simp [Value.oneCell']) ?_ ?_ ?_ ?_
  · intro j u hj
    have e : (⟨W.heap.size, 0, none⟩ : Addr).add j = ⟨W.heap.size, j, none⟩ := by unfold Addr.add; split <;> simp_all
    rw [e, cell_of_row _ _ _ _ _ _ (heap_alloc_new W _)]
    simpa using hj
  · unfold maxLen; omega
  · omega
  · have := hB.size; simp; omega
  · intro v' W' h1 h2 _
    refine h v' W' ?_ ((hB.alloc hB.size _).grown h2 (by have := hB.size; simp; omega) (fun k hk => (hown.lt k hk).1)) (by have := h2.size; simp at this; omega)
    rw [ic_append, List.length_append, List.length_singleton]
    exact h1
end Ytjkphacidpongaa
end Go.Proofs
