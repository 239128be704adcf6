/- cmp.Or of two errors, and Differ on two arenas of one size. -/
import Derived.Test.YtmgoonahpndfoaaArT
import Derived.Test.YtmgoonahpndfoaaArZ
namespace Go.Proofs
namespace Ytmgoonahpndfoaa
open Go.RowKit

set_option maxRecDepth 100000 in
theorem or40 (g : Nat) (w : World) (h : w.heap[g]? = some (.cells #[.int .i64 0, .int .i64 0] 27 (0, 0))) :
    Calls Try.prog 40 #[.slice (some ⟨g, 0, none⟩) 2 2] w fun e w' => e = .returned (.int .i64 0) ∧ w = w' := by
  have d0 := cell_of_row _ _ 0 _ _ _ h
  have d1 := cell_of_row _ _ 1 _ _ _ h
  simp only [List.getElem?_toArray, List.getElem?_cons_zero, List.getElem?_cons_succ] at d0 d1
  clear h
  go_enter Try.func40, Try.ntmps40
  go_wp2
  go_loopw [8] (fun i wr => ∃ j : Nat, j ≤ 2 ∧ i = .int .i64 j ∧ Hid (w = wr)) (fun i _ => 2 - (intOf i).toNat)
  case atStart => exact ⟨0, by omega, rfl, Lib.hid rfl⟩
  case round =>
    obtain ⟨j, hj, rfl, hw⟩ := hrel
    obtain rfl := hw.out
    rcases (by omega : j = 0 ∨ j = 1 ∨ j = 2) with rfl | rfl | rfl
    · go_wp2
      refine ⟨⟨1, by omega, rfl, Lib.hid trivial⟩, ?_⟩
      decide
    · go_wp2
      refine ⟨⟨2, by omega, rfl, Lib.hid trivial⟩, ?_⟩
      decide
    · go_wp2
      go_ret
      exact ⟨rfl, rfl⟩
/-- what a call of Check answers -/
structure ChkIs (W : World) (v : Value) (c : Int) : Prop where
  call : Calls Try.prog 41 #[v] W fun e w' => e = .returned (.int .i64 c) ∧ W = w'
theorem info3 : (Try.prog.info? 3).map (fun i => (i.zero, i.size, i.bytes)) = some (some (.int .i64 0), 1, 8) := by kernel_rfl
theorem diffs_eq {k : Nat} {x y : Int} {xs ys : List Int} (h : x = y) : diffs k (x :: xs) (y :: ys) = diffs (k + 1) xs ys := by rw [diffs, if_pos h]
theorem diffs_ne {k : Nat} {x y : Int} {xs ys : List Int} (h : x ≠ y) : diffs k (x :: xs) (y :: ys) = (k : Int) :: diffs (k + 1) xs ys := by rw [diffs, if_neg h]
theorem diffs_nil (k : Nat) (ys : List Int) : diffs k [] ys = [] := by cases ys <;> simp [diffs]
theorem own_form {W : World} {base size n : Nat} {e : TypeId} {v : Value} {xs : List Value} (h : W.ownsRow base e size v n xs) : ∃ A cap, v = .slice A n cap := by
  rcases h.2 with ⟨rfl, h0⟩ | ⟨gg, cap, cur, rfl, _⟩
  · rw [h0]; exact ⟨none, 0, rfl⟩
  · exact ⟨_, cap, rfl⟩
theorem push_int {ops : Array Oper} {rest : List Oper} {o : Oper} {a : Act} {Q : Exit → Act → World → Prop} {W W0 w : World} {v : Value} {zs : List Int} (hown : W.ownsRow w.heap.size 3 1 v zs.length (ic zs)) (hB : Below w.heap.size w W) (z : Int) (hgd : o.guard = none) (s x : Operand)
    (ho : o.op = .call { callee := .builtin .append, args := #[s, x], argTypes := #[35, 35] }) (hs : a.eval s = v) (H : Nat) (hx : a.eval x = .slice (some ⟨H, 0, none⟩) 1 1) (hH : H = W.heap.size)
    (hW : W0 = W.alloc (.cells #[.int .i64 z] 3)) (hl : zs.length + 1 ≤ 1000000)
    (h : ∀ v' W', W'.ownsRow w.heap.size 3 1 v' (zs ++ [z]).length (ic (zs ++ [z])) → Below w.heap.size w W' → W.heap.size ≤ W'.heap.size → wpList Try.prog ops Q rest (a.put o.dst v') W') : wpList Try.prog ops Q (o :: rest) a W0 := by
  subst hW
  subst hH
  obtain ⟨i0, hi, hz0, hz1, hz2⟩ := info_parts info3
  refine wpList_append_own _ hgd s x 35 ho w.heap.size 3 i0 _ 1 8 Try.underlying35 hi hz0 hz1 hz2 rfl (by decide) v zs.length (ic zs) hs (hown.alloc _) ⟨W.heap.size, 0, none⟩ 1 1 [.int .i64 z] hx rfl ?_ (by simp [Value.oneCell']) ?_ ?_ ?_ ?_
  · intro j u hj
    have e : (⟨W.heap.size, 0, none⟩ : Addr).add j = ⟨W.heap.size, j, none⟩ := by unfold Addr.add; split <;> simp_all
    rw [e, cell_of_row _ _ _ _ _ _ (heap_alloc_new W _)]
    simpa using hj
  · unfold maxLen; omega
  · omega
  · have := hB.size; simp; omega
  · intro v' W' h1 h2 _
    refine h v' W' ?_ ((hB.alloc hB.size _).grown h2 (by have := hB.size; simp; omega) (fun k hk => (hown.lt k hk).1)) (by have := h2.size; simp at this; omega)
    rw [ic_append, List.length_append, List.length_singleton]
    exact h1

end Ytmgoonahpndfoaa
end Go.Proofs
