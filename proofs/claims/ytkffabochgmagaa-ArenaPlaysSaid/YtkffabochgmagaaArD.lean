/- cmp.Or of two errors, and Differ on two arenas of one size. -/
import Derived.Test.YtkffabochgmagaaArT
import Derived.Test.YtkffabochgmagaaArZ
namespace Go.Proofs
namespace Ytkffabochgmagaa
open Go.RowKit

set_option maxRecDepth 100000 in
theorem or39 (g : Nat) (w : World) (h : w.heap[g]? = some (.cells #[.int .i64 0, .int .i64 0] 29 (0, 0))) :
    Calls Try.prog 39 #[.slice (some ⟨g, 0, none⟩) 2 2] w fun e w' => e = .returned (.int .i64 0) ∧ w = w' := by
  have d0 := cell_of_row _ _ 0 _ _ _ h
  have d1 := cell_of_row _ _ 1 _ _ _ h
  simp only [List.getElem?_toArray, List.getElem?_cons_zero, List.getElem?_cons_succ] at d0 d1
  clear h
  go_enter Try.func39, Try.ntmps39
  go_wp2
  go_loopw [8] (fun i wr => ∃ j : Nat, j ≤ 2 ∧ i = .int .i64 j ∧ Hid (w = wr)) (fun i _ => 2 - (intOf i).toNat)
  case atStart => exact ⟨0, by omega, rfl, Lib.hid rfl⟩
  case round =>
    obtain ⟨j, hj, rfl, hw⟩ := hrel
    obtain rfl := hw.out
    rcases (by omega : j = 0 ∨ j = 1 ∨ j = 2) with rfl | rfl | rfl
    · go_wp2
      refine ⟨⟨1, by omega, rfl, Lib.hid trivial⟩, ?_⟩
      decide
    · go_wp2
      refine ⟨⟨2, by omega, rfl, Lib.hid trivial⟩, ?_⟩
      decide
    · go_wp2
      go_ret
      exact ⟨rfl, rfl⟩
/-- what a call of Check answers -/
structure ChkIs (W : World) (v : Value) (c : Int) : Prop where
  call : Calls Try.prog 14 #[v] W fun e w' => e = .returned (.int .i64 c) ∧ W = w'
theorem info3 : (Try.prog.info? 3).map (fun i => (i.zero, i.size, i.bytes)) = some (some (.int .i64 0), 1, 8) := by kernel_rfl
theorem diffs_eq {k : Nat} {x y : Int} {xs ys : List Int} (h : x = y) : diffs k (x :: xs) (y :: ys) = diffs (k + 1) xs ys := by rw [diffs, if_pos h]
theorem diffs_ne {k : Nat} {x y : Int} {xs ys : List Int} (h : x ≠ y) : diffs k (x :: xs) (y :: ys) = (k : Int) :: diffs (k + 1) xs ys := by rw [diffs, if_neg h]
theorem diffs_nil (k : Nat) (ys : List Int) : diffs k [] ys = [] := by cases ys <;> simp [diffs]
theorem own_form {W : World} {base size n : Nat} {e : TypeId} {v : Value} {xs : List Value} (h : W.ownsRow base e size v n xs) : ∃ A cap, v = .slice A n cap := by
  rcases h.2 with ⟨rfl, h0⟩ | ⟨gg, cap, cur, rfl, _⟩
  · rw [h0]; exact ⟨none, 0, rfl⟩
  · exact ⟨_, cap, rfl⟩
theorem push_int {ops : Array Oper} {rest : List Oper} {o : Oper} {a : Act} {Q : Exit → Act → World → Prop} {W W0 w : World} {v : Value} {zs : List Int} (hown : W.ownsRow w.heap.size 3 1 v zs.length (ic zs)) (hB : Below w.heap.size w W) (z : Int) (hgd : o.guard = none) (s x : Operand)
    (ho : o.op = .call { callee := .builtin .append, args := #[s, x], argTypes := #[43, 43] }) (hs : a.eval s = v) (H : Nat) (hx : a.eval x = .slice (some ⟨H, 0, none⟩) 1 1) (hH : H = W.heap.size)
    (hW : W0 = W.alloc (.cells #[.int .i64 z] 3)) (hl : zs.length + 1 ≤ 1000000)
    (h : ∀ v' W', W'.ownsRow w.heap.size 3 1 v' (zs ++ [z]).length (ic (zs ++ [z])) → Below w.heap.size w W' → W.heap.size ≤ W'.heap.size → wpList Try.prog ops Q rest (a.put o.dst v') W') : wpList Try.prog ops Q (o :: rest) a W0 := by
  subst hW
  subst hH
  obtain ⟨i0, hi, hz0, hz1, hz2⟩ := info_parts info3
  refine wpList_append_own _ hgd s x 43 ho w.heap.size 3 i0 _ 1 8 Try.underlying43 hi hz0 hz1 hz2 rfl (by decide) v zs.length (ic zs) hs (hown.alloc _) ⟨W.heap.size, 0, none⟩ 1 1 [.int .i64 z] hx rfl ?_ (by simp [Value.oneCell']) ?_ ?_ ?_ ?_
  · intro j u hj
    have e : (⟨W.heap.size, 0, none⟩ : Addr).add j = ⟨W.heap.size, j, none⟩ := by unfold Addr.add; split <;> simp_all
    rw [e, cell_of_row _ _ _ _ _ _ (heap_alloc_new W _)]
    simpa using hj
  · unfold maxLen; omega
  · omega
  · have := hB.size; simp; omega
  · intro v' W' h1 h2 _
    refine h v' W' ?_ ((hB.alloc hB.size _).grown h2 (by have := hB.size; simp; omega) (fun k hk => (hown.lt k hk).1)) (by have := h2.size; simp at this; omega)
    rw [ic_append, List.length_append, List.length_singleton]
    exact h1

set_option maxRecDepth 100000 in
set_option maxHeartbeats 1000000 in
theorem differ26_ok (v1 v2 : Value) (xs ys : List Int) (w : World) (h1 : WAt w v1 xs) (h2 : WAt w v2 ys) (c1 : chkF xs = 0) (c2 : chkF ys = 0) (hl : xs.length = ys.length) :
    Calls Try.prog 26 #[v1, v2] w fun e w' => ∃ v, e = .returned (.tuple #[v, .int .i64 0]) ∧ w'.ownsRow w.heap.size 3 1 v (diffs 0 xs ys).length (ic (diffs 0 xs ys)) ∧ Below w.heap.size w w' := by
  have hx : 1 ≤ xs.length ∧ xs.length ≤ 1601 := by
    apply Classical.byContradiction
    intro hn
    rw [chk_long (by omega)] at c1
    cases c1
  have e1 := check14 v1 xs w h1 (by omega)
  have e2 := check14 v2 ys w h2 (by omega)
  rw [c1] at e1
  rw [c2] at e2
  have C1 : ChkIs w v1 0 := ⟨e1⟩
  have C2 : ChkIs w v2 0 := ⟨e2⟩
  have O := Lib.hid (or39 w.heap.size _ (heap_alloc_new w (.cells #[.int .i64 0, .int .i64 0] 29)))
  have BB := Lib.hid (alloc_below w (.cells #[.int .i64 0, .int .i64 0] 29))
  obtain ⟨A1, p1, rfl, hA1⟩ := h1
  obtain ⟨A2, p2, rfl, hA2⟩ := h2
  obtain ⟨b1, o1, rfl, hc1⟩ := hA1 (by omega)
  obtain ⟨b2, o2, rfl, hc2⟩ := hA2 (by omega)
  have H1 := Lib.hid hc1
  have H2 := Lib.hid hc2
  have HL := Lib.hid hl
  have q0 : ((xs.length : Int) != (ys.length : Int)) = false := by simp; omega
  clear e1 e2 c1 c2 hA1 hA2 hc1 hc2 hl
  go_enter Try.func26, Try.ntmps26
  go_wp2_with (first
    | (go_at_call 14; refine (ChkIs.call (by assumption)).mono ?_; rintro e w' ⟨rfl, rfl⟩)
    | (go_at_call 39; refine O.out.mono ?_; rintro e w' ⟨rfl, rfl⟩))
  generalize w.alloc (.cells #[.int .i64 0, .int .i64 0] 29) = W1 at *
  go_loopw [7, 26] (fun v i wr => ∃ (k : Nat) (acc : List Int), k ≤ xs.length ∧ i = .int .i64 k ∧ Hid (wr.ownsRow w.heap.size 3 1 v acc.length (ic acc)) ∧ Hid (Below w.heap.size w wr) ∧ Hid (diffs 0 xs ys = acc ++ diffs k (xs.drop k) (ys.drop k)) ∧ acc.length ≤ k) (fun _ i _ => xs.length - (intOf i).toNat)
  case atStart => exact ⟨0, [], by omega, rfl, Lib.hid (World.ownsRow_nil _ _ _ _), BB, Lib.hid (by simp), by simp⟩
  case round =>
    obtain ⟨k, acc, hk, rfl, hown, hB, hd, hacc⟩ := hrel
    by_cases hlt : k < xs.length
    · have hk' : k < ys.length := by rw [← HL.out]; exact hlt
      have d1 : wr.cell? ⟨b1, o1 + k, none⟩ = some (.int .u64 (xs.getD k 0)) := (hB.out.cell (p := ⟨b1, _, none⟩) (cell_lt (H1.out _ _ (wc_get xs k hlt)))).trans (H1.out _ _ (wc_get xs k hlt))
      have d2 : wr.cell? ⟨b2, o2 + k, none⟩ = some (.int .u64 (ys.getD k 0)) := (hB.out.cell (p := ⟨b2, _, none⟩) (cell_lt (H2.out _ _ (wc_get ys k hk')))).trans (H2.out _ _ (wc_get ys k hk'))
      have G1 := Lib.hid (show xs.drop k = xs.getD k 0 :: xs.drop (k + 1) by rw [List.drop_eq_getElem_cons hlt]; simp [List.getD_eq_getElem?_getD, List.getElem?_eq_getElem hlt])
      have G2 := Lib.hid (show ys.drop k = ys.getD k 0 :: ys.drop (k + 1) by rw [List.drop_eq_getElem_cons hk']; simp [List.getD_eq_getElem?_getD, List.getElem?_eq_getElem hk'])
      have hlt' : (k : Int) < (xs.length : Int) := by omega
      have hky : (k : Int) < (ys.length : Int) := by omega
      by_cases hg : xs.getD k 0 = ys.getD k 0
      · have D := Lib.hid (show diffs 0 xs ys = acc ++ diffs (k + 1) (xs.drop (k + 1)) (ys.drop (k + 1)) by rw [hd.out, G1.out, G2.out, diffs_eq hg])
        have qn : (xs.getD k 0 != ys.getD k 0) = false := by simpa using hg
        clear hg G1 G2
        generalize xs.getD k 0 = x at *
        generalize ys.getD k 0 = y at *
        go_wp2
        refine ⟨⟨k + 1, acc, by omega, by simp, hown, hB, D, by omega⟩, ?_⟩
        show xs.length - ((k : Int) + 1).toNat < xs.length - ((k : Int)).toNat
        omega
      · have D := Lib.hid (show diffs 0 xs ys = (acc ++ [(k : Int)]) ++ diffs (k + 1) (xs.drop (k + 1)) (ys.drop (k + 1)) by rw [hd.out, G1.out, G2.out, diffs_ne hg]; simp)
        have qn : (xs.getD k 0 != ys.getD k 0) = true := by simpa using hg
        clear hg G1 G2
        generalize xs.getD k 0 = x at *
        generalize ys.getD k 0 = y at *
        go_wp2_with (at_builtin; refine push_int hown.out hB.out (k : Int) rfl _ _ rfl rfl wr.heap.size rfl rfl rfl (by omega) ?_; intro v5 W5 ho5 hb5 hs5)
        refine ⟨⟨k + 1, acc ++ [(k : Int)], by omega, by simp, Lib.hid ho5, Lib.hid hb5, D, by simp; omega⟩, ?_⟩
        show xs.length - ((k : Int) + 1).toNat < xs.length - ((k : Int)).toNat
        omega
    · have ek : k = xs.length := by omega
      subst ek
      have D := Lib.hid (show diffs 0 xs ys = acc by rw [hd.out, List.drop_length, diffs_nil, List.append_nil])
      obtain ⟨A', c', rfl⟩ := own_form hown.out
      go_wp2
      exact bodyPost_ret (v := .tuple #[.slice A' acc.length c', .int .i64 0]) (by simp [results, Try.f26, go_sem]) rfl ⟨_, rfl, by rw [D.out]; exact hown.out, hB.out⟩
end Ytkffabochgmagaa
end Go.Proofs
