/- The reference's before and put; a copy by append. -/
import Derived.Test.YtjkphacidpongaaSlAe
import Derived.Test.YtjkphacidpongaaSlB
namespace Go.Proofs
namespace Ytjkphacidpongaa
open Go.RowKit

set_option maxRecDepth 100000 in
set_option maxHeartbeats 1000000 in
theorem rbefore38 (v : Value) (cs : List Int) (i : Nat) (w : World) (h : IAt w v cs) (hi : i < cs.length) (hm : cs.length ≤ 100000) :
    Calls Try.prog 38 #[v, .int .i64 i] w fun e w' => e = .returned (.bool (decide (cs.getD i 0 ∈ cs.take i))) ∧ Below w.heap.size w w' := by
  obtain ⟨A, cap, rfl, hA⟩ := h
  obtain ⟨b1, o1, rfl, hc⟩ := hA (by omega)
  have CA := Lib.hid hc
  have ad0 : (⟨b1, o1, none⟩ : Addr).add i = ⟨b1, o1 + i, none⟩ := by unfold Addr.add; split <;> simp_all
  have YES := Lib.hid (fun k (hk : k < i) (e : cs.getD k 0 = cs.getD i 0) => (show decide (cs.getD i 0 ∈ cs.take i) = true from decide_eq_true (by
    rw [← e, ← getElem_getD (show k < cs.length by omega)]
    exact List.mem_take_iff_getElem.2 ⟨k, by omega, rfl⟩)))
  have NO := Lib.hid (fun (hn : ∀ k, k < i → cs.getD k 0 ≠ cs.getD i 0) => (show decide (cs.getD i 0 ∈ cs.take i) = false from decide_eq_false (fun hm2 => by
    obtain ⟨k, hk, e⟩ := List.mem_take_iff_getElem.1 hm2
    exact hn k (by omega) (by rw [← e, getElem_getD]))))
  obtain ⟨R, hR⟩ : ∃ R, decide (cs.getD i 0 ∈ cs.take i) = R := ⟨_, rfl⟩
  rw [hR] at YES NO ⊢
  obtain ⟨m, hm2⟩ : ∃ m, cs.length = m := ⟨_, rfl⟩
  rw [hm2] at hi hm CA ⊢
  obtain ⟨x, hx⟩ : ∃ x, cs.getD i 0 = x := ⟨_, rfl⟩
  have CI := Lib.hid (CA.out i hi)
  rw [hx] at YES NO CI
  have hii : (i : Int) < (m : Int) := by omega
  clear hA hc hm2 hR hx
  go_enter Try.func38, Try.ntmps38
  go_wp2
  go_loopw [5] (fun q wr => ∃ k n : Nat, k ≤ i ∧ q = .int .i64 k ∧ Hid (wr = w.drewN n) ∧ Hid (∀ j, j < k → cs.getD j 0 ≠ x)) (fun q _ => i - (intOf q).toNat)
  case atStart => exact ⟨0, 0, by omega, rfl, Lib.hid rfl, Lib.hid (fun j hj => by omega)⟩
  case round =>
    obtain ⟨k, n, hk, rfl, hw, HN⟩ := hrel
    by_cases hlt : k < i
    · have hlt' : (k : Int) < (i : Int) := by omega
      have hkm : (k : Int) < (m : Int) := by omega
      have ca' : wr.cell? ⟨b1, o1 + k, none⟩ = some (.int .i64 (cs.getD k 0)) := by rw [hw.out]; exact CA.out k (by omega)
      have ci' : wr.cell? ⟨b1, o1 + i, none⟩ = some (.int .i64 x) := by rw [hw.out]; exact CI.out
      have ad1 : (⟨b1, o1, none⟩ : Addr).add k = ⟨b1, o1 + k, none⟩ := by unfold Addr.add; split <;> simp_all
      have YK := Lib.hid (YES.out k hlt)
      have NX := Lib.hid (show cs.getD k 0 ≠ x → ∀ j, j < k + 1 → cs.getD j 0 ≠ x from fun h j hj => by
        rcases Nat.lt_or_ge j k with h1 | h1
        · exact HN.out j h1
        · obtain rfl : j = k := by omega
          exact h)
      generalize cs.getD k 0 = y at *
      by_cases hy : y = x
      · have q : (y == x) = true := by simpa using hy
        have T := YK.out hy
        subst T
        clear hy NX YK
        go_wp2_with fail
        go_quiet (fail)
        go_wp2
        refine bodyPost_ret (v := .bool true) (by simp [results, Try.f38, go_sem]) rfl ⟨rfl, ?_⟩
        rw [hw.out]
        exact below_drewN (below_drewN (Below.refl _ _) _) _
      · have q : (y == x) = false := by simpa using hy
        have N := Lib.hid (NX.out hy)
        clear hy NX YK
        go_wp2_with fail
        go_quiet (fail)
        go_wp2
        refine ⟨⟨k + 1, n + nq, by omega, by simp, Lib.hid (by rw [hw.out]; exact World.drewN_drewN ..), N⟩, ?_⟩
        show i - ((k : Int) + 1).toNat < i - ((k : Int)).toNat
        omega
    · have hlt' : ¬ (k : Int) < (i : Int) := by omega
      obtain rfl : k = i := by omega
      have T := NO.out HN.out
      subst T
      go_wp2
      refine bodyPost_ret (v := .bool false) (by simp [results, Try.f38, go_sem]) rfl ⟨rfl, ?_⟩
      rw [hw.out]
      exact below_drewN (Below.refl _ _) _
/-- append of a whole argument to a new, empty row -/
theorem push_all {ops : Array Oper} {rest : List Oper} {o : Oper} {a : Act} {Q : Exit → Act → World → Prop} {W w : World} {v vg : Value} {xs ys : List Int} (hown : W.ownsRow w.heap.size 3 1 v xs.length (ic xs)) (hB : Below w.heap.size w W) (hg : IAt W vg ys) (hne : 0 < ys.length) (hgd : o.guard = none) (s x : Operand)
    (ho : o.op = .call { callee := .builtin .append, args := #[s, x], argTypes := #[24, 24] }) (hs : a.eval s = v) (hx : a.eval x = vg) (hl : xs.length + ys.length ≤ 1000000)
    (h : ∀ g cap W', W'.ownsRow w.heap.size 3 1 (.slice (some ⟨g, 0, none⟩) (xs.length + ys.length) cap) (xs.length + ys.length) (ic (xs ++ ys)) → Below w.heap.size w W' → wpList Try.prog ops Q rest (a.put o.dst (.slice (some ⟨g, 0, none⟩) (xs.length + ys.length) cap)) W') : wpList Try.prog ops Q (o :: rest) a W := by
  obtain ⟨i0, hi, hz0, hz1, hz2⟩ := info_parts info3
  obtain ⟨A, cap, rfl, hA⟩ := hg
  obtain ⟨b, off, rfl, hc⟩ := hA hne
  refine wpList_append_lies _ hgd s x 24 ho w.heap.size 3 i0 _ 1 8 Try.underlying24 hi hz0 hz1 hz2 rfl (by decide) v xs.length (ic xs) hs hown ⟨b, off, none⟩ ys.length cap (ic ys) hx (by rw [ic_length, Nat.mul_one]) ?_ (ic_one ys) hne ?_ ?_ ?_ _ rfl ?_
  · intro j u hj
    have hjl : j < ys.length := by have := (List.getElem?_eq_some_iff.1 hj).1; rwa [ic_length] at this
    rw [ic_get ys j hjl] at hj
    cases hj
    have e : (⟨b, off, none⟩ : Addr).add j = ⟨b, off + j, none⟩ := by simp [Addr.add]
    rw [e]
    exact hc j hjl
  · unfold maxLen; omega
  · omega
  · exact hB.size
  · intro g cap W' h1 h2 _ _
    refine h g cap W' ?_ ?_
    · rw [ic_append]; exact h1
    · exact hB.grown h2 hB.size (fun k hk => (hown.lt k hk).1)
theorem empty_row {W w : World} (hB : Below w.heap.size w W) : (W.alloc (.cells #[] 3)).ownsRow w.heap.size 3 1 (.slice (some ⟨W.heap.size, 0, none⟩) 0 0) ([] : List Int).length (ic []) :=
  ⟨rfl, .inr ⟨W.heap.size, 0, #[], rfl, hB.size, heap_alloc_new W _, Nat.le_refl _, by unfold maxLen; omega, by simp, rfl⟩⟩
theorem irow_cell {W : World} {B g n cap : Nat} {zs : List Int} (h : W.ownsRow B 3 1 (.slice (some ⟨g, 0, none⟩) n cap) n (ic zs)) (hn : zs.length = n) {k : Nat} (hk : k < n) : W.cell? ⟨g, k, none⟩ = some (.int .i64 (zs.getD k 0)) ∧ W.frozen? ⟨g, k, none⟩ = false := by
  refine ⟨?_, h.frozenAt k⟩
  rw [h.cellAt k (by omega), ic_get zs k (by omega)]
theorem irow_put {W w : World} {g n cap : Nat} {zs : List Int} (h : W.ownsRow w.heap.size 3 1 (.slice (some ⟨g, 0, none⟩) n cap) n (ic zs)) (hB : Below w.heap.size w W) (k : Nat) (z : Int) :
    (W.setCell ⟨g, k, none⟩ (.int .i64 z)).ownsRow w.heap.size 3 1 (.slice (some ⟨g, 0, none⟩) n cap) n (ic (zs.set k z)) ∧ Below w.heap.size w (W.setCell ⟨g, k, none⟩ (.int .i64 z)) := by
  obtain ⟨h1, h2⟩ := h.stored k (.int .i64 z)
  refine ⟨?_, hB.setCell (p := ⟨g, k, none⟩) (h.lt g rfl).1 _⟩
  rw [ic_set]
  exact h1
end Ytjkphacidpongaa
end Go.Proofs
