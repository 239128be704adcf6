/- The reference's Play: what its loop keeps in memory. -/
import Derived.Test.YtkffabochgmagaaArRc
import Derived.Test.YtkffabochgmagaaArRd
import Derived.Test.YtkffabochgmagaaArRg
import Derived.Test.YtkffabochgmagaaArPP
namespace Go.Proofs
namespace Ytkffabochgmagaa
open Go.RowKit

/-- block H holds the result's count, block C the count; the words lie in a row of their own, and what was read in another one -/
structure RPl (H C : Nat) (w W : World) (v gv : Value) (s : ASt) : Prop where
  hc : H < C
  out : W.ownsRow (H + 1) 25 1 v s.ws.length (wc s.ws)
  got : W.ownsRow (C + 1) 25 1 gv s.got.length (wc s.got)
  cnt : W.heap[C]? = some (.cells #[.int .i64 s.r, .int .i64 s.w] 50 (0, 0))
  res : W.heap[H]? = some (.cells #[.int .i64 0, .int .i64 0] 50 (0, 0))
  offC : v.ownBlock ≠ some C
  apart : ∀ g, gv.ownBlock = some g → v.ownBlock ≠ some g
  low : Below H w W
theorem heap_lt {W : World} {b : Nat} {o : Obj} (h : W.heap[b]? = some o) : b < W.heap.size := (Array.getElem?_eq_some_iff.1 h).1
theorem RPl.size {H C : Nat} {w W : World} {v gv : Value} {s : ASt} (h : RPl H C w W v gv s) : C < W.heap.size := heap_lt h.cnt
theorem RPl.at {H C : Nat} {w W : World} {v gv : Value} {s : ASt} (h : RPl H C w W v gv s) : WAt W v s.ws := WAt.of_own h.out
theorem RPl.below {H C : Nat} {w W W' : World} {v gv : Value} {s : ASt} (h : RPl H C w W v gv s) (hb : Below W.heap.size W W') : RPl H C w W' v gv s :=
  ⟨h.hc, own_below h.out hb, own_below h.got hb, keep_heap hb h.cnt, keep_heap hb h.res, h.offC, h.apart, h.low.trans (hb.mono (by have := h.size; have := h.hc; omega))⟩
/-- another row of words, made anew -/
theorem RPl.fresh {H C : Nat} {w W W' : World} {v v' gv : Value} {s : ASt} {zs : List Int} {B : Nat} (h : RPl H C w W v gv s) (hb : Below W.heap.size W W') (hB : W.heap.size ≤ B) (ho : W'.ownsRow B 25 1 v' zs.length (wc zs)) : RPl H C w W' v' gv { s with ws := zs } := by
  have h' := h.below hb
  have hs := h.size
  have hc := h.hc
  refine ⟨h'.hc, own_mono ho (by omega), h'.got, h'.cnt, h'.res, fun e => ?_, fun g hg e => ?_, h'.low⟩
  · have := (ho.lt _ e).1; omega
  · have := (ho.lt _ e).1
    have := (h.got.lt _ hg).2
    omega
theorem RPl.count {H C : Nat} {w W : World} {v gv : Value} {s : ASt} (h : RPl H C w W v gv s) (r : Int) : RPl H C w (W.setCell ⟨C, 0, none⟩ (.int .i64 r)) v gv { s with r := r } := by
  have g := grown_set W C 0 (.int .i64 r)
  have hc := h.hc
  refine ⟨h.hc, h.out.kept g (.inr h.offC), h.got.kept g ?_, ?_, set_far _ (by omega) h.res, h.offC, h.apart, h.low.setCell (p := ⟨C, 0, none⟩) (by simp; omega) _⟩
  · cases ho : gv.ownBlock with
    | none => exact .inl rfl
    | some k => right; intro e; have := (h.got.lt _ ho).1; injection e with e; omega
  · have := set_row h.cnt 0 (.int .i64 r)
    simpa using this
theorem RPl.count1 {H C : Nat} {w W : World} {v gv : Value} {s : ASt} (h : RPl H C w W v gv s) (r : Int) : RPl H C w (W.setCell ⟨C, 1, none⟩ (.int .i64 r)) v gv { s with w := r } := by
  have g := grown_set W C 1 (.int .i64 r)
  have hc := h.hc
  refine ⟨h.hc, h.out.kept g (.inr h.offC), h.got.kept g ?_, ?_, set_far _ (by omega) h.res, h.offC, h.apart, h.low.setCell (p := ⟨C, 1, none⟩) (by simp; omega) _⟩
  · cases ho : gv.ownBlock with
    | none => exact .inl rfl
    | some k => right; intro e; have := (h.got.lt _ ho).1; injection e with e; omega
  · have := set_row h.cnt 1 (.int .i64 r)
    simpa using this
/-- one more word read -/
theorem push_got {ops : Array Oper} {rest : List Oper} {o : Oper} {a : Act} {Q : Exit → Act → World → Prop} {H C : Nat} {W W0 w : World} {v gv : Value} {s : ASt} (h0 : RPl H C w W v gv s) (z : Int) (hgd : o.guard = none) (so x : Operand)
    (ho : o.op = .call { callee := .builtin .append, args := #[so, x], argTypes := #[24, 24] }) (hs : a.eval so = gv) (X : Nat) (hx : a.eval x = .slice (some ⟨X, 0, none⟩) 1 1) (hX : X = W.heap.size)
    (hW : W0 = W.alloc (.cells #[.int .u64 z] 25)) (hl : s.got.length + 1 ≤ 1000000)
    (h : ∀ g' cap W', RPl H C w W' v (.slice (some ⟨g', 0, none⟩) (s.got.length + 1) cap) { s with got := s.got ++ [z] } → (∀ b o', W.heap[b]? = some o' → (∀ g, gv.ownBlock = some g → b ≠ g) → W'.heap[b]? = some o') → wpList Try.prog ops Q rest (a.put o.dst (.slice (some ⟨g', 0, none⟩) (s.got.length + 1) cap)) W') : wpList Try.prog ops Q (o :: rest) a W0 := by
  subst hW
  subst hX
  obtain ⟨i0, hi, hz0, hz1, hz2⟩ := info_parts info25
  have hs1 := h0.size
  have hc := h0.hc
  have ha := h0.below (alloc_below W (.cells #[.int .u64 z] 25))
  refine wpList_append_lies _ hgd so x 24 ho (C + 1) 25 i0 _ 1 8 Try.underlying24 hi hz0 hz1 hz2 rfl (by decide) gv s.got.length (wc s.got) hs ha.got ⟨W.heap.size, 0, none⟩ 1 1 [.int .u64 z] hx rfl ?_ (by simp [Value.oneCell']) (by decide) ?_ ?_ ?_ _ rfl ?_
  · intro j u hj
    have e : (⟨W.heap.size, 0, none⟩ : Addr).add j = ⟨W.heap.size, j, none⟩ := by unfold Addr.add; split <;> simp_all
    rw [e, cell_of_row _ _ _ _ _ _ (heap_alloc_new W _)]
    simpa using hj
  · unfold maxLen; omega
  · omega
  · simp; omega
  · intro g' cap W' h1 h2 h3 h4
    have far : ∀ b o', W.heap[b]? = some o' → (∀ g, gv.ownBlock = some g → b ≠ g) → W'.heap[b]? = some o' := fun b o' hb hne =>
      (h2.block b (by have := heap_lt hb; simp; omega) (fun e => hne b e.symm rfl)).trans (keep_heap (alloc_below W _) hb)
    have gl : ∀ g, gv.ownBlock = some g → C + 1 ≤ g := fun g hg => (h0.got.lt g hg).1
    refine h g' cap W' ⟨h0.hc, ?_, ?_, far _ _ h0.cnt (fun g hg => by have := gl g hg; omega), far _ _ h0.res (fun g hg => by have := gl g hg; omega), h0.offC, ?_, ?_⟩ far
    · refine ha.out.kept h2 ?_
      cases hv : v.ownBlock with
      | none => exact .inl rfl
      | some b =>
        right
        intro e
        exact h0.apart b e.symm hv
    · have e : wc (s.got ++ [z]) = wc s.got ++ [.int .u64 z] := by rw [wc_append]; rfl
      dsimp only
      rw [e, List.length_append, List.length_singleton]
      exact h1
    · intro g hg hv
      simp only [Value.ownBlock, Option.some.injEq] at hg
      subst hg
      rcases h3 with h3 | h3
      · exact h0.apart _ h3 hv
      · have := (ha.out.lt _ hv).2
        omega
    · exact ha.low.grown h2 (by simp; omega) (fun k hk => by have := gl k hk; omega)
end Ytkffabochgmagaa
end Go.Proofs
