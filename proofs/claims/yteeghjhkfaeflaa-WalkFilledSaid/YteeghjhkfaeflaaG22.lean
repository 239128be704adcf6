/- Append of whatever row to a row of the call's own; rows of pairs. -/
import Derived.Test.YteeghjhkfaeflaaG21
import Derived.Deep.Upon
import Derived.Deep.RegionWith
namespace Go.Proofs
namespace Yteeghjhkfaeflaa
open Go.RowKit

/-- a slice that holds these cells -/
def XAt (W : World) (v : Value) (n : Nat) (cs : List Value) : Prop := ∃ A cap, v = .slice A n cap ∧ (0 < n → ∃ b off, A = some ⟨b, off, none⟩ ∧ ∀ j u, cs[j]? = some u → W.cell? ⟨b, off + j, none⟩ = some u)
theorem XAt.below {W W' : World} {v : Value} {n : Nat} {cs : List Value} (h : XAt W v n cs) (hb : Below W.heap.size W W') : XAt W' v n cs := by
  obtain ⟨A, cap, rfl, h⟩ := h
  refine ⟨A, cap, rfl, fun hn => ?_⟩
  obtain ⟨b, off, rfl, hc⟩ := h hn
  refine ⟨b, off, rfl, fun j u hj => ?_⟩
  have := hc j u hj
  exact (World.cell?_of_block (hb.block _ (cell_lt this))).trans this
theorem XAt.of_own {W : World} {base e sz n : Nat} {v : Value} {xs : List Value} (h : W.ownsRow base e sz v n xs) : XAt W v n xs := by
  obtain ⟨hl, hr⟩ := h
  rcases hr with ⟨rfl, rfl⟩ | ⟨g, cap, cur, rfl, _, hg, hnc, _, hcur, hxs⟩
  · exact ⟨none, 0, rfl, fun h => by omega⟩
  · refine ⟨some ⟨g, 0, none⟩, cap, rfl, fun _ => ⟨g, 0, rfl, fun j u hj => ?_⟩⟩
    rw [cell_of_row _ _ _ _ _ _ hg, Nat.zero_add]
    rw [← hxs, List.getElem?_take] at hj
    split at hj
    · simpa using hj
    · cases hj
/-- the cells of pairs -/
def pc (l : List (Int × Int)) : List Value := l.flatMap fun p => [.int .i64 p.1, .int .i64 p.2]
theorem pc_append (xs ys : List (Int × Int)) : pc (xs ++ ys) = pc xs ++ pc ys := by simp [pc]
theorem pc_length (xs : List (Int × Int)) : (pc xs).length = xs.length * 2 := by
  induction xs with
  | nil => rfl
  | cons x xs ih => simp only [pc, List.flatMap_cons, List.length_append, List.length_cons, List.length_nil] at ih ⊢; omega
theorem pc_one (xs : List (Int × Int)) : ∀ u ∈ pc xs, u.oneCell' = true := by
  intro u hu
  simp only [pc, List.mem_flatMap] at hu
  obtain ⟨p, _, hp⟩ := hu
  simp only [List.mem_cons, List.not_mem_nil, or_false] at hp
  rcases hp with rfl | rfl <;> rfl
theorem ic_one (xs : List Int) : ∀ u ∈ ic xs, u.oneCell' = true := by
  intro u hu
  simp only [ic, List.mem_map] at hu
  obtain ⟨p, _, rfl⟩ := hu
  rfl
theorem ic_len1 (xs : List Int) : (ic xs).length = xs.length * 1 := by rw [ic_length, Nat.mul_one]
theorem info51 : (Try.prog.info? 51).map (fun i => (i.zero, i.size, i.bytes)) = some (some (.agg #[.int .i64 0, .int .i64 0]), 2, 16) := by kernel_rfl
theorem info57 : (Try.prog.info? 57).map (fun i => (i.zero, i.size, i.bytes)) = some (some (.agg #[.int .i64 0, .int .i64 0]), 2, 16) := by kernel_rfl
theorem keep_row {W W' : World} {C e sz n : Nat} {l : Value} {xs : List Value} (hg : W.grownBy W' l.ownBlock) (hown : W.ownsRow C e sz l n xs) {b : Nat} {o : Obj} (hb : b < C) (h : W.heap[b]? = some o) : W'.heap[b]? = some o :=
  (hg.block _ (Array.getElem?_eq_some_iff.1 h).1 (fun e => by have := (hown.lt b e.symm).1; omega)).trans h
/-- the first error of two -/
def firE (x y : Int) : Int := if x = 0 then y else x
/-- append, folded -/
def appF (ts : Array TypeId) (ty : TypeId) (args : Array Value) : Sem Value := Builtin.append_ ts ty args
theorem fold_append (ts : Array TypeId) (ty : TypeId) (args : Array Value) : Builtin.append_ ts ty args = appF ts ty args := rfl
theorem app_any {W : World} {C t e sz bytes n m : Nat} {l u z : Value} {xs news : List Value} (ht : Try.prog.underlying t = some (.slice e)) (hif : (Try.prog.info? e).map (fun i => (i.zero, i.size, i.bytes)) = some (some z, sz, bytes)) (hzs : z.cells.size = sz)
    (hown : W.ownsRow C e sz l n xs) (hu : XAt W u m news) (hl : news.length = m * sz) (h1 : ∀ x ∈ news, x.oneCell' = true) (hm : n + m ≤ 1000000) (hsz : 0 < sz) (hby : bytes ≤ 100) (hC : C ≤ W.heap.size) :
    ∃ l' W', (appF #[t, t] t #[l, u]).run Try.prog W = .ok l' W' ∧ W'.ownsRow C e sz l' (n + m) (xs ++ news) ∧ W.grownBy W' l.ownBlock := by
  obtain ⟨i0, hi, hz0, hz1, hz2⟩ := info_parts hif
  by_cases h0 : m = 0
  · subst h0
    have hn : news = [] := List.eq_nil_of_length_eq_zero (by omega)
    subst hn
    obtain ⟨A, cap, rfl, -⟩ := hu
    have hs : Src Try.prog i0.size t (.slice A 0 cap) 0 [] W := by
      cases A with
      | none => exact Src.ofNil W ht cap
      | some A => exact Src.ofSlice W ht A 0 cap [] (by simp) (fun j u hj => by simp at hj) (fun u hu => by cases hu)
    have hgn : W.grownBy W l.ownBlock := ⟨rfl, rfl, rfl, Nat.le_refl _, fun _ _ _ => rfl⟩
    rcases hown.2 with ⟨rfl, rfl⟩ | ⟨g, c2, cur, rfl, h2, h3, h4, h5⟩
    · exact ⟨_, W, run_append_nothing W t t t e i0 ht hi none 0 0 (Nat.le_refl _) _ hs, by rw [List.append_nil]; exact hown, hgn⟩
    · exact ⟨_, W, run_append_nothing W t t t e i0 ht hi _ n c2 h4 _ hs, by rw [List.append_nil]; exact hown, hgn⟩
  · obtain ⟨A, cap, rfl, hc⟩ := hu
    obtain ⟨b, off, rfl, hc2⟩ := hc (by omega)
    obtain ⟨l', W', hr, h2, h3, -⟩ := run_append_own (P := Try.prog) W C t t e i0 _ sz bytes ht hi hz0 hz1 hz2 hzs hsz l n xs hown ⟨b, off, none⟩ m cap news hl
      (fun j u hj => by
        have e : (⟨b, off, none⟩ : Addr).add j = ⟨b, off + j, none⟩ := by unfold Addr.add; split <;> simp_all
        rw [e]; exact hc2 j u hj) h1 (by unfold maxLen; omega) (Nat.le_trans (Nat.mul_le_mul hm hby) (by decide)) hC
    exact ⟨l', W', hr, h2, h3⟩
/-- what a round leaves -/
structure Got (W : World) (bl bw C T e sz n : Nat) (xs : List Value) (ev : Int) (W' : World) : Prop where
  row : ∃ l', W'.heap[bl]? = some (.cells #[l'] T (0, 0)) ∧ W'.ownsRow C e sz l' n xs
  err : W'.heap[bw]? = some (.cells #[.int .i64 ev] 26 (0, 0))
  same : ∀ k, k < C → k ≠ bl → k ≠ bw → W'.heap[k]? = W.heap[k]?
  os : W'.os = W.os
  tape : W'.tape = W.tape
  output : W'.output = W.output
  size : W.heap.size ≤ W'.heap.size
theorem Got.alloc {W : World} {bl bw C T e sz n : Nat} {xs : List Value} {ev : Int} {W' : World} (h : Got W bl bw C T e sz n xs ev W') (hC : C ≤ W'.heap.size) (o : Obj) : Got W bl bw C T e sz n xs ev (W'.alloc o) := by
  have hb := alloc_below W' o
  obtain ⟨⟨l', h1, h2⟩, h3, h4, h5, h6, h7, h8⟩ := h
  exact ⟨⟨l', keep_heap hb h1, own_below h2 hb⟩, keep_heap hb h3, fun k hk h9 h10 => (Below.heap_alloc _ _ _ (by omega)).trans (h4 k hk h9 h10), h5, h6, h7, by simp; omega⟩
theorem clo_end {W Y : World} {bl bw C T e sz n : Nat} {l l' : Value} {xs : List Value} {er ev : Int} {r : Option Nat} (hb : Below W.heap.size W Y) (hC : C ≤ W.heap.size) {Z : World} (hg : Y.grownBy Z r) (hr : ∀ k, r = some k → C ≤ k)
    (hl : W.heap[bl]? = some (.cells #[l] T (0, 0))) (hw : W.heap[bw]? = some (.cells #[.int .i64 er] 26 (0, 0))) (hbl : bl < C) (hbw : bw < C) (hne : bl ≠ bw) (hown : Z.ownsRow C e sz l' n xs) :
    Got W bl bw C T e sz n xs ev ((Z.setCell ⟨bl, 0, none⟩ l').setCell ⟨bw, 0, none⟩ (.int .i64 ev)) := by
  have hk : ∀ k, k < C → Z.heap[k]? = W.heap[k]? := fun k hk => (hg.block k (by have := hb.size; omega) (fun e => by have := hr k e.symm; omega)).trans (hb.block k (by omega))
  have b1 : Boxed Z bl T l := (hk bl hbl).trans hl
  have b2 : Boxed Z bw 26 (.int .i64 er) := (hk bw hbw).trans hw
  have s1 : (Z.setCell ⟨bl, 0, none⟩ l').heap.size = Z.heap.size := size_set _ _ _
  have s2 : ((Z.setCell ⟨bl, 0, none⟩ l').setCell ⟨bw, 0, none⟩ (.int .i64 ev)).heap.size = Z.heap.size := (size_set _ _ _).trans s1
  have o1 : (Z.setCell ⟨bl, 0, none⟩ l').ownsRow C e sz l' n xs := World.ownsRow.kept hown (grown_set Z bl 0 l') (by
    cases ho : l'.ownBlock with
    | none => exact .inl rfl
    | some g => right; intro e; have := (hown.lt g ho).1; injection e with e; omega)
  have o2 : ((Z.setCell ⟨bl, 0, none⟩ l').setCell ⟨bw, 0, none⟩ (.int .i64 ev)).ownsRow C e sz l' n xs := World.ownsRow.kept o1 (grown_set _ bw 0 _) (by
    cases ho : l'.ownBlock with
    | none => exact .inl rfl
    | some g => right; intro e; have := (hown.lt g ho).1; injection e with e; omega)
  refine ⟨⟨l', Boxed.kept (Boxed.set l' b1) (grown_set _ bw 0 _) (fun e => hne (by injection e)), o2⟩, Boxed.set _ (Boxed.kept b2 (grown_set Z bl 0 l') (fun e => hne (by injection e with e; exact e.symm))), fun k h1 h2 h3 => ?_, hg.os.trans hb.os, hg.tape.trans hb.tape, hg.output.trans hb.output, ?_⟩
  · exact (Below.heap_setCell _ _ _ _ h3).trans ((Below.heap_setCell _ _ _ _ h2).trans (hk k h1))
  · rw [s2]; exact Nat.le_trans hb.size hg.size
end Yteeghjhkfaeflaa
end Go.Proofs
/- What collect answers, as a plain function. -/
namespace Go.Proofs
namespace Yteeghjhkfaeflaa
open Go.RowKit

/-- the first error in objects -/
def errsF (fe : Int → Int) (xs : List Int) : Int := xs.foldl (fun e x => firE e (fe x)) 0
theorem errs_snoc (fe : Int → Int) (xs : List Int) (x : Int) : errsF fe (xs ++ [x]) = firE (errsF fe xs) (fe x) := by simp [errsF]
theorem flat_snoc {α : Type} (fl : Int → List α) (xs : List Int) (x : Int) : (xs ++ [x]).flatMap fl = xs.flatMap fl ++ fl x := by simp
theorem flat_len {α : Type} (fl : Int → List α) (h : ∀ x, (fl x).length ≤ 64) (xs : List Int) : (xs.flatMap fl).length ≤ xs.length * 64 := by
  induction xs with
  | nil => simp
  | cons x xs ih =>
    have := h x
    simp only [List.flatMap_cons, List.length_append, List.length_cons]
    omega
def colF {α : Type} (fl : Int → List α) (fe : Int → Int) (ws : List Int) (f t : Int) : List α × Int :=
  if firE (wcF ws f t).2 (errsF fe (visL ws f t)) = 0 then ((visL ws f t).flatMap fl, 0) else ([], firE (wcF ws f t).2 (errsF fe (visL ws f t)))
end Yteeghjhkfaeflaa
end Go.Proofs
