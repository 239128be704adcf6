/- Words and operations among the arguments: opened, and read again behind the call. -/
import Derived.Test.YtmgoonahpndfoaaArQ
import Derived.WalkKit
import Derived.ProofKit
import Derived.OpenShut
import Derived.Deep.Slices
import Derived.Below
import Derived.ChangeSame
namespace Go.Proofs
namespace Ytmgoonahpndfoaa
open Go.ChangeShapes Go.WideShapes Go.RowKit Go.Deep
set_option maxRecDepth 100000

instance : Inhabited AOp := ⟨⟨0, 0, 0, 0, 0⟩⟩
theorem cellsOf25 : Try.prog.cellsOf 42 = 1 := by kernel_rfl
theorem cellsOf3 : Try.prog.cellsOf 3 = 1 := by kernel_rfl
theorem cellsOf56 : Try.prog.cellsOf 67 = 5 := by kernel_rfl
theorem cells_keep {w W : World} (hb : Below w.heap.size w W) {a : Addr} {n : Nat} {cs : List Value} (h : w.cells? 0 a n = some cs) : W.cells? 0 a n = some cs := by
  obtain ⟨_, hl, hc⟩ := World.cells?_some h
  have k : ∀ i, i < n → W.cell? (a.add i) = w.cell? (a.add i) := fun i hi => by
    have h1 := hc i hi
    have h2 : cs[i]? = some (cs[i]'(by omega)) := List.getElem?_eq_getElem (by omega)
    rw [h2] at h1
    exact hb.cell (cell_lt h1)
  rw [← h]
  unfold World.cells?
  have e : ∀ l : List Nat, (∀ i ∈ l, i < n) → l.mapM (fun i => W.cell? (a.add i)) = l.mapM (fun i => w.cell? (a.add i)) := by
    intro l
    induction l with
    | nil => intro _; rfl
    | cons i r ih =>
      intro hl
      rw [List.mapM_cons, List.mapM_cons, k i (hl i (by simp)), ih (fun j hj => hl j (by simp [hj]))]
  simp only [e (List.range n) (fun i hi => List.mem_range.1 hi)]
section
variable {H : Type} {enc : TypeId × Value → H}
/-- what an operation reads as -/
def opD (o : AOp) : DataW H := .agg [.lit (.int .i64 o.kind), .lit (.int .i64 o.src), .lit (.int .i64 o.dst), .lit (.int .i64 o.n), .lit (.int .u64 o.val)]
/-- its five numbers are numbers of their kinds -/
def opWf (o : AOp) : Prop := (Lit.int .i64 o.kind).wf = true ∧ (Lit.int .i64 o.src).wf = true ∧ (Lit.int .i64 o.dst).wf = true ∧ (Lit.int .i64 o.n).wf = true ∧ (Lit.int .u64 o.val).wf = true
theorem open_op {w : World} {base : Nat} {sp : Nat → Bool} {hd : Bool} {n : Nat} {cs : List Value} {x : DataW H × List MemPlace} (h : DataW.trod enc Try.prog w base sp hd n 67 cs = some x) :
    ∃ o : AOp, cs = (opC o).toList ∧ x = (opD o, []) ∧ opWf o := by
  obtain ⟨xs, m, _, hx, hl, hlen, hg⟩ := DataW.trod_struct Try.underlying67 h
  rw [cellsOf56] at hl
  match cs, hl with
  | [a0, a1, a2, a3, a4], _ =>
    match xs, hlen with
    | [y0, y1, y2, y3, y4], _ =>
      have h0 : DataW.trod enc Try.prog w base sp hd m 3 [a0] = some y0 := by simpa [cellsOf3] using hg 0 _ rfl
      have h1 : DataW.trod enc Try.prog w base sp hd m 3 [a1] = some y1 := by simpa [cellsOf3] using hg 1 _ rfl
      have h2 : DataW.trod enc Try.prog w base sp hd m 3 [a2] = some y2 := by simpa [cellsOf3] using hg 2 _ rfl
      have h3 : DataW.trod enc Try.prog w base sp hd m 3 [a3] = some y3 := by simpa [cellsOf3] using hg 3 _ rfl
      have h4 : DataW.trod enc Try.prog w base sp hd m 42 [a4] = some y4 := by simpa [cellsOf25] using hg 4 _ rfl
      obtain ⟨z0, e0, rfl, w0⟩ := DataW.trod_int Try.underlying3 h0
      obtain ⟨z1, e1, rfl, w1⟩ := DataW.trod_int Try.underlying3 h1
      obtain ⟨z2, e2, rfl, w2⟩ := DataW.trod_int Try.underlying3 h2
      obtain ⟨z3, e3, rfl, w3⟩ := DataW.trod_int Try.underlying3 h3
      obtain ⟨z4, e4, rfl, w4⟩ := DataW.trod_int Try.underlying42 h4
      simp only [List.cons.injEq, and_true] at e0 e1 e2 e3 e4
      subst e0 e1 e2 e3 e4
      exact ⟨⟨z0, z1, z2, z3, z4⟩, rfl, by simpa [opD] using hx, w0, w1, w2, w3, w4⟩
theorem shut_op {w : World} {base : Nat} {sp : Nat → Bool} {hd : Bool} (o : AOp) (h : opWf o) : DataW.trod enc Try.prog w base sp hd 2 67 (opC o).toList = some (opD o, []) := by
  have t := fun (z : Int) (hz : (Lit.int .i64 z).wf = true) => trod_int_mk (enc := enc) (P := Try.prog) (w := w) (base := base) (spare := sp) (held := hd) (t := 3) 0 Try.underlying3 hz
  have t5 := fun (z : Int) (hz : (Lit.int .u64 z).wf = true) => trod_int_mk (enc := enc) (P := Try.prog) (w := w) (base := base) (spare := sp) (held := hd) (t := 42) 0 Try.underlying42 hz
  obtain ⟨w0, w1, w2, w3, w4⟩ := h
  have := trod_struct_mk (enc := enc) (P := Try.prog) (w := w) (base := base) (spare := sp) (held := hd) (t := 67) (n := 1) (cs := (opC o).toList) (xs := [(.lit (.int .i64 o.kind), []), (.lit (.int .i64 o.src), []), (.lit (.int .i64 o.dst), []), (.lit (.int .i64 o.n), []), (.lit (.int .u64 o.val), [])]) Try.underlying67 cellsOf56.symm (by
    simp [List.mapM_cons, opC, cellsOf3, cellsOf25, t _ w0, t _ w1, t _ w2, t _ w3, t5 _ w4])
  simpa [opD] using this
/-- a slice of words -/
theorem open_words {w : World} {r : Reach} {b0 : Nat} {v : Value} {d : DataW H} {p : List MemPlace} (hv : Value.okWide Try.prog w r b0 22 v) (h : DataW.Trod enc Try.prog w 0 (fun _ => true) true 22 v d p) :
    ∃ zs : List Int, WAt w v zs ∧ (zs.length ≤ maxLen ∧ ∀ z ∈ zs, (Lit.int .u64 z).wf = true) ∧ (∀ A n c, v = .slice A n c → n ≤ c) ∧ ∀ W : World, Below w.heap.size w W → ∀ sp : Nat → Bool, (∀ q ∈ p, sp q.block = true) → DataW.Trod enc Try.prog W 0 sp true 22 v d p := by
  obtain ⟨a0, len0, cap0, rfl⟩ := okWide_slice Try.underlying22 hv
  obtain ⟨fuel, hf⟩ := h
  rcases open_slice Try.underlying22 hf with ⟨h1, h2⟩ | ⟨a, len, cap, m, n, D, Pl, h1, _, hlc, hcm, hm, hx, hi⟩
  · simp only [Value.cells, List.cons.injEq, and_true, Value.slice.injEq] at h1
    obtain ⟨rfl, rfl, rfl⟩ := h1
    simp only [Prod.mk.injEq] at h2
    obtain ⟨rfl, rfl⟩ := h2
    exact ⟨[], ⟨none, 0, rfl, fun h => by simp at h⟩, ⟨by simp, fun z hz => by simp at hz⟩, fun A n c e => by cases e; exact Nat.le_refl _, fun W _ sp _ => shut_slice_nil Try.underlying22⟩
  · simp only [Value.cells, List.cons.injEq, and_true, Value.slice.injEq] at h1
    obtain ⟨rfl, rfl, rfl⟩ := h1
    simp only [if_true] at hm
    subst hm
    rw [cellsOf25] at hx hi
    have hs : ∀ i, i < m → ∃ x : Int, w.cells? 0 (a.add (i * 1)) 1 = some [.int .u64 x] ∧ D i = .lit (.int .u64 x) ∧ Pl i = [] ∧ (Lit.int .u64 x).wf = true := fun i hi' => by
      obtain ⟨cs', c1, c2⟩ := hi i hi'
      obtain ⟨z, rfl, e, hw⟩ := DataW.trod_int Try.underlying42 c2
      simp only [Prod.mk.injEq] at e
      exact ⟨z, c1, e.1, e.2, hw⟩
    obtain ⟨f, hf'⟩ := choose_lt hs
    simp only [Prod.mk.injEq] at hx
    obtain ⟨rfl, rfl⟩ := hx
    refine ⟨(List.range len0).map fun i => f i, ⟨some a, m, by simp, fun h0 => ?_⟩, ⟨by simp; omega, fun z hz => by
      obtain ⟨i, hi', rfl⟩ := List.mem_map.1 hz
      exact (hf' i (by have := List.mem_range.1 hi'; omega)).2.2.2⟩, fun A n c e => by cases e; exact hlc, fun W hb sp hsp => ?_⟩
    · simp only [List.length_map, List.length_range] at h0
      have hc0 := (World.cells?_some (hf' 0 (by omega)).1).2.2 0 (by omega)
      have hspot : a.spot = none := by
        rcases a with ⟨ab, ao, asp⟩
        cases asp with
        | none => rfl
        | some k =>
          exfalso
          simp [World.cell?, Addr.add] at hc0
          split at hc0 <;> simp_all
      obtain ⟨ab, ao, asp⟩ := a
      simp only at hspot
      subst hspot
      refine ⟨ab, ao, rfl, fun j u hu => ?_⟩
      have hj : j < len0 := by
        have := (List.getElem?_eq_some_iff.1 hu).1
        rw [wc_length] at this
        simpa using this
      obtain ⟨_, _, hc⟩ := World.cells?_some (hf' j (by omega)).1
      have h3 := hc 0 (by omega)
      have e : (((⟨ab, ao, none⟩ : Addr).add (j * 1)).add 0) = ⟨ab, ao + j, none⟩ := by rw [add_add]; simp [Addr.add]
      rw [e] at h3
      rw [h3]
      rw [wc_get _ j (by simpa using hj)] at hu
      cases hu
      simp [List.getD_eq_getElem?_getD, hj]
    · have hel : ∀ i, i < m → ∃ cs n, W.cells? 0 (a.add (i * 1)) 1 = some cs ∧ DataW.trod enc Try.prog W 0 sp true n 42 cs = some (D i, Pl i) := fun i hi' => by
        obtain ⟨c1, c2, c3, c4⟩ := hf' i hi'
        exact ⟨_, 1, cells_keep hb c1, by rw [c2, c3]; exact trod_int_mk 0 Try.underlying42 c4⟩
      cases hsa : sp a.block with
      | true =>
        have := shut_slice_whole (enc := enc) (w := W) (base := 0) (held := true) Try.underlying22 (Nat.zero_le _) hlc hcm hsa D Pl (by rw [cellsOf25]; exact hel)
        rw [cellsOf25] at this
        exact this
      | false =>
        have h0 : m = 0 := by
          rcases Nat.eq_zero_or_pos m with h | h
          · exact h
          · have := hsp (.cell a.block (a.off + 0)) (List.mem_append_left _ (by unfold MemPlace.row; exact List.mem_map.2 ⟨0, by simp; omega, rfl⟩))
            rw [show (MemPlace.cell a.block (a.off + 0)).block = a.block from rfl, hsa] at this
            cases this
        subst h0
        obtain rfl : len0 = 0 := by omega
        have := shut_slice (enc := enc) (w := W) (base := 0) (held := true) Try.underlying22 (Nat.zero_le _) hlc hcm hsa D Pl (fun i hi' => by omega)
        simpa using this
/-- a slice of operations -/
theorem open_ops {w : World} {r : Reach} {b0 : Nat} {v : Value} {d : DataW H} {p : List MemPlace} (hv : Value.okWide Try.prog w r b0 68 v) (h : DataW.Trod enc Try.prog w 0 (fun _ => true) true 68 v d p) :
    ∃ ops : List AOp, OAt w v ops ∧ ops.length ≤ maxLen ∧ (∀ o ∈ ops, opWf o) ∧ (∀ A n c, v = .slice A n c → n ≤ c) ∧ ∀ W : World, Below w.heap.size w W → ∀ sp : Nat → Bool, (∀ q ∈ p, sp q.block = true) → DataW.Trod enc Try.prog W 0 sp true 68 v d p := by
  obtain ⟨a0, len0, cap0, rfl⟩ := okWide_slice Try.underlying68 hv
  obtain ⟨fuel, hf⟩ := h
  rcases open_slice Try.underlying68 hf with ⟨h1, h2⟩ | ⟨a, len, cap, m, n, D, Pl, h1, _, hlc, hcm, hm, hx, hi⟩
  · simp only [Value.cells, List.cons.injEq, and_true, Value.slice.injEq] at h1
    obtain ⟨rfl, rfl, rfl⟩ := h1
    simp only [Prod.mk.injEq] at h2
    obtain ⟨rfl, rfl⟩ := h2
    exact ⟨[], ⟨none, 0, rfl, fun h => by simp at h⟩, by simp, by simp, fun A n c e => by cases e; exact Nat.le_refl _, fun W _ sp _ => shut_slice_nil Try.underlying68⟩
  · simp only [Value.cells, List.cons.injEq, and_true, Value.slice.injEq] at h1
    obtain ⟨rfl, rfl, rfl⟩ := h1
    simp only [if_true] at hm
    subst hm
    rw [cellsOf56] at hx hi
    have hs : ∀ i, i < m → ∃ x : AOp, w.cells? 0 (a.add (i * 5)) 5 = some (opC x).toList ∧ D i = opD x ∧ Pl i = [] ∧ opWf x := fun i hi' => by
      obtain ⟨cs', c1, c2⟩ := hi i hi'
      obtain ⟨z, rfl, e, hw⟩ := open_op c2
      simp only [Prod.mk.injEq] at e
      exact ⟨z, c1, e.1, e.2, hw⟩
    obtain ⟨f, hf'⟩ := choose_lt hs
    simp only [Prod.mk.injEq] at hx
    obtain ⟨rfl, rfl⟩ := hx
    refine ⟨(List.range len0).map fun i => f i, ⟨some a, m, by simp, fun h0 => ?_⟩, by simp; omega, (fun o ho => by obtain ⟨i, hi2, rfl⟩ := List.mem_map.1 ho; have := List.mem_range.1 hi2; exact (hf' i (by omega)).2.2.2), fun A n c e => by cases e; exact hlc, fun W hb sp hsp => ?_⟩
    · simp only [List.length_map, List.length_range] at h0
      have hc0 := (World.cells?_some (hf' 0 (by omega)).1).2.2 0 (by omega)
      have hc0 : w.cell? ((a.add (0 * 5)).add 0) = some (.int .i64 (f 0).kind) := hc0
      have hspot : a.spot = none := by
        rcases a with ⟨ab, ao, asp⟩
        cases asp with
        | none => rfl
        | some k =>
          exfalso
          simp [World.cell?, Addr.add] at hc0
          split at hc0 <;> simp_all
      obtain ⟨ab, ao, asp⟩ := a
      simp only at hspot
      subst hspot
      refine ⟨ab, ao, rfl, fun j u hu => ?_⟩
      have hj : j < len0 * 5 := by
        have := (List.getElem?_eq_some_iff.1 hu).1
        rw [oc_length] at this
        simpa using this
      have hk : j / 5 < len0 := by omega
      obtain ⟨_, _, hc⟩ := World.cells?_some (hf' (j / 5) (by omega)).1
      have h3 := hc (j % 5) (by omega)
      have e : (((⟨ab, ao, none⟩ : Addr).add (j / 5 * 5)).add (j % 5)) = ⟨ab, ao + j, none⟩ := by rw [add_add, show j / 5 * 5 + j % 5 = j by omega]; simp [Addr.add]
      rw [e] at h3
      rw [h3]
      have h4 := oc_get ((List.range len0).map fun i => f i) (j / 5) (j % 5) (by simpa using hk) (by omega)
      rw [show j / 5 * 5 + j % 5 = j by omega, hu] at h4
      rw [h4]
      simp
    · have hel : ∀ i, i < m → ∃ cs n, W.cells? 0 (a.add (i * 5)) 5 = some cs ∧ DataW.trod enc Try.prog W 0 sp true n 67 cs = some (D i, Pl i) := fun i hi' => by
        obtain ⟨c1, c2, c3, c4⟩ := hf' i hi'
        exact ⟨_, 2, cells_keep hb c1, by rw [c2, c3]; exact shut_op _ c4⟩
      cases hsa : sp a.block with
      | true =>
        have := shut_slice_whole (enc := enc) (w := W) (base := 0) (held := true) Try.underlying68 (Nat.zero_le _) hlc hcm hsa D Pl (by rw [cellsOf56]; exact hel)
        rw [cellsOf56] at this
        exact this
      | false =>
        have h0 : m = 0 := by
          rcases Nat.eq_zero_or_pos m with h | h
          · exact h
          · have := hsp (.cell a.block (a.off + 0)) (List.mem_append_left _ (by unfold MemPlace.row; exact List.mem_map.2 ⟨0, by simp; omega, rfl⟩))
            rw [show (MemPlace.cell a.block (a.off + 0)).block = a.block from rfl, hsa] at this
            cases this
        subst h0
        obtain rfl : len0 = 0 := by omega
        have := shut_slice (enc := enc) (w := W) (base := 0) (held := true) Try.underlying68 (Nat.zero_le _) hlc hcm hsa D Pl (fun i hi' => by omega)
        simpa using this
end
end Ytmgoonahpndfoaa
end Go.Proofs
