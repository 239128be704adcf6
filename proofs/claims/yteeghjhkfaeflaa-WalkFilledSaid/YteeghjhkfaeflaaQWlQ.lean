/- A slice of shapes among the arguments: opened, and read again behind the call. -/
import Derived.Test.YteeghjhkfaeflaaG04
import Derived.Test.YteeghjhkfaeflaaG05
import Derived.Test.YteeghjhkfaeflaaG28
namespace Go.Proofs
namespace Yteeghjhkfaeflaa
open Go.ChangeShapes Go.WideShapes Go.RowKit Go.Deep
set_option maxRecDepth 100000

theorem cells51 : Try.prog.cellsOf 51 = 2 := by kernel_rfl
section
variable {H : Type} {enc : TypeId × Value → H}
def shC (o : Int × Int) : List Value := [.int .i64 o.1, .int .i64 o.2]
def shD (o : Int × Int) : DataW H := .agg [.lit (.int .i64 o.1), .lit (.int .i64 o.2)]
def shWf (o : Int × Int) : Prop := (Lit.int .i64 o.1).wf = true ∧ (Lit.int .i64 o.2).wf = true
theorem open_sh {w : World} {base : Nat} {sp : Nat → Bool} {hd : Bool} {n : Nat} {cs : List Value} {x : DataW H × List MemPlace} (h : DataW.trod enc Try.prog w base sp hd n 51 cs = some x) :
    ∃ o : Int × Int, cs = shC o ∧ x = (shD o, []) ∧ shWf o := by
  obtain ⟨xs, m, _, hx, hl, hlen, hg⟩ := DataW.trod_struct Try.underlying51 h
  rw [cells51] at hl
  match cs, hl with
  | [a0, a1], _ =>
    match xs, hlen with
    | [y0, y1], _ =>
      have h0 : DataW.trod enc Try.prog w base sp hd m 3 [a0] = some y0 := by simpa [cellsOf3] using hg 0 _ rfl
      have h1 : DataW.trod enc Try.prog w base sp hd m 3 [a1] = some y1 := by simpa [cellsOf3] using hg 1 _ rfl
      obtain ⟨z0, e0, rfl, w0⟩ := DataW.trod_int Try.underlying3 h0
      obtain ⟨z1, e1, rfl, w1⟩ := DataW.trod_int Try.underlying3 h1
      simp only [List.cons.injEq, and_true] at e0 e1
      subst e0 e1
      exact ⟨⟨z0, z1⟩, rfl, by simpa [shD] using hx, w0, w1⟩
theorem shut_sh {w : World} {base : Nat} {sp : Nat → Bool} {hd : Bool} (o : Int × Int) (h : shWf o) : DataW.trod enc Try.prog w base sp hd 2 51 (shC o) = some (shD o, []) := by
  have t := fun (z : Int) (hz : (Lit.int .i64 z).wf = true) => trod_int_mk (enc := enc) (P := Try.prog) (w := w) (base := base) (spare := sp) (held := hd) (t := 3) 0 Try.underlying3 hz
  obtain ⟨w0, w1⟩ := h
  have := trod_struct_mk (enc := enc) (P := Try.prog) (w := w) (base := base) (spare := sp) (held := hd) (t := 51) (n := 1) (cs := shC o) (xs := [(.lit (.int .i64 o.1), []), (.lit (.int .i64 o.2), [])]) Try.underlying51 cells51.symm (by
    simp [List.mapM_cons, shC, cellsOf3, t _ w0, t _ w1])
  simpa [shD] using this
theorem open_shapes {w : World} {r : Reach} {b0 : Nat} {v : Value} {d : DataW H} {p : List MemPlace} (hv : Value.okWide Try.prog w r b0 45 v) (h : DataW.Trod enc Try.prog w 0 (fun _ => true) true 45 v d p) :
    ∃ l : List (Int × Int), XAt w v l.length (pc l) ∧ l.length ≤ maxLen ∧ (∀ o ∈ l, shWf o) ∧ (∀ A n c, v = .slice A n c → n ≤ c) ∧ ∀ W : World, Below w.heap.size w W → ∀ sp : Nat → Bool, (∀ q ∈ p, sp q.block = true) → DataW.Trod enc Try.prog W 0 sp true 45 v d p := by
  obtain ⟨a0, len0, cap0, rfl⟩ := okWide_slice Try.underlying45 hv
  obtain ⟨fuel, hf⟩ := h
  rcases open_slice Try.underlying45 hf with ⟨h1, h2⟩ | ⟨a, len, cap, m, n, D, Pl, h1, _, hlc, hcm, hm, hx, hi⟩
  · simp only [Value.cells, List.cons.injEq, and_true, Value.slice.injEq] at h1
    obtain ⟨rfl, rfl, rfl⟩ := h1
    simp only [Prod.mk.injEq] at h2
    obtain ⟨rfl, rfl⟩ := h2
    exact ⟨[], ⟨none, 0, rfl, fun h => by simp at h⟩, by simp, by simp, fun A n c e => by cases e; exact Nat.le_refl _, fun W _ sp _ => shut_slice_nil Try.underlying45⟩
  · simp only [Value.cells, List.cons.injEq, and_true, Value.slice.injEq] at h1
    obtain ⟨rfl, rfl, rfl⟩ := h1
    simp only [if_true] at hm
    subst hm
    rw [cells51] at hx hi
    have hs : ∀ i, i < m → ∃ x : Int × Int, w.cells? 0 (a.add (i * 2)) 2 = some (shC x) ∧ D i = shD x ∧ Pl i = [] ∧ shWf x := fun i hi' => by
      obtain ⟨cs', c1, c2⟩ := hi i hi'
      obtain ⟨z, rfl, e, hw⟩ := open_sh c2
      simp only [Prod.mk.injEq] at e
      exact ⟨z, c1, e.1, e.2, hw⟩
    obtain ⟨f, hf'⟩ := choose_lt hs
    simp only [Prod.mk.injEq] at hx
    obtain ⟨rfl, rfl⟩ := hx
    refine ⟨(List.range len0).map fun i => f i, ⟨some a, m, by simp, fun h0 => ?_⟩, by simp; omega, (fun o ho => by obtain ⟨i, hi2, rfl⟩ := List.mem_map.1 ho; have := List.mem_range.1 hi2; exact (hf' i (by omega)).2.2.2), fun A n c e => by cases e; exact hlc, fun W hb sp hsp => ?_⟩
    · simp only [List.length_map, List.length_range] at h0
      have hc0 := (World.cells?_some (hf' 0 (by omega)).1).2.2 0 (by omega)
      have hc0 : w.cell? ((a.add (0 * 2)).add 0) = some (.int .i64 (f 0).1) := hc0
      have hspot : a.spot = none := by
        rcases a with ⟨ab, ao, asp⟩
        cases asp with
        | none => rfl
        | some k =>
          exfalso
          simp [World.cell?, Addr.add] at hc0
          split at hc0 <;> simp_all
      obtain ⟨ab, ao, asp⟩ := a
      simp only at hspot
      subst hspot
      refine ⟨ab, ao, rfl, fun j u hu => ?_⟩
      have hj : j < len0 * 2 := by
        have := (List.getElem?_eq_some_iff.1 hu).1
        rw [pc_length] at this
        simpa using this
      have hk : j / 2 < len0 := by omega
      obtain ⟨_, _, hc⟩ := World.cells?_some (hf' (j / 2) (by omega)).1
      have h3 := hc (j % 2) (by omega)
      have e : (((⟨ab, ao, none⟩ : Addr).add (j / 2 * 2)).add (j % 2)) = ⟨ab, ao + j, none⟩ := by rw [add_add, show j / 2 * 2 + j % 2 = j by omega]; simp [Addr.add]
      rw [e] at h3
      rw [h3]
      obtain ⟨p1, p2⟩ := pc_get ((List.range len0).map fun i => f i) (j / 2) (by simpa using hk)
      have hg : ((List.range len0).map fun i => f i).getD (j / 2) (0, 0) = f (j / 2) := by simp [List.getD_eq_getElem?_getD, hk]
      rw [hg] at p1 p2
      rcases Nat.mod_two_eq_zero_or_one j with hm | hm
      · rw [show j / 2 * 2 = j by omega, hu] at p1
        rw [hm, p1]; rfl
      · rw [show j / 2 * 2 + 1 = j by omega, hu] at p2
        rw [hm, p2]; rfl
    · have hel : ∀ i, i < m → ∃ cs n, W.cells? 0 (a.add (i * 2)) 2 = some cs ∧ DataW.trod enc Try.prog W 0 sp true n 51 cs = some (D i, Pl i) := fun i hi' => by
        obtain ⟨c1, c2, c3, c4⟩ := hf' i hi'
        exact ⟨_, 2, cells_keep hb c1, by rw [c2, c3]; exact shut_sh _ c4⟩
      cases hsa : sp a.block with
      | true =>
        have := shut_slice_whole (enc := enc) (w := W) (base := 0) (held := true) Try.underlying45 (Nat.zero_le _) hlc hcm hsa D Pl (by rw [cells51]; exact hel)
        rw [cells51] at this
        exact this
      | false =>
        have h0 : m = 0 := by
          rcases Nat.eq_zero_or_pos m with h | h
          · exact h
          · have := hsp (.cell a.block (a.off + 0)) (List.mem_append_left _ (by unfold MemPlace.row; exact List.mem_map.2 ⟨0, by simp; omega, rfl⟩))
            rw [show (MemPlace.cell a.block (a.off + 0)).block = a.block from rfl, hsa] at this
            cases this
        subst h0
        obtain rfl : len0 = 0 := by omega
        have := shut_slice (enc := enc) (w := W) (base := 0) (held := true) Try.underlying45 (Nat.zero_le _) hlc hcm hsa D Pl (fun i hi' => by omega)
        simpa using this
end
end Yteeghjhkfaeflaa
end Go.Proofs
