/- More on tables: what is in them behind an act; rows of numbers are no blocks of slices. -/
import Derived.Test.YtjkphacidpongaaGreatG09
namespace Go.Proofs
namespace YtjkphacidpongaaGreat
open Go.RowKit

def isSl (v : Value) : Prop := ∃ a n c, v = .slice a n c
def nilV : Value := .slice none 0 0
theorem nil_sl : isSl nilV := ⟨_, _, _, rfl⟩
theorem IAt.sl {W : World} {v : Value} {zs : List Int} (h : IAt W v zs) : isSl v := by obtain ⟨A, cap, e, -⟩ := h; exact ⟨_, _, _, e⟩
/-- a row of numbers is no block of slices -/
theorem IAt.set {W : World} {v : Value} {zs : List Int} {g k : Nat} {cs : Array Value} {t : TypeId} (h : IAt W v zs) (hg : W.heap[g]? = some (.cells cs t (0, 0))) (hs : ∀ u, u ∈ cs.toList → isSl u) (x : Value) : IAt (W.setCell ⟨g, k, none⟩ x) v zs := by
  obtain ⟨A, cap, rfl, hc⟩ := h
  refine ⟨A, cap, rfl, fun h0 => ?_⟩
  obtain ⟨b, off, hA, hcell⟩ := hc h0
  refine ⟨b, off, hA, fun j hj => ?_⟩
  have hne : b ≠ g := by
    rintro rfl
    have h1 := hcell j hj
    rw [cell_of_row _ _ _ _ _ _ hg] at h1
    obtain ⟨_, _, _, e⟩ := hs _ (Array.mem_toList_iff.2 (Array.mem_of_getElem? h1))
    cases e
  exact (World.cell?_of_block (Below.heap_setCell W ⟨g, k, none⟩ x b hne)).trans (hcell j hj)
theorem IAt.setN {W : World} {v : Value} {zs : List Int} {g k : Nat} {cs : Array Value} {t : TypeId} (h : IAt W v zs) (hg : W.heap[g]? = some (.cells cs t (0, 0))) (hs : ∀ u, u ∈ cs.toList → ∀ z, u ≠ .int .i64 z) (x : Value) : IAt (W.setCell ⟨g, k, none⟩ x) v zs := by
  obtain ⟨A, cap, rfl, hc⟩ := h
  refine ⟨A, cap, rfl, fun h0 => ?_⟩
  obtain ⟨b, off, hA, hcell⟩ := hc h0
  refine ⟨b, off, hA, fun j hj => ?_⟩
  have hne : b ≠ g := by
    rintro rfl
    have h1 := hcell j hj
    rw [cell_of_row _ _ _ _ _ _ hg] at h1
    exact hs _ (Array.mem_toList_iff.2 (Array.mem_of_getElem? h1)) _ rfl
  exact (World.cell?_of_block (Below.heap_setCell W ⟨g, k, none⟩ x b hne)).trans (hcell j hj)
theorem ask_z {cs : List Int} {a : Int} (h : Good cs) (ha : 1 ≤ a ∧ a ≤ 1600) : askE cs a = 0 := by
  unfold askE; rw [if_neg (by rw [chk_of_good h]; simp), if_pos (isA_iff.2 ha)]
theorem drop_ans {cs : List Int} {a : Int} (h : Good cs) (ha : 1 ≤ a ∧ a ≤ 1600) : dropA cs a = (dropF cs a, hasB cs a, 0) := by unfold dropA; rw [if_neg (by rw [ask_z h ha]; simp)]
theorem add_ans {cs : List Int} {a : Int} (h : Good cs) (ha : 1 ≤ a ∧ a ≤ 1600) : addA cs a = (addF cs a, !hasB cs a, 0) := by unfold addA; rw [if_neg (by rw [ask_z h ha]; simp)]
theorem add_good1 {cs : List Int} {a : Int} (h : Good cs) (ha : 1 ≤ a ∧ a ≤ 1600) : Good (addF cs a) := by
  have := (adds_ok [a] h (fun x hx => by simp at hx; subst hx; exact ha)).1
  simpa using this
theorem drop_good1 {cs : List Int} {a : Int} (h : Good cs) (ha : 1 ≤ a ∧ a ≤ 1600) : Good (dropF cs a) := drop_good h (by omega)
theorem has_ans {cs : List Int} {a : Int} (h : Good cs) (ha : 1 ≤ a ∧ a ≤ 1600) : hasA cs a = (decide (a ∈ cs), 0) := by
  unfold hasA
  rw [if_neg (by rw [ask_z h ha]; simp)]
  congr 1
  cases hb : hasB cs a with
  | true => exact (decide_eq_true ((h.tab.has h.zero (by omega)).1 hb)).symm
  | false => exact (decide_eq_false ((h.tab.hasF h.zero (by omega)).1 hb)).symm
theorem add_mem {cs : List Int} {a x : Int} (h : Good cs) (ha : 1 ≤ a ∧ a ≤ 1600) (hx : 0 < x) : x ∈ addF cs a ↔ x = a ∨ x ∈ cs := by
  have := (adds_ok [a] h (fun y hy => by simp at hy; subst hy; exact ha)).2 x hx
  simpa using this
theorem drop_mem1 {cs : List Int} {a x : Int} (h : Good cs) (ha : 1 ≤ a ∧ a ≤ 1600) (hx : 0 < x) : x ∈ dropF cs a ↔ x ∈ cs ∧ x ≠ a := drop_mem h.tab h.zero (by omega) hx
theorem new18v (w : World) : Calls Tryz.prog 41 #[] w fun e w' => ∃ g, e = .returned (.agg #[.slice (some ⟨g, 0, none⟩) 8 8]) ∧ w.heap.size ≤ g ∧ IAt w' (.slice (some ⟨g, 0, none⟩) 8 8) newF ∧ Below w.heap.size w w' := by
  refine (new18 w).mono ?_
  rintro e w' ⟨v, rfl, g, rfl, hg, ht, hb⟩
  exact ⟨g, rfl, hg, ht.iat, hb⟩
end YtjkphacidpongaaGreat
end Go.Proofs
