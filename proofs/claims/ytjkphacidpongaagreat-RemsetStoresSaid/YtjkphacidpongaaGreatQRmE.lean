/- Sets in memory of the call's own; find. -/
import Derived.Test.YtjkphacidpongaaGreatQRmD
import Derived.Test.YtjkphacidpongaaGreatQSmA
import Derived.Test.YtjkphacidpongaaGreatShelfB
namespace Go.Proofs
namespace YtjkphacidpongaaGreat
open Go.RowKit

/-- sets whose tables lie in a block g of the call's own, and that themselves lie in a box o of it -/
structure OB (B : Nat) (W : World) (o g : Nat) (vs : List Value) (nv : Value) (n : Nat) (T : Nat → List Int) : Prop where
  row : W.heap[g]? = some (.cells vs.toArray 27 (0, 0))
  box : W.heap[o]? = some (.cells #[.slice (some ⟨g, 0, none⟩) n n, nv] 29 (0, 0))
  len : vs.length = n
  sl : ∀ u, u ∈ vs → isSl u
  nsl : isSl nv
  cars : ∀ j, j < n → IAt W (vs.getD j nilV) (T j)
  nur : IAt W nv (T n)
  lo : B ≤ g
  loo : B ≤ o
  ne : o ≠ g
def uO (vs : List Value) (nv : Value) (n j : Nat) : Value := if j = n then nv else vs.getD j nilV
theorem OB.below {B : Nat} {W W' : World} {o g : Nat} {vs : List Value} {nv : Value} {n : Nat} {T : Nat → List Int} (h : OB B W o g vs nv n T) (hb : Below W.heap.size W W') : OB B W' o g vs nv n T :=
  ⟨keep_heap hb h.row, keep_heap hb h.box, h.len, h.sl, h.nsl, fun j hj => (h.cars j hj).below hb, h.nur.below hb, h.lo, h.loo, h.ne⟩
theorem row_get {W : World} {g : Nat} {vs : List Value} {t : TypeId} (h : W.heap[g]? = some (.cells vs.toArray t (0, 0))) {j : Nat} (hj : j < vs.length) : W.cell? ⟨g, j, none⟩ = some (vs.getD j nilV) ∧ W.frozen? ⟨g, j, none⟩ = false := by
  refine ⟨?_, frozen_of_row _ _ _ _ _ h⟩
  rw [cell_of_row _ _ _ _ _ _ h]
  simp [List.getD_eq_getElem?_getD, List.getElem?_eq_getElem hj]
theorem OB.rs {B : Nat} {W : World} {o g : Nat} {vs : List Value} {nv : Value} {n : Nat} {T : Nat → List Int} (h : OB B W o g vs nv n T) : RS W (.slice (some ⟨g, 0, none⟩) n n) nv n (uO vs nv n) T := by
  refine ⟨⟨_, _, rfl, fun _ => ⟨g, 0, rfl, fun j hj => ?_⟩⟩, if_pos rfl, fun j hj => ?_⟩
  · rw [Nat.zero_add, (row_get h.row (by rw [h.len]; exact hj)).1]; unfold uO; rw [if_neg (by omega)]
  · unfold uO
    split
    · rename_i e; subst e; exact h.nur
    · exact h.cars j (by omega)
theorem upd_same (T : Nat → List Int) (i : Nat) (cs : List Int) : updT T i cs i = cs := if_pos rfl
theorem upd_other (T : Nat → List Int) {i j : Nat} (cs : List Int) (h : j ≠ i) : updT T i cs j = T j := if_neg h
theorem OB.sl_row {B : Nat} {W : World} {o g : Nat} {vs : List Value} {nv : Value} {n : Nat} {T : Nat → List Int} (h : OB B W o g vs nv n T) : ∀ u, u ∈ vs.toArray.toList → isSl u := h.sl
theorem OB.sl_box {B : Nat} {W : World} {o g : Nat} {vs : List Value} {nv : Value} {n : Nat} {T : Nat → List Int} (h : OB B W o g vs nv n T) : ∀ u, u ∈ (#[.slice (some ⟨g, 0, none⟩) n n, nv] : Array Value).toList → isSl u := fun u hu => by
  simp only [List.mem_cons, List.not_mem_nil, or_false] at hu
  rcases hu with rfl | rfl
  · exact ⟨_, _, _, rfl⟩
  · exact h.nsl
theorem OB.put_nur {B : Nat} {W : World} {o g : Nat} {vs : List Value} {nv : Value} {n : Nat} {T : Nat → List Int} (h : OB B W o g vs nv n T) {u : Value} {cs : List Int} (hu : IAt W u cs) : OB B (W.setCell ⟨o, 1, none⟩ u) o g vs u n (updT T n cs) :=
  ⟨set_far _ (fun e => h.ne e.symm) h.row, set_row h.box 1 u, h.len, h.sl, hu.sl, fun j hj => by rw [upd_other T cs (by omega)]; exact (h.cars j hj).set h.box h.sl_box u, by rw [upd_same]; exact hu.set h.box h.sl_box u, h.lo, h.loo, h.ne⟩
theorem OB.put_car {B : Nat} {W : World} {o g : Nat} {vs : List Value} {nv : Value} {n : Nat} {T : Nat → List Int} (h : OB B W o g vs nv n T) {u : Value} {cs : List Int} (hu : IAt W u cs) {k : Nat} (hk : k < n) : OB B (W.setCell ⟨g, k, none⟩ u) o g (vs.set k u) nv n (updT T k cs) := by
  refine ⟨by rw [set_row h.row k u]; simp, set_far _ h.ne h.box, by rw [List.length_set]; exact h.len, fun x hx => ?_, h.nsl, fun j hj => ?_, by rw [upd_other T cs (by omega)]; exact h.nur.set h.row h.sl_row u, h.lo, h.loo, h.ne⟩
  · rcases List.mem_or_eq_of_mem_set hx with h1 | h1
    · exact h.sl x h1
    · rw [h1]; exact hu.sl
  · by_cases e : j = k
    · subst e
      rw [upd_same, List.getD_eq_getElem?_getD, List.getElem?_set_self (by rw [h.len]; exact hk)]
      exact hu.set h.row h.sl_row u
    · rw [upd_other T cs e, List.getD_eq_getElem?_getD, List.getElem?_set_ne (Ne.symm e), ← List.getD_eq_getElem?_getD]
      exact (h.cars j hj).set h.row h.sl_row u
theorem OB.set_far {B : Nat} {W : World} {o g : Nat} {vs : List Value} {nv : Value} {n : Nat} {T : Nat → List Int} (h : OB B W o g vs nv n T) {q i : Nat} {cs : Array Value} {t : TypeId} (hq : W.heap[q]? = some (.cells cs t (0, 0))) (hs : ∀ u, u ∈ cs.toList → isSl u) (h1 : q ≠ o) (h2 : q ≠ g) (x : Value) : OB B (W.setCell ⟨q, i, none⟩ x) o g vs nv n T :=
  ⟨_root_.Go.Proofs.YtjkphacidpongaaGreat.set_far x (Ne.symm h2) h.row, _root_.Go.Proofs.YtjkphacidpongaaGreat.set_far x (Ne.symm h1) h.box, h.len, h.sl, h.nsl, fun j hj => (h.cars j hj).set hq hs x, h.nur.set hq hs x, h.lo, h.loo, h.ne⟩
theorem OB.ext {B : Nat} {W : World} {o g : Nat} {vs : List Value} {nv : Value} {n : Nat} {T T' : Nat → List Int} (h : OB B W o g vs nv n T) (hT : ∀ j, j ≤ n → T j = T' j) : OB B W o g vs nv n T' :=
  ⟨h.row, h.box, h.len, h.sl, h.nsl, fun j hj => by rw [← hT j (by omega)]; exact h.cars j hj, by rw [← hT n (Nat.le_refl _)]; exact h.nur, h.lo, h.loo, h.ne⟩
theorem RS.ext {W : World} {A nv : Value} {n : Nat} {U : Nat → Value} {T T' : Nat → List Int} (h : RS W A nv n U T) (hT : ∀ j, j ≤ n → T j = T' j) : RS W A nv n U T' := ⟨h.form, h.nur, fun j hj => by rw [← hT j hj]; exact h.at_ j hj⟩
/-- where a set is -/
def ptrO (o g n : Nat) (k : Int) : Value := if k = -1 then .pointer (some ⟨o, 1, none⟩) else if 0 ≤ k ∧ k < n then .pointer (some ⟨g, k.toNat, none⟩) else .pointer none
set_option maxRecDepth 100000 in
set_option maxHeartbeats 1000000 in
theorem find59_nur (o : Nat) (w : World) : Calls Tryz.prog 66 #[.pointer (some ⟨o, 0, none⟩), .int .i64 (-1)] w fun e w' => e = .returned (.pointer (some ⟨o, 1, none⟩)) ∧ w' = w := by
  go_enter Tryz.func66, Tryz.ntmps66
  go_wp2
  refine bodyPost_ret (v := .pointer (some ⟨o, 1, none⟩)) (by simp [results, Tryz.f66, go_sem]) rfl ⟨rfl, rfl⟩
set_option maxRecDepth 100000 in
set_option maxHeartbeats 1000000 in
theorem find59_car (o g n k : Nat) (w : World) (h : w.cell? ⟨o, 0, none⟩ = some (.slice (some ⟨g, 0, none⟩) n n)) (hk : k < n) : Calls Tryz.prog 66 #[.pointer (some ⟨o, 0, none⟩), .int .i64 k] w fun e w' => e = .returned (.pointer (some ⟨g, k, none⟩)) ∧ w' = w := by
  have q1 : ((k : Int) == -1) = false := by simp
  have q2 : decide (0 ≤ (k : Int)) = true := by simp
  have q3 : decide ((k : Int) < (n : Int)) = true := decide_eq_true (by omega)
  have q4 : (k : Int) < (n : Int) := by omega
  have ad : (⟨g, 0, none⟩ : Addr).add k = ⟨g, k, none⟩ := by simp [Addr.add]; intro h; exact h.symm
  clear hk
  go_enter Tryz.func66, Tryz.ntmps66
  go_wp2
  refine bodyPost_ret (v := .pointer (some ⟨g, k, none⟩)) (by simp [results, Tryz.f66, go_sem]) rfl ⟨rfl, rfl⟩
set_option maxRecDepth 100000 in
set_option maxHeartbeats 1000000 in
theorem find59_none (o : Nat) (w : World) : Calls Tryz.prog 66 #[.pointer (some ⟨o, 0, none⟩), .int .i64 (-2)] w fun e w' => e = .returned (.pointer none) ∧ w' = w := by
  go_enter Tryz.func66, Tryz.ntmps66
  go_wp2
  refine bodyPost_ret (v := .pointer none) (by simp [results, Tryz.f66, go_sem]) rfl ⟨rfl, rfl⟩
/-- a copy of a row -/
theorem clone75 (v : Value) (cs : List Int) (w : World) (h : IAt w v cs) (hm : cs.length ≤ 100000) :
    Calls Tryz.prog 88 #[v] w fun e w' => ∃ u, e = .returned u ∧ Row w w' u cs ∧ Below w.heap.size w w' := by
  obtain ⟨A, cap, rfl, hc⟩ := h
  by_cases h0 : 0 < cs.length
  · obtain ⟨b, off, rfl, hcell⟩ := hc h0
    refine (Tryz.slices_Clone_int b off cs.length cap cs w (Nat.le_refl _) (by omega) hcell).mono ?_
    rintro e w' ⟨v', rfl, ho, -, hb⟩
    rw [List.take_length] at ho
    exact ⟨v', rfl, ho, hb⟩
  · obtain rfl : cs = [] := List.eq_nil_of_length_eq_zero (by omega)
    cases A with
    | none =>
      refine (Tryz.slices_Clone_int_nil _ cap w).mono ?_
      rintro e w' ⟨rfl, rfl⟩
      exact ⟨_, rfl, row_nil _ _, Below.refl _ _⟩
    | some a =>
      refine (Tryz.slices_Clone_int_zero a cap w).mono ?_
      rintro e w' ⟨v', rfl, ho, -, hb⟩
      exact ⟨v', rfl, ho, hb⟩
end YtjkphacidpongaaGreat
end Go.Proofs
