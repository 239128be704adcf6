/- The laws' awake answers true; the law ObjectsKnown answers true. -/
import Derived.Test.YteeghjhkfaeflaaG17
namespace Go.Proofs
namespace Yteeghjhkfaeflaa
open Go.RowKit

def exL : List Int := [0, 0, 0, 66049, 7, 0, 99, 0, 0, 0]
def exO : Obj := .cells #[.int .u64 0, .int .u64 0, .int .u64 0, .int .u64 66049, .int .u64 7, .int .u64 0, .int .u64 99, .int .u64 0, .int .u64 0, .int .u64 0] 58
theorem ex_ar (W : World) : Ar (W.alloc exO) (.slice (some ⟨W.heap.size, 0, none⟩) 10 10) exL :=
  ⟨WAt.row (zs := exL) (cap := 10) (heap_alloc_new W exO), fun A n c e => by cases e; exact Nat.le_refl _, fun z hz => by
    simp only [exL, List.mem_cons, List.not_mem_nil, or_false] at hz
    unfold Hd.UI
    omega, by decide⟩
theorem own_some {W : World} {base n : Nat} {v : Value} {xs : List Value} {t : TypeId} (h : W.ownsRow base t 1 v n xs) (hn : 1 ≤ n) : ∃ g cap, v = .slice (some ⟨g, 0, none⟩) n cap := by
  rcases h.2 with ⟨rfl, h0⟩ | ⟨g, cap, cur, rfl, _⟩
  · omega
  · exact ⟨g, cap, rfl⟩
theorem E15 (W : World) : Calls Try.prog 63 #[.slice (some ⟨W.heap.size, 0, none⟩) 10 10, .int .i64 3] (W.alloc exO) fun e w' => e = .returned (.tuple #[.agg #[.int .i64 2, .int .i64 1], .int .i64 0]) ∧ Below W.heap.size W w' := by
  refine (shape15 _ exL 3 _ (ex_ar W)).mono ?_
  rintro e w' ⟨rfl, hb⟩
  have e1 : objF exL 3 = (2, 1, 0) := by decide
  rw [e1]
  exact ⟨rfl, below_end (alloc_below W exO) hb⟩
theorem E15e (W : World) (a c : Int) (h : objF exL a = (0, 0, c)) : Calls Try.prog 63 #[.slice (some ⟨W.heap.size, 0, none⟩) 10 10, .int .i64 a] (W.alloc exO) fun e w' => e = .returned (.tuple #[.agg #[.int .i64 0, .int .i64 0], .int .i64 c]) ∧ Below W.heap.size W w' := by
  refine (shape15 _ exL a _ (ex_ar W)).mono ?_
  rintro e w' ⟨rfl, hb⟩
  rw [h]
  exact ⟨rfl, below_end (alloc_below W exO) hb⟩
theorem E12 (W : World) : Calls Try.prog 52 #[.slice (some ⟨W.heap.size, 0, none⟩) 10 10, .int .i64 7, .agg #[.int .i64 1, .int .i64 1]] (W.alloc exO) fun e w' => ∃ g cap, e = .returned (.tuple #[.slice (some ⟨g, 0, none⟩) 10 cap, .int .i64 0]) ∧ w'.cell? ⟨g, 7, none⟩ = some (.int .u64 65793) ∧ Below W.heap.size W w' := by
  refine (make12 _ exL 7 1 1 _ (ex_ar W) ⟨by decide, by decide⟩ ⟨by decide, by decide⟩).mono ?_
  have e1 : makF exL 7 1 1 = ([0, 0, 0, 66049, 7, 0, 99, 65793, 0, 0], 0) := by decide
  rw [e1]
  rintro e w' ⟨v, rfl, ho, hb⟩
  obtain ⟨g, cap, rfl⟩ := own_some ho (by decide)
  exact ⟨g, cap, rfl, (row_cell (n := 10) ho rfl (k := 7) (by decide)).1, below_end (alloc_below W exO) hb⟩
theorem own_nil {W : World} {base : Nat} {v : Value} {t : TypeId} (h : W.ownsRow base t 1 v 0 []) : ∃ A cap, v = .slice A 0 cap := by
  rcases h.2 with ⟨rfl, _⟩ | ⟨g, cap, cur, rfl, _⟩
  · exact ⟨none, 0, rfl⟩
  · exact ⟨_, cap, rfl⟩
theorem E12e (W : World) (a : Int) (h : makF exL a 1 1 = ([], 7)) : Calls Try.prog 52 #[.slice (some ⟨W.heap.size, 0, none⟩) 10 10, .int .i64 a, .agg #[.int .i64 1, .int .i64 1]] (W.alloc exO) fun e w' => ∃ A cap, e = .returned (.tuple #[.slice A 0 cap, .int .i64 7]) ∧ Below W.heap.size W w' := by
  refine (make12 _ exL a 1 1 _ (ex_ar W) ⟨by decide, by decide⟩ ⟨by decide, by decide⟩).mono ?_
  rw [h]
  rintro e w' ⟨v, rfl, ho, hb⟩
  obtain ⟨A, cap, rfl⟩ := own_nil ho
  exact ⟨A, cap, rfl, below_end (alloc_below W exO) hb⟩
theorem E17 (W : World) : Calls Try.prog 78 #[.slice (some ⟨W.heap.size, 0, none⟩) 10 10, .int .i64 3] (W.alloc exO) fun e w' => e = .returned (.tuple #[.int .i64 4, .int .i64 0]) ∧ Below W.heap.size W w' := by
  refine (size17 _ exL 3 _ (ex_ar W)).mono ?_
  rintro e w' ⟨rfl, hb⟩
  have e1 : sizF exL 3 = (4, 0) := by decide
  rw [e1]
  exact ⟨rfl, below_end (alloc_below W exO) hb⟩
theorem E19 (W : World) : Calls Try.prog 44 #[.slice (some ⟨W.heap.size, 0, none⟩) 10 10, .int .i64 3] (W.alloc exO) fun e w' => ∃ v, e = .returned (.tuple #[v, .int .i64 0]) ∧ IAt w' v [4, 5] ∧ Below W.heap.size W w' := by
  refine (slots19 _ exL 3 _ (ex_ar W)).mono ?_
  have e1 : sltF exL 3 = ([4, 5], 0) := by decide
  rw [e1]
  rintro e w' ⟨v, rfl, ho, hb⟩
  exact ⟨v, rfl, IAt.of_own ho, below_end (alloc_below W exO) hb⟩
theorem E26 (W : World) : Calls Try.prog 67 #[.slice (some ⟨W.heap.size, 0, none⟩) 10 10, .int .i64 3] (W.alloc exO) fun e w' => ∃ v, e = .returned (.tuple #[v, .int .i64 0]) ∧ IAt w' v [7, 0] ∧ Below W.heap.size W w' := by
  refine (pointers26 _ exL 3 _ (ex_ar W)).mono ?_
  have e1 : ptrsF exL 3 = ([7, 0], 0) := by decide
  rw [e1]
  rintro e w' ⟨v, rfl, ho, hb⟩
  exact ⟨v, rfl, IAt.of_own ho, below_end (alloc_below W exO) hb⟩
theorem I21 (xs : List Int) (v1 v2 : Value) (W : World) (hm : xs.length ≤ 1000000) (h1 : IAt W v1 xs) (h2 : IAt W v2 xs) : Calls Try.prog 17 #[v1, v2] W fun e w' => e = .returned (.bool true) ∧ Below W.heap.size W w' :=
  (same21 v1 v2 xs xs hm W h1 h2).mono (fun _ _ q => ⟨by rw [q.1, decide_eq_true rfl], q.2⟩)
end Yteeghjhkfaeflaa
end Go.Proofs
/- The laws ObjectsMakes, ObjectsReads and ObjectsSets answer true. -/
namespace Go.Proofs
namespace Yteeghjhkfaeflaa
open Go.RowKit

theorem S14 (xs : List Int) (v1 v2 : Value) (W : World) (hm : xs.length ≤ 1000000) (h1 : WAt W v1 xs) (h2 : WAt W v2 xs) : Calls Try.prog 31 #[v1, v2] W fun e w' => e = .returned (.bool true) ∧ Below W.heap.size W w' :=
  (same14 v1 v2 xs xs hm W h1 h2).mono (fun _ _ q => ⟨by rw [q.1, decide_eq_true rfl], q.2⟩)
theorem mak_len (ws : List Int) (a P R : Int) : (makF ws a P R).1.length ≤ ws.length := by
  unfold makF
  split
  · simp
  · split
    · simp
    · split
      · rename_i h
        obtain ⟨p1, p2, p3, p4⟩ := partB_spec.1 h
        dsimp only
        rw [List.length_set]
        exact Nat.le_of_eq (zeroL_length (by omega))
      · simp
theorem wr_len (ws : List Int) (k n : Nat) (f z : Int) : (wrF ws k n f z).1.length ≤ ws.length := by
  unfold wrF; split
  · simp
  · simp
theorem st_len (ws : List Int) (k n : Nat) (f z : Int) : (stF ws k n f z).1.length ≤ ws.length := by
  unfold stF; split
  · split
    · simp
    · simp
  · simp
theorem sp_len (ws : List Int) (a f z : Int) : (spF ws a f z).1.length ≤ ws.length := by
  unfold spF; split
  · exact st_len _ _ _ _ _
  · simp
theorem sr_len (ws : List Int) (a f z : Int) : (srF ws a f z).1.length ≤ ws.length := by
  unfold srF; split
  · exact wr_len _ _ _ _ _
  · simp
theorem obj_len (ws : List Int) (a : Int) : (objF ws a).1.toNat ≤ 63 := by
  rcases obj_cases ws a with ⟨E, hE, e⟩ | ⟨k, P, R, rfl, ho⟩
  · rw [e]; show (0 : Int).toNat ≤ 63; decide
  · rw [ho.is]; have := ho.sum; simp; omega
theorem slt_len (ws : List Int) (a : Int) : (sltF ws a).1.length ≤ 63 := by
  unfold sltF; split
  · dsimp only; rw [upL_length]; exact obj_len ws a
  · simp
theorem adrs_len (l : List Int) : (adrsF l).1.length ≤ l.length := by
  unfold adrsF
  by_cases h : l.all (fun z => decide (z ≤ 1600)) = true
  · rw [if_pos h]; exact Nat.le_refl _
  · rw [if_neg h]; exact Nat.zero_le _
theorem ptrs_len (ws : List Int) (a : Int) : (ptrsF ws a).1.length ≤ 63 := by
  unfold ptrsF; split
  · refine Nat.le_trans (adrs_len _) ?_
    have := obj_len ws a
    simp only [part, List.length_take]; omega
  · simp
theorem CAns.own {W : World} {zs : List Int} {E : Int} {e : Ending} {w' : World} (h : CAns W (zs, E) e w') : ∃ v, e = .returned (.tuple #[v, .int .i64 E]) ∧ Hid (WAt w' v zs) ∧ Below W.heap.size W w' := by
  obtain ⟨v, h1, h2, h3⟩ := h
  exact ⟨v, h1, Lib.hid (WAt.of_own h2), h3⟩
theorem IAns.own {W : World} {zs : List Int} {E : Int} {e : Ending} {w' : World} (h : IAns W (zs, E) e w') : ∃ v, e = .returned (.tuple #[v, .int .i64 E]) ∧ Hid (IAt w' v zs) ∧ Below W.heap.size W w' := by
  obtain ⟨v, h1, h2, h3⟩ := h
  exact ⟨v, h1, Lib.hid (IAt.of_own h2), h3⟩

/-- the cells of a field's box -/
theorem four_cells {W : World} {g : Nat} {x y z u : Value} {t : TypeId} (h : W.heap[g]? = some (.cells #[x, y, z, u] t (0, 0))) :
    W.cell? ⟨g, 0, none⟩ = some x ∧ W.cell? ⟨g, 1, none⟩ = some y ∧ W.cell? ⟨g, 2, none⟩ = some z ∧ W.cell? ⟨g, 3, none⟩ = some u := by
  refine ⟨?_, ?_, ?_, ?_⟩ <;> rw [cell_of_row _ _ _ _ _ _ h] <;> rfl
end Yteeghjhkfaeflaa
end Go.Proofs
/- Objects in an arena: what is set is read, what is made is an object; plain functions only. -/
namespace Go.Proofs
namespace Yteeghjhkfaeflaa
open Go.RowKit

theorem pack_obj {P R : Nat} (h : P + R ≤ 63) : Hd.kindV (Hd.packV P R) = 1 ∧ shP (Hd.packV P R) = P ∧ shR (Hd.packV P R) = R := by
  have e1 : shP (Hd.packV P R) = P := by unfold shP Hd.packV; omega
  have e2 : shR (Hd.packV P R) = R := by unfold shR Hd.packV; omega
  refine ⟨Hd.kind_one.2 (Hd.obj_spec.2 ?_), e1, e2⟩
  unfold shP at e1
  unfold shR at e2
  rw [e1, e2]
  exact ⟨Hd.chk_zero.2 ⟨by omega, by omega, by omega⟩, rfl⟩
/-- where there is a header, and all words, there is an object -/
theorem ob_of {ws : List Int} {k P R : Nat} (hc : chkF ws = 0) (h1 : 1 ≤ k) (h2 : k + (1 + P + R) ≤ ws.length) (hs : P + R ≤ 63) (hh : ws.getD k 0 = Hd.packV P R) : ObOk ws k P R := by
  obtain ⟨e1, e2, e3⟩ := pack_obj hs
  refine ⟨hc, h1, h2, (chk_len hc).2, hs, hh, ?_⟩
  have hg : getF ws k = (Hd.packV P R, 0) := by
    unfold getF
    rw [if_neg (by simp [hc]), if_pos (partB_spec.2 ⟨by omega, by omega, by omega, by omega⟩), Int.toNat_natCast, hh]
  unfold objF
  rw [hg, if_neg (by simp), if_neg (by simp [e1]), e2, e3, if_neg (by omega)]
theorem pack_ui {P R : Int} (h0 : 0 ≤ P) (h1 : 0 ≤ R) (h : P + R ≤ 63) : Hd.UI (Hd.packV P R) := by unfold Hd.UI Hd.packV; omega
theorem set_get {ws : List Int} {i : Nat} (hi : i < ws.length) (z : Int) (j : Nat) : (ws.set i z).getD j 0 = if j = i then z else ws.getD j 0 := by
  simp only [List.getD_eq_getElem?_getD, List.getElem?_set]
  by_cases h : i = j
  · subst h; rw [if_pos rfl, if_pos rfl, if_pos hi]; rfl
  · rw [if_neg h, if_neg (fun e => h e.symm)]
theorem set_ui {ws : List Int} (hu : ∀ z ∈ ws, Hd.UI z) {c : Int} (hc : Hd.UI c) (i : Nat) : ∀ z ∈ ws.set i c, Hd.UI z := fun z hz => by
  rcases List.mem_or_eq_of_mem_set hz with h | h
  · exact hu z h
  · rw [h]; exact hc
/-- an object stays where another word is set -/
theorem ob_set {ws : List Int} {k P R i : Nat} (ho : ObOk ws k P R) (hi : k < i) (hl : i < ws.length) (c : Int) : ObOk (ws.set i c) k P R := by
  have h1 := ho.one
  refine ob_of (set_chk c ho.chk (by omega)) ho.one (by rw [List.length_set]; exact ho.fit) ho.sum ?_
  rw [set_get hl, if_neg (by omega)]
  exact ho.head
theorem diffs_set : ∀ (xs : List Int) (k i : Nat) (c : Int), i < xs.length → diffs k xs (xs.set i c) = if xs.getD i 0 = c then [] else [((k + i : Nat) : Int)] := by
  intro xs
  induction xs with
  | nil => intro k i c hi; simp at hi
  | cons x xs ih =>
    intro k i c hi
    have hs : ∀ (ys : List Int) (m : Nat), diffs m ys ys = [] := by
      intro ys
      induction ys with
      | nil => intro m; rfl
      | cons y ys ih2 => intro m; rw [diffs_eq rfl]; exact ih2 _
    cases i with
    | zero =>
      simp only [List.set_cons_zero, List.getD_cons_zero, Nat.add_zero]
      by_cases h : x = c
      · rw [if_pos h, diffs_eq h, hs]
      · rw [if_neg h, diffs_ne h, hs]
    | succ i =>
      simp only [List.set_cons_succ, List.getD_cons_succ]
      rw [diffs_eq rfl, ih (k + 1) i c (by simpa using hi)]
      have e : k + 1 + i = k + (i + 1) := by omega
      rw [e]
theorem diffs_same (xs : List Int) : ∀ k, diffs k xs xs = [] := by
  induction xs with
  | nil => intro k; rfl
  | cons x xs ih => intro k; rw [diffs_eq rfl]; exact ih _
/-- an element of diffs is an index where they differ -/
theorem diffs_mem : ∀ (xs ys : List Int) (k : Nat) (d : Int), d ∈ diffs k xs ys → ∃ i : Nat, d = ((k + i : Nat) : Int) ∧ i < xs.length ∧ xs.getD i 0 ≠ ys.getD i 0 := by
  intro xs
  induction xs with
  | nil => intro ys k d h; rw [diffs_nil] at h; simp at h
  | cons x xs ih =>
    intro ys k d h
    cases ys with
    | nil => simp [diffs] at h
    | cons y ys =>
      by_cases e : x = y
      · rw [diffs_eq e] at h
        obtain ⟨i, h1, h2, h3⟩ := ih ys (k + 1) d h
        exact ⟨i + 1, by rw [h1]; congr 1; omega, by simpa using h2, by simpa using h3⟩
      · rw [diffs_ne e, List.mem_cons] at h
        rcases h with h | h
        · exact ⟨0, by rw [h]; rfl, by simp, by simpa using e⟩
        · obtain ⟨i, h1, h2, h3⟩ := ih ys (k + 1) d h
          exact ⟨i + 1, by rw [h1]; congr 1; omega, by simpa using h2, by simpa using h3⟩
theorem differ_one {ws vs : List Int} (h1 : chkF ws = 0) (h2 : chkF vs = 0) (hl : ws.length = vs.length) : differF ws vs = (diffs 0 ws vs, 0) := differ_good h1 h2 hl
/-- a field that is set -/
def setQ (ws : List Int) (a f t z : Int) : List Int × Int := if z % 2 = 1 then srF ws a f z else spF ws a f t
/-- where, and what -/
def atQ (k P : Nat) (f z : Int) : Nat := if z % 2 = 1 then k + 1 + P + f.toNat else k + 1 + f.toNat
def whQ (t z : Int) : Int := if z % 2 = 1 then z else t
theorem setQ_ok {ws : List Int} {a f t z : Int} (h : (setQ ws a f t z).2 = 0) : ∃ k P R : Nat, a = k ∧ ObOk ws k P R ∧ 0 ≤ f ∧ f < (if z % 2 = 1 then (R : Int) else P) ∧ (z % 2 = 1 ∨ (0 ≤ t ∧ t < ws.length)) := by
  unfold setQ at h
  by_cases hz : z % 2 = 1
  · rw [if_pos hz] at h
    unfold srF at h
    by_cases ho : (objF ws a).2.2 = 0
    · rw [if_pos ho] at h
      rcases obj_cases ws a with ⟨E, hE, e⟩ | ⟨k, P, R, rfl, hk⟩
      · rw [e] at ho; exact absurd ho hE
      · rw [hk.is] at h
        simp only [Int.toNat_natCast] at h
        unfold wrF at h
        by_cases hf : 0 ≤ f ∧ f < (R : Int)
        · exact ⟨k, P, R, rfl, hk, hf.1, by rw [if_pos hz]; exact hf.2, .inl hz⟩
        · rw [if_neg hf] at h; simp at h
    · rw [if_neg ho] at h; exact absurd h ho
  · rw [if_neg hz] at h
    unfold spF at h
    by_cases ho : (objF ws a).2.2 = 0
    · rw [if_pos ho] at h
      rcases obj_cases ws a with ⟨E, hE, e⟩ | ⟨k, P, R, rfl, hk⟩
      · rw [e] at ho; exact absurd ho hE
      · rw [hk.is] at h
        simp only [Int.toNat_natCast] at h
        unfold stF at h
        by_cases hf : 0 ≤ f ∧ f < (P : Int)
        · rw [if_pos hf] at h
          by_cases ht : 0 ≤ t ∧ t < ws.length
          · exact ⟨k, P, R, rfl, hk, hf.1, by rw [if_neg hz]; exact hf.2, .inr ht⟩
          · rw [if_neg ht] at h; simp at h
        · rw [if_neg hf] at h; simp at h
    · rw [if_neg ho] at h; exact absurd h ho
theorem setQ_is {ws : List Int} {k P R : Nat} (ho : ObOk ws k P R) {f t z : Int} (h0 : 0 ≤ f) (hf : f < (if z % 2 = 1 then (R : Int) else P)) (ht : z % 2 = 1 ∨ (0 ≤ t ∧ t < ws.length)) : setQ ws k f t z = (ws.set (atQ k P f z) (whQ t z), 0) := by
  unfold setQ atQ whQ
  by_cases hz : z % 2 = 1
  · rw [if_pos hz] at hf
    rw [if_pos hz, if_pos hz, if_pos hz]
    unfold srF
    rw [ho.is, if_pos rfl]
    simp only [Int.toNat_natCast]
    unfold wrF
    rw [if_pos ⟨h0, hf⟩]
  · rw [if_neg hz] at hf
    rw [if_neg hz, if_neg hz, if_neg hz]
    unfold spF
    rw [ho.is, if_pos rfl]
    simp only [Int.toNat_natCast]
    unfold stF
    rw [if_pos ⟨h0, hf⟩, if_pos (ht.resolve_left hz)]
theorem atQ_range {k P R : Nat} {f z : Int} (h0 : 0 ≤ f) (hf : f < (if z % 2 = 1 then (R : Int) else P)) : k < atQ k P f z ∧ atQ k P f z < k + (1 + P + R) := by
  unfold atQ
  by_cases hz : z % 2 = 1
  · rw [if_pos hz] at hf ⊢; omega
  · rw [if_neg hz] at hf ⊢; omega
theorem atQ_inj {k P R : Nat} {f z f' z' : Int} (h0 : 0 ≤ f) (hf : f < (if z % 2 = 1 then (R : Int) else P)) (h0' : 0 ≤ f') (hf' : f' < (if z' % 2 = 1 then (R : Int) else P)) (h : atQ k P f z = atQ k P f' z') : f = f' ∧ z % 2 = z' % 2 := by
  unfold atQ at h
  by_cases hz : z % 2 = 1 <;> by_cases hz' : z' % 2 = 1
  · rw [if_pos hz] at h hf; rw [if_pos hz'] at h hf'; omega
  · rw [if_pos hz] at h hf; rw [if_neg hz'] at h hf'; omega
  · rw [if_neg hz] at h hf; rw [if_pos hz'] at h hf'; omega
  · rw [if_neg hz] at h hf; rw [if_neg hz'] at h hf'; omega
theorem setQ_err {ws : List Int} {a f t z : Int} (h : (setQ ws a f t z).2 ≠ 0) : (setQ ws a f t z).1 = [] := by
  unfold setQ at h ⊢
  by_cases hz : z % 2 = 1
  · rw [if_pos hz] at h ⊢
    unfold srF wrF at h ⊢
    split at h <;> rename_i h1
    · rw [if_pos h1]
      split at h <;> rename_i h2
      · simp at h
      · rw [if_neg h2]
    · rw [if_neg h1]
  · rw [if_neg hz] at h ⊢
    unfold spF stF at h ⊢
    split at h <;> rename_i h1
    · rw [if_pos h1]
      split at h <;> rename_i h2
      · rw [if_pos h2]
        split at h <;> rename_i h3
        · simp at h
        · rw [if_neg h3]
      · rw [if_neg h2]
    · rw [if_neg h1]
/-- what is made -/
def mkL (ws : List Int) (k n : Nat) (h : Int) : List Int := (zeroL ws k n).set k h
theorem mkL_length {ws : List Int} {k n : Nat} (h : Int) (hn : k + n ≤ ws.length) : (mkL ws k n h).length = ws.length := by unfold mkL; rw [List.length_set, zeroL_length hn]
theorem zeroL_get {ws : List Int} {k n : Nat} (hn : k + n ≤ ws.length) (j : Nat) : (zeroL ws k n).getD j 0 = if k ≤ j ∧ j < k + n then 0 else ws.getD j 0 := by
  simp only [zeroL, List.getD_eq_getElem?_getD, List.getElem?_append, List.length_append, List.length_take, List.length_replicate, List.getElem?_take, List.getElem?_replicate, List.getElem?_drop]
  have e : min k ws.length = k := by omega
  rw [e]
  by_cases h1 : j < k
  · rw [if_pos (by omega), if_pos h1, if_pos h1, if_neg (by omega)]
  · by_cases h2 : j < k + n
    · rw [if_pos h2, if_neg h1, if_pos (by omega), if_pos (by omega)]; rfl
    · rw [if_neg h2, if_neg (by omega), show k + n + (j - (k + n)) = j by omega]
theorem mkL_get {ws : List Int} {k n : Nat} (h : Int) (hn : k + n ≤ ws.length) (h1 : 1 ≤ n) (j : Nat) : (mkL ws k n h).getD j 0 = if j = k then h else if k ≤ j ∧ j < k + n then 0 else ws.getD j 0 := by
  unfold mkL
  rw [set_get (by rw [zeroL_length hn]; omega), zeroL_get hn]
theorem mkL_chk {ws : List Int} {k n : Nat} (h : Int) (hc : chkF ws = 0) (hk : 1 ≤ k) (hn : k + n ≤ ws.length) : chkF (mkL ws k n h) = 0 := set_chk h (zero_chk hc hk hn) hk
theorem mkL_ui {ws : List Int} (hu : ∀ z ∈ ws, Hd.UI z) (k n : Nat) {h : Int} (hh : Hd.UI h) : ∀ z ∈ mkL ws k n h, Hd.UI z := by
  unfold mkL
  refine set_ui (fun z hz => ?_) hh k
  unfold zeroL at hz
  rcases List.mem_append.1 hz with hz | hz
  · rcases List.mem_append.1 hz with hz | hz
    · exact hu z (List.mem_of_mem_take hz)
    · rw [(List.mem_replicate.1 hz).2]; exact ⟨by decide, by decide⟩
  · exact hu z (List.mem_of_mem_drop hz)
theorem mak_is {ws : List Int} {k P R : Nat} (hc : chkF ws = 0) (hs : P + R ≤ 63) (hk : 1 ≤ k) (hn : k + (1 + P + R) ≤ ws.length) : makF ws k P R = (mkL ws k (1 + P + R) (Hd.packV P R), 0) := by
  unfold makF mkL
  rw [if_neg (by simp [hc]), if_neg (by rw [Hd.chk_zero.2 ⟨by omega, by omega, by omega⟩]; simp), if_pos (partB_spec.2 ⟨by omega, by omega, by omega, by omega⟩), Int.toNat_natCast, show (1 + (P : Int) + (R : Int)).toNat = 1 + P + R by omega]
theorem mak_ok {ws : List Int} {a P R : Int} (h : (makF ws a P R).2 = 0) : ∃ k p r : Nat, a = k ∧ P = p ∧ R = r ∧ chkF ws = 0 ∧ p + r ≤ 63 ∧ 1 ≤ k ∧ k + (1 + p + r) ≤ ws.length := by
  unfold makF at h
  by_cases hc : chkF ws = 0
  rotate_left
  · rw [if_pos hc] at h; exact absurd h hc
  rw [if_neg (by simp [hc])] at h
  by_cases hs : Hd.chkV P R = 0
  rotate_left
  · rw [if_pos hs] at h; exact absurd h hs
  rw [if_neg (by simp [hs])] at h
  obtain ⟨z0, z1, z2⟩ := Hd.chk_zero.1 hs
  by_cases hp : partB ws.length a (1 + P + R) = true
  · obtain ⟨p1, p2, p3, p4⟩ := partB_spec.1 hp
    exact ⟨a.toNat, P.toNat, R.toNat, by omega, by omega, by omega, hc, by omega, by omega, by omega⟩
  · rw [if_neg hp] at h; simp at h
theorem mak_err {ws : List Int} {a P R : Int} (h : (makF ws a P R).2 ≠ 0) : (makF ws a P R).1 = [] := by
  unfold makF at h ⊢
  split
  · rfl
  · rename_i h1
    rw [if_neg h1] at h
    split
    · rfl
    · rename_i h2
      rw [if_neg h2] at h
      split
      · rename_i h3; rw [if_pos h3] at h; simp at h
      · rfl
theorem mk_ob {ws : List Int} {k P R : Nat} (hc : chkF ws = 0) (hs : P + R ≤ 63) (hk : 1 ≤ k) (hn : k + (1 + P + R) ≤ ws.length) : ObOk (mkL ws k (1 + P + R) (Hd.packV P R)) k P R :=
  ob_of (mkL_chk _ hc hk hn) hk (by rw [mkL_length _ hn]; exact hn) hs (by rw [mkL_get _ hn (by omega), if_pos rfl])
theorem part_ext {xs ys : List Int} {k j n : Nat} (hx : k + n ≤ xs.length) (hy : j + n ≤ ys.length) (h : ∀ i, i < n → xs.getD (k + i) 0 = ys.getD (j + i) 0) : part xs k n = part ys j n := by
  apply List.ext_getElem
  · rw [part_length hx, part_length hy]
  · intro i h1 h2
    rw [part_length hx] at h1
    have e := h i h1
    rw [← part_get h1, ← part_get h1] at e
    simpa [List.getD_eq_getElem?_getD, List.getElem?_eq_getElem, *] using e
theorem part_at_get {xs ys : List Int} {k j n : Nat} (h : part xs k n = part ys j n) {i : Nat} (hi : i < n) : xs.getD (k + i) 0 = ys.getD (j + i) 0 := by
  rw [← part_get hi, ← part_get hi, h]
theorem alk_eq {ws : List Int} {k j P R : Nat} (h1 : ObOk ws k P R) (h2 : ObOk ws j P R) : alkF ws k j = (decide (part ws (k + 1 + P) R = part ws (j + 1 + P) R), 0) := by
  unfold alkF
  rw [h1.is, h2.is, if_neg (by simp), if_neg (by simp)]
  simp
theorem alk_ne {ws : List Int} {k j P R P' R' : Nat} (h1 : ObOk ws k P R) (h2 : ObOk ws j P' R') (h : ¬ (P = P' ∧ R = R')) : alkF ws k j = (false, 0) := by
  unfold alkF
  rw [h1.is, h2.is, if_neg (by simp), if_neg (by simp)]
  have : decide ((P : Int) = (P' : Int) ∧ (R : Int) = (R' : Int)) = false := decide_eq_false (fun e => h ⟨by omega, by omega⟩)
  dsimp only
  rw [this, Bool.false_and]
/-- a call's own row of words is an arena -/
theorem own_ar {W : World} {B : Nat} {v : Value} {zs : List Int} (h : W.ownsRow B 58 1 v zs.length (wc zs)) (hu : ∀ z ∈ zs, Hd.UI z) (hl : zs.length ≤ 9223372036854775807) : Ar W v zs :=
  ⟨WAt.of_own h, fun A n c e => by
    rcases h.2 with ⟨rfl, h0⟩ | ⟨g, cap, cur, rfl, _, _, hc, _⟩
    · cases e; omega
    · cases e; exact hc, hu, hl⟩
end Yteeghjhkfaeflaa
end Go.Proofs
/- How many places differ. -/
namespace Go.Proofs
namespace Yteeghjhkfaeflaa
open Go.RowKit
theorem diffs_len (k : Nat) (xs ys : List Int) : (diffs k xs ys).length ≤ xs.length := by
  induction xs generalizing k ys with
  | nil => simp [diffs_nil]
  | cons x xs ih =>
    cases ys with
    | nil => simp [diffs]
    | cons y ys =>
      rw [diffs]
      have := ih (k + 1) ys
      split <;> simp <;> omega
/-- a call that answers an arena -/
def RAns (w : World) (rs : List Int) (e : Ending) (w' : World) : Prop := ∃ u, e = .returned (.tuple #[u, .int .i64 0]) ∧ Hid (Ar w' u rs) ∧ Below w.heap.size w w'
end Yteeghjhkfaeflaa
end Go.Proofs
