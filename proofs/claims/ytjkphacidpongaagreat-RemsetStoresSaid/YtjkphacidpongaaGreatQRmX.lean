/- all, the reference's. -/
import Derived.Test.YtjkphacidpongaaGreatQRmI
import Derived.Test.YtjkphacidpongaaGreatQSlBj
namespace Go.Proofs
namespace YtjkphacidpongaaGreat
open Go.RowKit

theorem run_append_nought {w : World} {base : Nat} (t ty e : TypeId) (i : TypeInfo) (size : Nat) (ht : Tryz.prog.underlying t = some (.slice e)) (hi : Tryz.prog.info? e = some i) (A : Option Addr) (c : Nat)
    (v : Value) (n : Nat) (xs : List Value) (hown : w.ownsRow base e size v n xs) :
    (Builtin.append_ #[t, t] ty #[v, .slice A 0 c]).run Tryz.prog w = .ok v w := by
  cases A with
  | none =>
    rcases hown.2 with ⟨rfl, rfl⟩ | ⟨g, cap, cur, rfl, _, _, hnc, _⟩
    · simp [Builtin.append_, run_underlying ht, sizeOf, typeInfo, hi, Builtin.lenOf, Builtin.firstCells]
    · simp [Builtin.append_, run_underlying ht, sizeOf, typeInfo, hi, Builtin.lenOf, Builtin.firstCells, hnc, storeCells]
  | some ad =>
    rcases hown.2 with ⟨rfl, rfl⟩ | ⟨g, cap, cur, rfl, _, _, hnc, _⟩
    · simp [Builtin.append_, run_underlying ht, sizeOf, typeInfo, hi, Builtin.lenOf, Builtin.firstCells, loadCells, loadCellsFrom]
    · simp [Builtin.append_, run_underlying ht, sizeOf, typeInfo, hi, Builtin.lenOf, Builtin.firstCells, hnc, storeCells, loadCells, loadCellsFrom]
/-- the first tables as a list -/
def uL (U : Nat → Value) (n : Nat) : List Value := (List.range n).map U
theorem uL_len (U : Nat → Value) (n : Nat) : (uL U n).length = n := by simp [uL]
theorem uL_get {U : Nat → Value} {n j : Nat} (h : j < n) : (uL U n)[j]? = some (U j) := by unfold uL; rw [List.getElem?_map, List.getElem?_range h]; rfl
theorem uL_at {U : Nat → Value} {n j : Nat} {u : Value} (h : (uL U n)[j]? = some u) : j < n ∧ u = U j := by
  have hj : j < n := by
    have := (List.getElem?_eq_some_iff.1 h).1
    rwa [uL_len] at this
  rw [uL_get hj] at h
  exact ⟨hj, by injection h with h; exact h.symm⟩
/-- the source of an append -/
def SrcS (W : World) (x : Value) (m : Nat) (U : Nat → Value) : Prop := ∃ a cap, x = .slice a m cap ∧ (0 < m → ∃ b off, a = some ⟨b, off, none⟩ ∧ ∀ j, j < m → W.cell? ⟨b, off + j, none⟩ = some (U j))
/-- append of tables to a row of tables of the call's own -/
theorem run_append_sets {W : World} {B n m : Nat} {v x : Value} {xs : List Value} {U : Nat → Value} (ty : TypeId) (hown : W.ownsRow B 27 1 v n xs) (hx : SrcS W x m U) (hU : ∀ j, j < m → isSl (U j)) (hB : B ≤ W.heap.size) (hl : n + m ≤ 1000000) :
    ∃ v' W', (Builtin.append_ #[24, 24] ty #[v, x]).run Tryz.prog W = .ok v' W' ∧ W'.ownsRow B 27 1 v' (n + m) (xs ++ uL U m) ∧ W.grownBy W' v.ownBlock ∧ (v'.ownBlock = v.ownBlock ∨ v'.ownBlock = some W.heap.size) := by
  obtain ⟨a, cap, rfl, hc⟩ := hx
  obtain ⟨i0, hi, hz0, hz1, hz2⟩ := info_parts info26
  by_cases hm : 0 < m
  · obtain ⟨b, off, rfl, hc2⟩ := hc hm
    obtain ⟨g, cap', W', hr, ho, hg, hv, hlt⟩ := run_append_lies (P := Tryz.prog) (w := W) 24 ty B 27 i0 _ 1 24 Tryz.underlying24 hi hz0 hz1 hz2 rfl (by decide) v n xs hown
      ⟨b, off, none⟩ m cap (uL U m) (by rw [uL_len, Nat.mul_one]) (fun j u hj => by
        obtain ⟨hj2, rfl⟩ := uL_at hj
        have e : (⟨b, off, none⟩ : Addr).add j = ⟨b, off + j, none⟩ := by unfold Addr.add; split <;> simp_all
        rw [e]; exact hc2 j hj2) (fun u hu => by
        obtain ⟨j, hj⟩ := List.mem_iff_getElem?.1 hu
        obtain ⟨hj2, rfl⟩ := uL_at hj
        obtain ⟨_, _, _, e⟩ := hU j hj2
        rw [e]; rfl) hm (by unfold maxLen; omega) (by omega) hB _ rfl
    refine ⟨_, W', hr, ho, hg, hv.elim (fun e => .inl (by rw [e]; rfl)) (fun e => .inr (by rw [e]; rfl))⟩
  · obtain rfl : m = 0 := by omega
    refine ⟨v, W, run_append_nought _ ty 27 i0 1 Tryz.underlying24 hi a cap v n xs hown, by simpa [uL] using hown, ⟨rfl, rfl, rfl, Nat.le_refl _, fun b _ _ => rfl⟩, .inl rfl⟩
/-- at a step of a region that draws -/
theorem step_append_sets {ops : Array Oper} {o : Oper} {a : Act} {W : World} {K : Act → World → Prop} {Q : Exit → Act → World → Prop} {E : Prop} (hgd : o.guard = none) (s x : Operand)
    (ho : o.op = .call { callee := .builtin .append, args := #[s, x], argTypes := #[24, 24] })
    {B n m : Nat} {v : Value} {xs : List Value} {U : Nat → Value} (hs : a.eval s = v) (hown : W.ownsRow B 27 1 v n xs) (hx : SrcS W (a.eval x) m U) (hU : ∀ j, j < m → isSl (U j)) (hB : B ≤ W.heap.size) (hl : n + m ≤ 1000000)
    (h : ∀ v' W', W'.ownsRow B 27 1 v' (n + m) (xs ++ uL U m) → W.grownBy W' v.ownBlock → (v'.ownBlock = v.ownBlock ∨ v'.ownBlock = some W.heap.size) → K (a.put o.dst v') W') :
    if Region.wanted o (yielded ops a.tmps) = true then Oper.wp Tryz.prog o a W K Q else E := by
  have hw : Region.wanted o (yielded ops a.tmps) = true := by simp [Region.wanted, hgd]
  rw [if_pos hw]
  obtain ⟨v', W', hr, h1, h2, h3⟩ := run_append_sets o.type hown hx hU hB hl
  unfold Oper.wp execOp
  simp only [ho, resolve, invoke, builtin, Sem.run_bind, Sem.run_pure, Result.andThen_ok, List.map_toArray, List.map_cons, List.map_nil, hs, hr]
  exact h v' W' h1 h2 h3
/-- all the sets in one slice of the call's own -/
def AllAns (w : World) (n : Nat) (U : Nat → Value) (T : Nat → List Int) (e : Ending) (w' : World) : Prop := ∃ g cap, e = .returned (.slice (some ⟨g, 0, none⟩) (n + 1) cap) ∧ (∀ j, j ≤ n → w'.cell? ⟨g, j, none⟩ = some (U j) ∧ IAt w' (U j) (T j)) ∧ Below w.heap.size w w'
theorem src_new (W : World) (u : Value) : SrcS (W.alloc (.cells #[u] 27)) (.slice (some ⟨W.heap.size, 0, none⟩) 1 1) 1 (fun _ => u) :=
  ⟨_, 1, rfl, fun _ => ⟨W.heap.size, 0, rfl, fun j hj => by
    obtain rfl : j = 0 := by omega
    rw [cell_of_row _ _ _ _ _ _ (heap_alloc_new W _)]; rfl⟩⟩
theorem src_at {W : World} {Y : Nat} {u : Value} (h : W.heap[Y]? = some (.cells #[u] 27 (0, 0))) : SrcS W (.slice (some ⟨Y, 0, none⟩) 1 1) 1 (fun _ => u) :=
  ⟨_, 1, rfl, fun _ => ⟨Y, 0, rfl, fun j hj => by
    obtain rfl : j = 0 := by omega
    rw [cell_of_row _ _ _ _ _ _ h]; rfl⟩⟩
/-- after the first append -/
structure MidP (w W0 W : World) (v : Value) (n : Nat) (U : Nat → Value) : Prop where
  own : W.ownsRow w.heap.size 27 1 v (0 + n) ([] ++ uL U n)
  bel : Below W0.heap.size W0 W
  ob : ∀ g, v.ownBlock = some g → W0.heap.size ≤ g
theorem MidP.below {w W0 W W' : World} {v : Value} {n : Nat} {U : Nat → Value} (h : MidP w W0 W v n U) (hb : Below W.heap.size W W') : MidP w W0 W' v n U :=
  ⟨h.own.kept (grown_of_below hb none) (by cases v.ownBlock <;> simp), below_end h.bel hb, h.ob⟩
theorem bel1 (W : World) (o : Obj) : Below W.heap.size W (W.alloc o) := alloc_below W o
theorem bel2 (W : World) : Below W.heap.size W W.drew := below_drewN (Below.refl _ _) 1
theorem bel3 (W : World) (o : Obj) : Below W.heap.size W (W.drew.alloc o) := below_end (bel2 W) (alloc_below _ o)
theorem bel4 (W : World) (o : Obj) : Below W.heap.size W (W.alloc o).drew := below_drewN (alloc_below W o) 1
theorem bel_drew {B : Nat} {a w : World} (h : Below B a w) : Below B a w.drew := below_drewN h 1
theorem mid_of {w W0 W W' : World} {v : Value} {n X : Nat} {U : Nat → Value} (hb : Below W0.heap.size W0 W) (hX : W0.heap.size ≤ X)
    (ho : W'.ownsRow w.heap.size 27 1 v (0 + n) ([] ++ uL U n)) (hg : W.grownBy W' (some X)) (hv : v.ownBlock = some X ∨ v.ownBlock = some W.heap.size) : MidP w W0 W' v n U ∧ ∀ Y o, W.heap[Y]? = some o → Y ≠ X → W'.heap[Y]? = some o := by
  refine ⟨⟨ho, hb.grown hg hb.size (fun q e => by injection e with e; omega), fun g e => ?_⟩, fun Y o hY hne => ?_⟩
  · have := hb.size
    rcases hv with h | h <;> (rw [h] at e; injection e with e; omega)
  · exact (hg.block Y (Array.getElem?_eq_some_iff.1 hY).1 (fun e => hne (by injection e))).trans hY
theorem own_zero {w W0 W : World} {X : Nat} (hw : w.heap.size ≤ W0.heap.size) (hX : W0.heap.size ≤ X) (h : W.heap[X]? = some (.cells #[] 27 (0, 0))) : W.ownsRow w.heap.size 27 1 (.slice (some ⟨X, 0, none⟩) 0 0) 0 [] :=
  ⟨rfl, .inr ⟨_, 0, #[], rfl, by omega, h, Nat.le_refl _, by unfold maxLen; omega, rfl, rfl⟩⟩
theorem src_row {w W : World} {a : Option Addr} {cap n : Nat} {U : Nat → Value} (hcar : 0 < n → ∃ b off, a = some ⟨b, off, none⟩ ∧ ∀ j, j < n → w.cell? ⟨b, off + j, none⟩ = some (U j)) (hb : Below w.heap.size w W) : SrcS W (.slice a n cap) n U := ⟨a, cap, rfl, fun h => by
  obtain ⟨b, off, e, hc⟩ := hcar h
  exact ⟨b, off, e, fun j hj => keep_cell hb (hc j hj)⟩⟩
theorem fin_of {w W0 W W' : World} {A nv : Value} {v v' : Value} {n : Nat} {U : Nat → Value} {T : Nat → List Int} (hR : RS w A nv n U T) (hw : Below w.heap.size w W0) (h : MidP w W0 W v n U)
    (ho : W'.ownsRow w.heap.size 27 1 v' (0 + n + 1) (([] ++ uL U n) ++ uL (fun _ => nv) 1)) (hg : W.grownBy W' v.ownBlock) : ∃ g cap, v' = .slice (some ⟨g, 0, none⟩) (n + 1) cap ∧ (∀ j, j ≤ n → W'.cell? ⟨g, j, none⟩ = some (U j) ∧ IAt W' (U j) (T j)) ∧ Below w.heap.size w W' := by
  have hb : Below w.heap.size w W' := (below_end hw h.bel).grown hg ((below_end hw h.bel).size) (fun q e => by have := h.ob q e; have := hw.size; omega)
  rw [Nat.zero_add, List.nil_append] at ho
  obtain ⟨g, cap, rfl, -, -⟩ := World.ownsRow.form ho (by omega)
  refine ⟨g, cap, rfl, fun j hj => ⟨?_, (hR.at_ j hj).below hb⟩, hb⟩
  have e : (⟨g, 0, none⟩ : Addr).add j = ⟨g, j, none⟩ := by unfold Addr.add; split <;> simp_all
  rw [← e]
  refine ho.cells (g := g) rfl j (U j) ?_
  rcases Nat.lt_or_ge j n with hlt | hge
  · rw [List.getElem?_append_left (by rw [uL_len]; exact hlt)]; exact uL_get hlt
  · obtain rfl : j = n := by omega
    rw [List.getElem?_append_right (by rw [uL_len]; omega), uL_len, hR.nur, Nat.sub_self]; exact uL_get (U := fun _ => nv) (by omega)
set_option maxRecDepth 100000 in
set_option maxHeartbeats 1000000 in
theorem all47 (A nv : Value) (n : Nat) (U : Nat → Value) (T : Nat → List Int) (w : World) (hR : RS w A nv n U T) (hn : n ≤ 100000) :
    Calls Tryz.prog 47 #[.agg #[A, nv]] w fun e w' => AllAns w n U T e w' := by
  obtain ⟨a, cap, rfl, hcar⟩ := hR.form
  have hat := hR.at_ n (Nat.le_refl _)
  rw [hR.nur] at hat
  obtain ⟨An, cn, rfl, -⟩ := hat
  have h0 := heap_alloc_new w (.cells #[.slice a n cap, .slice An (T n).length cn] 29)
  have hb := alloc_below w (.cells #[.slice a n cap, .slice An (T n).length cn] 29)
  have hUs : ∀ j, j < n → isSl (U j) := fun j hj => (hR.at_ j (by omega)).sl
  have hns : ∀ j, j < 1 → isSl ((fun _ => .slice An (T n).length cn : Nat → Value) j) := fun j _ => ⟨_, _, _, rfl⟩
  have FIN := Lib.hid (fun W0 (hw : Below w.heap.size w W0) W v v' W' h ho hg => fin_of (W0 := W0) (W := W) (v := v) (v' := v') (W' := W') hR hw h ho hg)
  go_enter Tryz.func47, Tryz.ntmps47
  go_upto_region 1 with fail
  generalize w.alloc (.cells #[.slice a n cap, .slice An (T n).length cn] 29) = W0 at *
  have FIN := Lib.hid (FIN.out W0 hb)
  obtain ⟨c0, c1, -, -⟩ := two_cells h0
  obtain ⟨c2, c3, -, -⟩ := two_cells (keep_heap (alloc_below W0 (.cells #[] 27)) h0)
  obtain ⟨c4, c5, -, -⟩ := two_cells (keep_heap (alloc_below W0 (.cells #[.slice An (T n).length cn] 27)) h0)
  obtain ⟨c6, c7, -, -⟩ := two_cells (keep_heap (below_end (alloc_below W0 (.cells #[] 27)) (alloc_below _ (.cells #[.slice An (T n).length cn] 27))) h0)
  obtain ⟨c8, c9, -, -⟩ := two_cells (keep_heap (below_end (alloc_below W0 (.cells #[.slice An (T n).length cn] 27)) (alloc_below _ (.cells #[] 27))) h0)
  have E0 := Lib.hid (heap_alloc_new W0 (.cells #[] 27))
  have E1 := Lib.hid (keep_heap (alloc_below _ (.cells #[.slice An (T n).length cn] 27)) E0.out)
  have F2 := Lib.hid (heap_alloc_new W0 (.cells #[.slice An (T n).length cn] 27))
  have F3 := Lib.hid (keep_heap (alloc_below _ (.cells #[] 27)) F2.out)
  have E2 := heap_alloc_new (W0.alloc (.cells #[.slice An (T n).length cn] 27)) (.cells #[] 27)
  have F1 := heap_alloc_new (W0.alloc (.cells #[] 27)) (.cells #[.slice An (T n).length cn] 27)
  rw [show (W0.alloc (.cells #[.slice An (T n).length cn] 27)).heap.size = W0.heap.size + 1 by simp] at E2
  rw [show (W0.alloc (.cells #[] 27)).heap.size = W0.heap.size + 1 by simp] at F1
  have E2 := Lib.hid E2
  have F1 := Lib.hid F1
  have SZ0 := Lib.hid hb.size
  have OWN := Lib.hid (fun (W : World) (X : Nat) (h1 : W0.heap.size ≤ X) (h2 : W.heap[X]? = some (.cells #[] 27 (0, 0))) => own_zero (w := w) (W0 := W0) SZ0.out h1 h2)
  have SRC := Lib.hid (fun (W : World) (hW : Below W0.heap.size W0 W) => src_row (W := W) (cap := cap) hcar (below_end hb hW))
  have MID := Lib.hid (fun W v W' X hW hX ho hg hv => mid_of (w := w) (W0 := W0) (W := W) (v := v) (W' := W') (n := n) (U := U) (X := X) hW hX ho hg hv)
  have C1 := Lib.hid (fun (W : World) (hW : Below W0.heap.size W0 W) => (two_cells (keep_heap hW h0)).2.1)
  have SZ := Lib.hid (fun (W : World) (hW : Below W0.heap.size W0 W) => (show w.heap.size ≤ W.heap.size from Nat.le_trans hb.size hW.size))
  clear hcar hR h0 hb
  go_region_law (first
    | (refine step_append_sets (m := n) (U := U) rfl (.tmp 3) (.tmp 5) rfl (by first | rfl | (simp [Act.eval, Act.put]; rfl)) (OWN.out _ _ (by omega) (by first | exact E0.out | exact E1.out | exact E2.out)) (SRC.out _ (by repeat (first | exact Below.refl _ _ | refine below_end ?_ (alloc_below _ _) | refine bel_drew ?_))) hUs (SZ.out _ (by repeat (first | exact Below.refl _ _ | refine below_end ?_ (alloc_below _ _) | refine bel_drew ?_))) (by omega) ?_; intro v1 W1 o1 g1 e1; obtain ⟨m1, k1⟩ := MID.out _ _ _ _ (by repeat (first | exact Below.refl _ _ | refine below_end ?_ (alloc_below _ _) | refine bel_drew ?_)) (by first | omega | (dsimp only; omega)) o1 g1 e1; have M1 := Lib.hid m1; have K1 := Lib.hid k1; have cc := C1.out _ m1.bel; clear m1 k1 o1 g1 e1)
    | (refine step_append_sets (m := 1) (U := fun _ => .slice An (T n).length cn) rfl (.tmp 6) (.tmp 9) rfl (by first | rfl | (simp [Act.eval, Act.put]; rfl)) (M1.out.below (by repeat (first | exact Below.refl _ _ | refine below_end ?_ (alloc_below _ _) | refine bel_drew ?_))).own (by first | exact src_new _ _ | exact src_at (K1.out _ _ F1.out (by first | omega | (dsimp only; omega))) | exact src_at (K1.out _ _ F3.out (by first | omega | (dsimp only; omega)))) hns (SZ.out _ (M1.out.below (by repeat (first | exact Below.refl _ _ | refine below_end ?_ (alloc_below _ _) | refine bel_drew ?_))).bel) (by omega) ?_; intro v2 W2 o2 g2 e2; have R2 := Lib.hid (FIN.out _ _ _ _ (M1.out.below (by repeat (first | exact Below.refl _ _ | refine below_end ?_ (alloc_below _ _) | refine bel_drew ?_))) o2 g2); clear o2 g2 e2))
  all_goals
    go_wp2
    obtain ⟨g, cap2, rfl, x1, x2⟩ := R2.out
    refine bodyPost_ret (v := .slice (some ⟨g, 0, none⟩) (n + 1) cap2) (by simp [results, Tryz.f47, go_sem]) rfl ⟨_, _, rfl, x1, x2⟩
end YtjkphacidpongaaGreat
end Go.Proofs
