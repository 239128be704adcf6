/- Parse, the program's: ten parts. -/
import Derived.Test.YtoebnjciioiccaaDoorCtU
import Derived.Deep.RegionHeld3
namespace Go.Proofs
namespace YtoebnjciioiccaaDoor
namespace Ct
open Go.RowKit Go.Great

/-- the config's cells after k numbers -/
def valL (x : Nat → Int) : Nat → List Int
  | 0 => [0, 0, 0, 0, 0]
  | k + 1 => (valL x k).set (limOff k) (x k)
/-- no fault of form among the first k -/
def formOk (wd : Nat → Bool) (er : Nat → Int) (k : Nat) : Prop := ∀ j, j < k → wd j = true ∧ er j ≠ 6
def parseE (wd : Nat → Bool) (er : Nat → Int) (x : Nat → Int) (r : Value) : Prop :=
  (¬ formOk wd er 5 ∧ r = ansV [0, 0, 0, 0, 0] 6) ∨ (formOk wd er 5 ∧ (∀ j, j < 5 → er j = 0) ∧ r = ansV (valL x 5) 0) ∨ (formOk wd er 5 ∧ (¬ ∀ j, j < 5 → er j = 0) ∧ r = ansV [0, 0, 0, 0, 0] 7)
/-- the world in a round -/
structure PSt (w W : World) (P : Nat) (cs : Array Value) (vals : List Int) : Prop where
  lt : w.heap.size < P ∧ P + 1 < W.heap.size
  res : W.heap[w.heap.size]? = some (.cells #[.int .i64 0, .int .i64 0, .int .i64 0, .int .i64 0, .int .i64 0] 23 (0, 0))
  parts : W.heap[P]? = some (.cells cs 9 (0, 0))
  cfg : W.heap[P + 1]? = some (.cells (cfgA vals) 23 (0, 0))
  laid : Laid W
  laid0 : Laid w
  below : Below w.heap.size w W
theorem PSt.next {w W W' : World} {P : Nat} {cs : Array Value} {vals : List Int} (h : PSt w W P cs vals) (hb : Below W.heap.size W W') : PSt w W' P cs vals := by
  have h1 := h.lt
  have h2 := hb.size
  exact ⟨⟨h1.1, by omega⟩, (hb.block _ (by omega)).trans h.res, (hb.block _ (by omega)).trans h.parts, (hb.block _ (by omega)).trans h.cfg, h.laid.below hb, h.laid0, h.below.trans (hb.mono h.below.size)⟩
theorem PSt.put {w W : World} {P i : Nat} {cs : Array Value} {vals : List Int} {z : Int} (h : PSt w W P cs vals) : PSt w (W.setCell ⟨P + 1, i, none⟩ (.int .i64 z)) P cs (vals.set i z) := by
  have h1 := h.lt
  have hB : Below (P + 1) W (W.setCell ⟨P + 1, i, none⟩ (.int .i64 z)) := (Below.refl (P + 1) W).setCell (Nat.le_refl _) _
  have hs : (W.setCell ⟨P + 1, i, none⟩ (.int .i64 z)).heap.size = W.heap.size := by simp
  refine ⟨⟨h1.1, by omega⟩, (hB.block _ (by omega)).trans h.res, (hB.block _ (by omega)).trans h.parts, ?_, h.laid0.below (h.below.trans (hB.mono (by omega))), h.laid0, h.below.trans (hB.mono (by omega))⟩
  rw [heap_setCell_same W (P + 1) i _ 23 _ h.cfg]
  simp [cfgA, List.map_set]
theorem formOk_succ {wd : Nat → Bool} {er : Nat → Int} {k : Nat} (h : formOk wd er k) (h1 : wd k = true) (h2 : er k ≠ 6) : formOk wd er (k + 1) := fun j hj => by
  by_cases e : j = k
  · subst e; exact ⟨h1, h2⟩
  · exact h j (by omega)
theorem allz_true {er : Nat → Int} {k : Nat} (h' : ∀ j, j < k → er j = 0) : (er k == 0) = true ↔ ∀ j, j < k + 1 → er j = 0 := by
  constructor
  · intro e j hj
    by_cases ej : j = k
    · subst ej; simpa using e
    · exact h' j (by omega)
  · intro e; simpa using e k (by omega)
theorem allz_false {er : Nat → Int} {k : Nat} (h : false = true ↔ ∀ j, j < k → er j = 0) : false = true ↔ ∀ j, j < k + 1 → er j = 0 :=
  ⟨fun e => (by cases e), fun e => h.2 fun j hj => e j (by omega)⟩
theorem heap_alloc2_old' {w : World} (o o' : Obj) {b : Nat} (h : b < w.heap.size) : ((w.alloc o).alloc o').heap[b]? = w.heap[b]? := by
  rw [heap_alloc_old _ _ (by simp; omega), heap_alloc_old _ _ h]
theorem pst_mk {w W : World} {t4 : Nat} (h : Head w W t4) (cs : Array Value) : PSt w ((W.alloc (.cells cs 9)).alloc (.cells #[.int .i64 0, .int .i64 0, .int .i64 0, .int .i64 0, .int .i64 0] 23)) W.heap.size cs [0, 0, 0, 0, 0] := by
  have h1 := h.lt
  have hb := ((Below.refl W.heap.size W).alloc (Nat.le_refl _) (.cells cs 9)).alloc (by simp) (.cells #[.int .i64 0, .int .i64 0, .int .i64 0, .int .i64 0, .int .i64 0] 23)
  refine ⟨⟨by omega, by simp⟩, (heap_alloc2_old' _ _ (by omega)).trans h.res, heap_alloc2_old _ _ _, ?_, h.laid.below hb, h.laid0, h.below.trans (hb.mono h.below.size)⟩
  have := heap_alloc2_new W (.cells cs 9) (.cells #[.int .i64 0, .int .i64 0, .int .i64 0, .int .i64 0, .int .i64 0] 23)
  exact this
theorem part_cell {w W : World} {P : Nat} {cs : Array Value} {vals : List Int} {q : Nat → ByteArray} (h : PSt w W P cs vals) (hcs : ∀ j, j < 10 → cs[j]? = some (.string (q j))) (j : Nat) (hj : j < 10) : W.cell? ⟨P, j, none⟩ = some (.string (q j)) := by
  have := cell_of_row _ _ j _ _ _ h.parts
  rw [this]; exact hcs j hj
/-- what a region keeps -/
theorem held3 {wa W W' : World} {a1 a2 a3 : Addr} {v1 v2 v3 : Value} (h : W.cell? a1 = some v1 ∧ W.cell? a2 = some v2 ∧ W.cell? a3 = some v3 ∧ Below wa.heap.size wa W) (hb : Below W.heap.size W W') :
    W'.cell? a1 = some v1 ∧ W'.cell? a2 = some v2 ∧ W'.cell? a3 = some v3 ∧ Below wa.heap.size wa W' :=
  ⟨(World.cell?_of_block (hb.block _ (block_lt_of_cell h.1))).trans h.1, (World.cell?_of_block (hb.block _ (block_lt_of_cell h.2.1))).trans h.2.1, (World.cell?_of_block (hb.block _ (block_lt_of_cell h.2.2.1))).trans h.2.2.1, h.2.2.2.trans (hb.mono h.2.2.2.size)⟩
set_option maxRecDepth 100000 in
set_option maxHeartbeats 4000000 in
theorem parse34_ten (s : ByteArray) (w : World) (hm : Laid w) (q : Nat → ByteArray) (x er : Nat → Int) (wd : Nat → Bool) (cs : Array Value) (cap : Nat) (hcs : ∀ j, j < 10 → cs[j]? = some (.string (q j)))
    (HS : Hid (∀ W : World, Laid W → Calls Tryd.prog 46 #[.string s, .string ⟨#[32]⟩, .int .i64 11] W fun e w' =>
      e = .returned (.slice (some ⟨W.heap.size, 0, none⟩) 10 cap) ∧ w' = W.alloc (.cells cs 9)))
    (X : Hid (∀ k : Nat, k < 5 → ∀ W : World, Laid W → Calls Tryd.prog 47 #[.string (q (2 * k + 1)), .int .i64 (limLow k), .int .i64 (limHigh k)] W fun e w' => e = .returned (.tuple #[.int .i64 (x k), .int .i64 (er k)]) ∧ Below W.heap.size W w'))
    (WD : Hid (∀ k : Nat, k < 5 → ((q (2 * k)).toList == (limName k).toList) = wd k)) :
    Calls Tryd.prog 34 #[.string s] w fun e w' => ∃ r, e = .returned r ∧ parseE wd er x r ∧ Below w.heap.size w w' := by
  have M := Lib.hid hm
  clear hm
  go_enter Tryd.func34, Tryd.ntmps34
  go_upto_region 1 with (fail)
  refine wp_region_lit ?_
  refine wpList_callR rfl (some 12) rfl 41 #[] (by simp [go_sem]; done) (R := fun v W => v = limV ∧ Below (w.heap.size + 1) (w.alloc (.cells #[.int .i64 0, .int .i64 0, .int .i64 0, .int .i64 0, .int .i64 0] 23)) W) ((lim41 _).mono fun e W h => ⟨_, h.1, rfl, by simpa using h.2⟩) ?_
  rintro v w1 ⟨rfl, hb1⟩
  refine wpList_allocTo rfl (some 4) rfl (.pointer (some ⟨w1.heap.size, 0, none⟩)) (.cells z20 53) (by simp [go_sem, z20]; done) ?_
  refine wpList_store_rowTo rfl 53 (.tmp 4) (.tmp 12) rfl rfl w1.heap.size limC rfl rfl 53 _ (heap_alloc_new w1 _) info53 rfl (by simp [limC, limCells, Value.oneCell']) ?_
  refine wpList_nil ?_
  have hh := head_mk M.out hb1
  clear hb1
  revert hh
  generalize w1.heap.size = t4
  generalize (w1.alloc (.cells z20 53)).setRow t4 limC = w2
  intro hh
  have hH := Lib.hid hh
  clear hh
  go_upto_region 7 with (go_at_call 46; refine (HS.out _ hH.out.laid).mono ?_; rintro e w3 ⟨rfl, rfl⟩)
  have hw := hH.out.lt
  have B := Lib.hid (hH.out.below.alloc (Nat.le_of_lt (Nat.lt_trans hw.1 hw.2)) (Obj.cells cs 9))
  have S0 := Lib.hid (pst_mk hH.out cs)
  have tb := (heap_alloc2_old' (w := w2) (Obj.cells cs 9) (Obj.cells #[.int .i64 0, .int .i64 0, .int .i64 0, .int .i64 0, .int .i64 0] 23) hw.2).trans hH.out.tab
  refine wp_region_lit ?_
  refine wpList_load_row rfl 53 (.tmp 4) rfl t4 rfl 53 _ (0, 0) _ tb Tryd.underlying53 rfl info53 ?_
  refine wpList_readTo rfl (some 20) rfl (.int .i64 0) (by simp [go_sem]; done) ?_
  refine wpList_frame (a' := { tmps := #[.string s, undef, .pointer (some ⟨w.heap.size, 0, none⟩), .int .i64 0, .pointer (some ⟨t4, 0, none⟩), .slice (some ⟨w2.heap.size, 0, none⟩) 10 cap, .pointer (some ⟨w2.heap.size + 1, 0, none⟩), .bool true, undef, undef, undef, undef, limV, .string s, .slice (some ⟨w2.heap.size, 0, none⟩) 10 cap, .slice (some ⟨w2.heap.size, 0, none⟩) 10 cap, .int .i64 10, .bool false, undef, limV, .int .i64 0, undef, undef, undef, undef, undef, undef, undef, undef, undef, undef, undef, undef, undef, undef, undef, undef, undef, undef, undef, undef, undef, undef, undef, undef, undef, undef, undef, undef, undef, undef, undef, undef, undef, undef, undef, undef, undef, undef, undef, undef, undef, undef, undef, undef, undef], defers := [] }) rfl ?_
  refine wpList_nil ?_
  clear tb B hw hH
  revert S0
  generalize w2.heap.size = P
  generalize (w2.alloc (Obj.cells cs 9)).alloc (Obj.cells #[.int .i64 0, .int .i64 0, .int .i64 0, .int .i64 0, .int .i64 0] 23) = w4
  intro S0
  go_wp2
  go_loopw [7, 20] (fun b i wr => ∃ (k : Nat) (c : Bool), k ≤ 5 ∧ i = .int .i64 k ∧ b = .bool c ∧ Hid (PSt w wr P cs (valL x k)) ∧ Hid (formOk wd er k) ∧ Hid (c = true ↔ ∀ j, j < k → er j = 0)) (fun _ i _ => 5 - (intOf i).toNat)
  case atStart => exact ⟨0, true, by omega, rfl, rfl, S0, Lib.hid (fun j hj => absurd hj (Nat.not_lt_zero j)), Lib.hid ⟨fun _ j hj => absurd hj (Nat.not_lt_zero j), fun _ => rfl⟩⟩
  case round =>
    obtain ⟨k, c, hk, hi, hb, S, HF, HC⟩ := hrel
    subst hb hi
    by_cases h5 : k < 5
    · have hx : ∀ w, (Instr.index 53 limV (.int .i64 (k : Int))).run Tryd.prog w = .ok (.agg #[.string (limName k), .int .i64 (limLow k), .int .i64 (limHigh k), .func (.func (49 + k)) #[] #[]]) w := fun w => limV_index k h5 w
      have hk5 : (k : Int) < 5 := by omega
      have XK := Lib.hid (X.out k h5)
      have WK := WD.out k h5
      have p0 : wr.cell? ⟨P, 2 * k, none⟩ = some (.string (q (2 * k))) := part_cell S.out hcs (2 * k) (by omega)
      have p1 : wr.cell? ⟨P, 2 * k + 1, none⟩ = some (.string (q (2 * k + 1))) := part_cell S.out hcs (2 * k + 1) (by omega)
      have wz0 : IntKind.i64.wrap (2 * (k : Int)) = ((2 * k : Nat) : Int) := by rw [IntWalk.i64_in _ (by omega)]; omega
      have wz1 : IntKind.i64.wrap (((2 * k : Nat) : Int) + 1) = ((2 * k + 1 : Nat) : Int) := by rw [IntWalk.i64_in _ (by omega)]; omega
      have wz2 : IntKind.i64.wrap ((k : Int) + 1) = ((k + 1 : Nat) : Int) := by rw [IntWalk.i64_in _ (by omega)]; omega
      have hm1 : ((2 * k : Nat) : Int) < 10 := by omega
      have hj1 : ((2 * k + 1 : Nat) : Int) < 10 := by omega
      revert p0 p1 XK WK wz0 wz1 hm1 hj1
      generalize 2 * k + 1 = j
      generalize 2 * k = m
      intro XK WK p0 p1 wz0 wz1 hm1 hj1
      have hlt := S.out.lt
      go_upto_region 10 with (fail)
      obtain ⟨w5, hw5⟩ : ∃ w5, w5 = wr.alloc (.cells #[.string (limName k), .int .i64 (limLow k), .int .i64 (limHigh k), .func (.func (49 + k)) #[] #[]] 52) := ⟨_, rfl⟩
      rw [← hw5]
      have hb5 : Below wr.heap.size wr w5 := by rw [hw5]; exact (Below.refl _ _).alloc (Nat.le_refl _) _
      have S5 := Lib.hid (S.out.next hb5)
      have g0 : w5.cell? ⟨wr.heap.size, 0, none⟩ = some (.string (limName k)) := by rw [hw5]; simp
      have g1 : w5.cell? ⟨wr.heap.size, 1, none⟩ = some (.int .i64 (limLow k)) := by rw [hw5]; simp
      have g2 : w5.cell? ⟨wr.heap.size, 2, none⟩ = some (.int .i64 (limHigh k)) := by rw [hw5]; simp
      have g3 : w5.cell? ⟨wr.heap.size, 3, none⟩ = some (.func (.func (49 + k)) #[] #[]) := by rw [hw5]; simp
      have p1' : w5.cell? ⟨P, j, none⟩ = some (.string (q j)) := (World.cell?_of_block (hb5.block _ (block_lt_of_cell p1))).trans p1
      have p0' : w5.cell? ⟨P, m, none⟩ = some (.string (q m)) := (World.cell?_of_block (hb5.block _ (block_lt_of_cell p0))).trans p0
      clear hw5 p0 p1 hb5
      go_region_held3 (fun W => W.cell? ⟨P, j, none⟩ = some (.string (q j)) ∧ W.cell? ⟨wr.heap.size, 1, none⟩ = some (.int .i64 (limLow k)) ∧ W.cell? ⟨wr.heap.size, 2, none⟩ = some (.int .i64 (limHigh k)) ∧ Below w5.heap.size w5 W) (first | exact ⟨p1', g1, g2, (Below.refl w5.heap.size w5).drew⟩ | exact held3 (wa := w5) (W := w5.drew) ⟨p1', g1, g2, (Below.refl w5.heap.size w5).drew⟩ hb6)
        (first | (go_at_call 47; refine (XK.out _ (S5.out.laid.below ((Below.refl w5.heap.size w5).drew))).mono ?_; rintro e w6 ⟨rfl, hb6⟩))
      have hb := Lib.hid (below_drew_l hb6)
      clear hb6
      have S6 := Lib.hid (S5.out.next hb.out)
      have c0 : w6.cell? ⟨wr.heap.size, 0, none⟩ = some (.string (limName k)) := (World.cell?_of_block (hb.out.block _ (block_lt_of_cell g0))).trans g0
      have c3 : w6.cell? ⟨wr.heap.size, 3, none⟩ = some (.func (.func (49 + k)) #[] #[]) := (World.cell?_of_block (hb.out.block _ (block_lt_of_cell g3))).trans g3
      have p0 : w6.cell? ⟨P, m, none⟩ = some (.string (q m)) := (World.cell?_of_block (hb.out.block _ (block_lt_of_cell p0'))).trans p0'
      clear g0 g1 g2 g3 p1' p0' hb
      cases hw : wd k with
      | false =>
        rw [hw] at WK
        go_wp2
        go_quiet (fail)
        go_upto_region 12 with (fail)
        have S7 := Lib.hid (S6.out.next (bdN w6 nq))
        refine wp_region_lit ?_
        refine wpList_built _ rfl 23 [] rfl bld23 ?_
        refine wpList_store_row rfl 23 (.tmp 2) (.tmp 50) rfl w.heap.size #[.int .i64 0, .int .i64 0, .int .i64 0, .int .i64 0, .int .i64 0] rfl rfl 23 _ S7.out.res info23 rfl (by simp [Value.oneCell']) ?_
        refine wpList_readTo rfl (some 3) rfl (.int .i64 6) (by simp [go_sem]; done) ?_
        refine wpList_nil ?_
        go_wp2
        exact bodyPost_ret (v := ansV [0, 0, 0, 0, 0] 6) (results_row2 rfl _ _ w.heap.size #[.int .i64 0, .int .i64 0, .int .i64 0, .int .i64 0, .int .i64 0] _ rfl rfl (run_loadVar_row _ _ _ _ _ _ _ (setRow_heap _ _ _ _ _ _ S7.out.res) Tryd.underlying23 rfl info23)) rfl ⟨_, rfl, .inl ⟨fun hf => absurd (hf k h5).1 (by rw [hw]; simp), rfl⟩, below_setRow S7.out.below (Nat.le_refl _) _⟩
      | true =>
        rw [hw] at WK
        by_cases he : er k = 6
        · have e6 : (er k == 6) = true := by simpa using he
          have HE := Lib.hid he
          clear he
          go_wp2
          go_quiet (fail)
          go_upto_region 12 with (fail)
          have S7 := Lib.hid (S6.out.next (bdN w6 nq))
          refine wp_region_lit ?_
          refine wpList_built _ rfl 23 [] rfl bld23 ?_
          refine wpList_store_row rfl 23 (.tmp 2) (.tmp 50) rfl w.heap.size #[.int .i64 0, .int .i64 0, .int .i64 0, .int .i64 0, .int .i64 0] rfl rfl 23 _ S7.out.res info23 rfl (by simp [Value.oneCell']) ?_
          refine wpList_readTo rfl (some 3) rfl (.int .i64 6) (by simp [go_sem]; done) ?_
          refine wpList_nil ?_
          go_wp2
          exact bodyPost_ret (v := ansV [0, 0, 0, 0, 0] 6) (results_row2 rfl _ _ w.heap.size #[.int .i64 0, .int .i64 0, .int .i64 0, .int .i64 0, .int .i64 0] _ rfl rfl (run_loadVar_row _ _ _ _ _ _ _ (setRow_heap _ _ _ _ _ _ S7.out.res) Tryd.underlying23 rfl info23)) rfl ⟨_, rfl, .inl ⟨fun hf => (hf k h5).2 HE.out, rfl⟩, below_setRow S7.out.below (Nat.le_refl _) _⟩
        · have e6 : (er k == 6) = false := by simpa using he
          have HE := Lib.hid he
          clear he
          cases c with
          | false =>
            go_wp2
            go_quiet (fail)
            go_upto_region 14 with (fail)
            obtain ⟨w7, hw7⟩ : ∃ w7, w7 = w6.drewN nq := ⟨_, rfl⟩
            have S7 := Lib.hid (show PSt w w7 P cs (valL x k) by rw [hw7]; exact S6.out.next (bdN w6 nq))
            have c3' : w7.cell? ⟨wr.heap.size, 3, none⟩ = some (.func (.func (49 + k)) #[] #[]) := by rw [hw7]; exact (World.cell?_of_block ((bdN w6 nq).block _ (block_lt_of_cell c3))).trans c3
            rw [← hw7]
            clear hw7 c0 c3 p0
            obtain rfl | rfl | rfl | rfl | rfl : k = 0 ∨ k = 1 ∨ k = 2 ∨ k = 3 ∨ k = 4 := by omega
            · have c1 : w7.cell? ⟨P + 1, 1, none⟩ = some (.int .i64 0) := cell_of_row _ _ 1 _ _ _ S7.out.cfg
              have f1 := frozen_of_row _ _ 1 _ _ S7.out.cfg
              have hlt7 := block_lt_of_cell c1
              have c3k : w7.cell? ⟨wr.heap.size, 3, none⟩ = some (.func (.func 49) #[] #[]) := c3'
              clear c3' hx XK
              go_wp2_with (go_at_call 49; refine (fld49 _ _).mono ?_; rintro e w8 ⟨rfl, rfl⟩)
              go_roundw
              case rel => exact ⟨0 + 1, _, by omega, by go_num, rfl, Lib.hid S7.out.put, Lib.hid (formOk_succ HF.out hw HE.out), Lib.hid (allz_false HC.out)⟩
              case measure => simp [intOf]
            · have c1 : w7.cell? ⟨P + 1, 0, none⟩ = some (.int .i64 0) := cell_of_row _ _ 0 _ _ _ S7.out.cfg
              have f1 := frozen_of_row _ _ 0 _ _ S7.out.cfg
              have hlt7 := block_lt_of_cell c1
              have c3k : w7.cell? ⟨wr.heap.size, 3, none⟩ = some (.func (.func 50) #[] #[]) := c3'
              clear c3' hx XK
              go_wp2_with (go_at_call 50; refine (fld50 _ _).mono ?_; rintro e w8 ⟨rfl, rfl⟩)
              go_roundw
              case rel => exact ⟨1 + 1, _, by omega, by go_num, rfl, Lib.hid S7.out.put, Lib.hid (formOk_succ HF.out hw HE.out), Lib.hid (allz_false HC.out)⟩
              case measure => simp [intOf]
            · have c1 : w7.cell? ⟨P + 1, 2, none⟩ = some (.int .i64 0) := cell_of_row _ _ 2 _ _ _ S7.out.cfg
              have f1 := frozen_of_row _ _ 2 _ _ S7.out.cfg
              have hlt7 := block_lt_of_cell c1
              have c3k : w7.cell? ⟨wr.heap.size, 3, none⟩ = some (.func (.func 51) #[] #[]) := c3'
              clear c3' hx XK
              go_wp2_with (go_at_call 51; refine (fld51 _ _).mono ?_; rintro e w8 ⟨rfl, rfl⟩)
              go_roundw
              case rel => exact ⟨2 + 1, _, by omega, by go_num, rfl, Lib.hid S7.out.put, Lib.hid (formOk_succ HF.out hw HE.out), Lib.hid (allz_false HC.out)⟩
              case measure => simp [intOf]
            · have c1 : w7.cell? ⟨P + 1, 3, none⟩ = some (.int .i64 0) := cell_of_row _ _ 3 _ _ _ S7.out.cfg
              have f1 := frozen_of_row _ _ 3 _ _ S7.out.cfg
              have hlt7 := block_lt_of_cell c1
              have c3k : w7.cell? ⟨wr.heap.size, 3, none⟩ = some (.func (.func 52) #[] #[]) := c3'
              clear c3' hx XK
              go_wp2_with (go_at_call 52; refine (fld52 _ _).mono ?_; rintro e w8 ⟨rfl, rfl⟩)
              go_roundw
              case rel => exact ⟨3 + 1, _, by omega, by go_num, rfl, Lib.hid S7.out.put, Lib.hid (formOk_succ HF.out hw HE.out), Lib.hid (allz_false HC.out)⟩
              case measure => simp [intOf]
            · have c1 : w7.cell? ⟨P + 1, 4, none⟩ = some (.int .i64 0) := cell_of_row _ _ 4 _ _ _ S7.out.cfg
              have f1 := frozen_of_row _ _ 4 _ _ S7.out.cfg
              have hlt7 := block_lt_of_cell c1
              have c3k : w7.cell? ⟨wr.heap.size, 3, none⟩ = some (.func (.func 53) #[] #[]) := c3'
              clear c3' hx XK
              go_wp2_with (go_at_call 53; refine (fld53 _ _).mono ?_; rintro e w8 ⟨rfl, rfl⟩)
              go_roundw
              case rel => exact ⟨4 + 1, _, by omega, by go_num, rfl, Lib.hid S7.out.put, Lib.hid (formOk_succ HF.out hw HE.out), Lib.hid (allz_false HC.out)⟩
              case measure => simp [intOf]
          | true =>
            go_wp2
            go_quiet (fail)
            go_upto_region 14 with (fail)
            obtain ⟨w7, hw7⟩ : ∃ w7, w7 = w6.drewN nq := ⟨_, rfl⟩
            have S7 := Lib.hid (show PSt w w7 P cs (valL x k) by rw [hw7]; exact S6.out.next (bdN w6 nq))
            have c3' : w7.cell? ⟨wr.heap.size, 3, none⟩ = some (.func (.func (49 + k)) #[] #[]) := by rw [hw7]; exact (World.cell?_of_block ((bdN w6 nq).block _ (block_lt_of_cell c3))).trans c3
            rw [← hw7]
            clear hw7 c0 c3 p0
            obtain rfl | rfl | rfl | rfl | rfl : k = 0 ∨ k = 1 ∨ k = 2 ∨ k = 3 ∨ k = 4 := by omega
            · have c1 : w7.cell? ⟨P + 1, 1, none⟩ = some (.int .i64 0) := cell_of_row _ _ 1 _ _ _ S7.out.cfg
              have f1 := frozen_of_row _ _ 1 _ _ S7.out.cfg
              have hlt7 := block_lt_of_cell c1
              have c3k : w7.cell? ⟨wr.heap.size, 3, none⟩ = some (.func (.func 49) #[] #[]) := c3'
              clear c3' hx XK
              go_wp2_with (go_at_call 49; refine (fld49 _ _).mono ?_; rintro e w8 ⟨rfl, rfl⟩)
              go_roundw
              case rel => exact ⟨0 + 1, _, by omega, by go_num, rfl, Lib.hid S7.out.put, Lib.hid (formOk_succ HF.out hw HE.out), Lib.hid (allz_true (by first | exact HC.out.1 trivial | exact HC.out.1 rfl))⟩
              case measure => simp [intOf]
            · have c1 : w7.cell? ⟨P + 1, 0, none⟩ = some (.int .i64 0) := cell_of_row _ _ 0 _ _ _ S7.out.cfg
              have f1 := frozen_of_row _ _ 0 _ _ S7.out.cfg
              have hlt7 := block_lt_of_cell c1
              have c3k : w7.cell? ⟨wr.heap.size, 3, none⟩ = some (.func (.func 50) #[] #[]) := c3'
              clear c3' hx XK
              go_wp2_with (go_at_call 50; refine (fld50 _ _).mono ?_; rintro e w8 ⟨rfl, rfl⟩)
              go_roundw
              case rel => exact ⟨1 + 1, _, by omega, by go_num, rfl, Lib.hid S7.out.put, Lib.hid (formOk_succ HF.out hw HE.out), Lib.hid (allz_true (by first | exact HC.out.1 trivial | exact HC.out.1 rfl))⟩
              case measure => simp [intOf]
            · have c1 : w7.cell? ⟨P + 1, 2, none⟩ = some (.int .i64 0) := cell_of_row _ _ 2 _ _ _ S7.out.cfg
              have f1 := frozen_of_row _ _ 2 _ _ S7.out.cfg
              have hlt7 := block_lt_of_cell c1
              have c3k : w7.cell? ⟨wr.heap.size, 3, none⟩ = some (.func (.func 51) #[] #[]) := c3'
              clear c3' hx XK
              go_wp2_with (go_at_call 51; refine (fld51 _ _).mono ?_; rintro e w8 ⟨rfl, rfl⟩)
              go_roundw
              case rel => exact ⟨2 + 1, _, by omega, by go_num, rfl, Lib.hid S7.out.put, Lib.hid (formOk_succ HF.out hw HE.out), Lib.hid (allz_true (by first | exact HC.out.1 trivial | exact HC.out.1 rfl))⟩
              case measure => simp [intOf]
            · have c1 : w7.cell? ⟨P + 1, 3, none⟩ = some (.int .i64 0) := cell_of_row _ _ 3 _ _ _ S7.out.cfg
              have f1 := frozen_of_row _ _ 3 _ _ S7.out.cfg
              have hlt7 := block_lt_of_cell c1
              have c3k : w7.cell? ⟨wr.heap.size, 3, none⟩ = some (.func (.func 52) #[] #[]) := c3'
              clear c3' hx XK
              go_wp2_with (go_at_call 52; refine (fld52 _ _).mono ?_; rintro e w8 ⟨rfl, rfl⟩)
              go_roundw
              case rel => exact ⟨3 + 1, _, by omega, by go_num, rfl, Lib.hid S7.out.put, Lib.hid (formOk_succ HF.out hw HE.out), Lib.hid (allz_true (by first | exact HC.out.1 trivial | exact HC.out.1 rfl))⟩
              case measure => simp [intOf]
            · have c1 : w7.cell? ⟨P + 1, 4, none⟩ = some (.int .i64 0) := cell_of_row _ _ 4 _ _ _ S7.out.cfg
              have f1 := frozen_of_row _ _ 4 _ _ S7.out.cfg
              have hlt7 := block_lt_of_cell c1
              have c3k : w7.cell? ⟨wr.heap.size, 3, none⟩ = some (.func (.func 53) #[] #[]) := c3'
              clear c3' hx XK
              go_wp2_with (go_at_call 53; refine (fld53 _ _).mono ?_; rintro e w8 ⟨rfl, rfl⟩)
              go_roundw
              case rel => exact ⟨4 + 1, _, by omega, by go_num, rfl, Lib.hid S7.out.put, Lib.hid (formOk_succ HF.out hw HE.out), Lib.hid (allz_true (by first | exact HC.out.1 trivial | exact HC.out.1 rfl))⟩
              case measure => simp [intOf]
    · obtain rfl : k = 5 := by omega
      clear hk h5
      cases c with
      | true =>
        have HC' := Lib.hid (show ∀ j, j < 5 → er j = 0 by simpa using HC.out)
        clear HC
        go_upto_region 18 with (fail)
        refine wp_region_lit ?_
        refine wpList_load_row rfl 23 (.tmp 6) rfl (P + 1) rfl 23 _ (0, 0) _ S.out.cfg Tryd.underlying23 rfl info23 ?_
        refine wpList_store_row rfl 23 (.tmp 2) (.tmp 65) rfl w.heap.size (cfgA (valL x 5)) rfl rfl 23 _ S.out.res info23 rfl (by simp [valL, limOff, cfgA, Value.oneCell']) ?_
        refine wpList_readTo rfl (some 3) rfl (.int .i64 0) (by simp [go_sem]; done) ?_
        refine wpList_nil ?_
        go_wp2
        exact bodyPost_ret (v := ansV (valL x 5) 0) (results_row2 rfl _ _ w.heap.size (cfgA (valL x 5)) _ rfl rfl (run_loadVar_row _ _ _ _ _ _ _ (setRow_heap _ _ _ _ _ _ S.out.res) Tryd.underlying23 rfl info23)) rfl ⟨_, rfl, .inr (.inl ⟨HF.out, HC'.out, rfl⟩), below_setRow S.out.below (Nat.le_refl _) _⟩
      | false =>
        have HC' := Lib.hid (show ¬ ∀ j, j < 5 → er j = 0 by simpa using HC.out)
        clear HC
        go_upto_region 17 with (fail)
        refine wp_region_lit ?_
        refine wpList_built _ rfl 23 [] rfl bld23 ?_
        refine wpList_store_row rfl 23 (.tmp 2) (.tmp 64) rfl w.heap.size #[.int .i64 0, .int .i64 0, .int .i64 0, .int .i64 0, .int .i64 0] rfl rfl 23 _ S.out.res info23 rfl (by simp [Value.oneCell']) ?_
        refine wpList_readTo rfl (some 3) rfl (.int .i64 7) (by simp [go_sem]; done) ?_
        refine wpList_nil ?_
        go_wp2
        exact bodyPost_ret (v := ansV [0, 0, 0, 0, 0] 7) (results_row2 rfl _ _ w.heap.size #[.int .i64 0, .int .i64 0, .int .i64 0, .int .i64 0, .int .i64 0] _ rfl rfl (run_loadVar_row _ _ _ _ _ _ _ (setRow_heap _ _ _ _ _ _ S.out.res) Tryd.underlying23 rfl info23)) rfl ⟨_, rfl, .inr (.inr ⟨HF.out, HC'.out, rfl⟩), below_setRow S.out.below (Nat.le_refl _) _⟩
end Ct
end YtoebnjciioiccaaDoor
end Go.Proofs
