/- Print: the parts of the text, one after the other. -/
import Derived.Test.YtoebnjciioiccaaDoorAddr
import Derived.Test.YtoebnjciioiccaaDoorDig
import Derived.OwnWalk
import Derived.Deep.AppendLies
import Derived.Deep.RegionHeld3
namespace Go.Proofs
namespace YtoebnjciioiccaaDoor
open Go.RowKit

def sc (l : List (List UInt8)) : List Value := l.map fun s => .string ⟨s.toArray⟩
theorem sc_length (l : List (List UInt8)) : (sc l).length = l.length := by simp [sc]
theorem sc_append (l t : List (List UInt8)) : sc (l ++ t) = sc l ++ sc t := by simp [sc]
/-- v is a slice of the call's own that holds the strings l -/
def SRow (B : Nat) (W : World) (v : Value) (l : List (List UInt8)) : Prop := W.ownsRow B 9 1 v l.length (sc l)
theorem SRow.nil (B : Nat) (W : World) : SRow B W (.slice none 0 0) [] := World.ownsRow_nil _ _ _ _
theorem grown_of_below {w w' : World} (hb : Below w.heap.size w w') (row : Option Nat) : w.grownBy w' row := ⟨hb.os, hb.tape, hb.output, hb.size, fun k hk _ => hb.block k hk⟩
theorem SRow.below {B : Nat} {W W' : World} {v : Value} {l : List (List UInt8)} (h : SRow B W v l) (hb : Below W.heap.size W W') : SRow B W' v l :=
  World.ownsRow.kept h (grown_of_below hb none) (by cases v.ownBlock <;> simp)
theorem info9 : (Tryd.prog.info? 9).map (fun i => (i.zero, i.size, i.bytes)) = some (some (.string ⟨#[]⟩), 1, 16) := by kernel_rfl

theorem step_push2 {ops : Array Oper} {o : Oper} {a : Act} {K : Act → World → Prop} {Q : Exit → Act → World → Prop} {E : Prop} {W w : World} {B0 B H : Nat} {v : Value} {l : List (List UInt8)} (hown : SRow B W v l) (hB : Below B0 w W) (hB0 : B0 ≤ B) (t : List (List UInt8)) (fr : Nat × Nat)
    (hb : W.heap[H]? = some (.cells (sc t).toArray 9 fr)) (hgd : o.guard = none) (s x : Operand)
    (ho : o.op = .call { callee := .builtin .append, args := #[s, x], argTypes := #[49, 49] }) (hs : a.eval s = v) (hx : a.eval x = .slice (some ⟨H, 0, none⟩) t.length t.length)
    (hBW : B ≤ W.heap.size) (ht : 0 < t.length) (hl : l.length + t.length ≤ 1000000000)
    (h : ∀ v' W', SRow B W' v' (l ++ t) → Below B0 w W' → W.grownBy W' v.ownBlock → K (a.put o.dst v') W') :
    if Region.wanted o (yielded ops a.tmps) = true then Oper.wp Tryd.prog o a W K Q else E := by
  obtain ⟨i0, hi, hz0, hz1, hz2⟩ := info_parts info9
  refine step_append_lies W hgd s x 49 ho B 9 i0 (.string ⟨#[]⟩) 1 16 Tryd.underlying49 hi hz0 hz1 hz2 rfl (by decide) v l.length (sc l) hs hown ⟨H, 0, none⟩ t.length t.length (sc t) hx (by rw [sc_length, Nat.mul_one]) ?_ ?_ ht ?_ ?_ hBW _ rfl ?_
  · simpa using World.news_of_block hb
  · intro u hu
    simp only [sc, List.mem_map] at hu
    obtain ⟨c, _, rfl⟩ := hu
    rfl
  · unfold maxLen; omega
  · omega
  · intro g cap W' h1 h2 _ _
    refine h _ W' ?_ ?_ h2
    · unfold SRow; rw [sc_append, List.length_append]; exact h1
    · exact hB.grown h2 (Nat.le_trans hB0 hBW) (fun k hk => Nat.le_trans hB0 (hown.lt k hk).1)

/-- the parts of the text, those of the first k numbers -/
def limB : Nat → List UInt8
  | 0 => [99, 97, 114, 115]
  | 1 => [111, 102]
  | 2 => [110, 117, 114, 115, 101, 114, 121]
  | 3 => [114, 101, 103, 105, 115, 116, 101, 114, 115]
  | _ => [112, 111, 112, 117, 108, 97, 114]
def partsL (cs : List Int) : Nat → List (List UInt8)
  | 0 => []
  | k + 1 => partsL cs k ++ [limB k, Lib.itoa (cs.getD (limOff k) 0)]
theorem partsL_length (cs : List Int) (k : Nat) : (partsL cs k).length = 2 * k := by
  induction k with
  | zero => rfl
  | succ k ih => rw [partsL, List.length_append, ih]; simp; omega
/-- the text of a config -/
def textL (cs : List Int) : List UInt8 := Lib.join (partsL cs 5) [32]

theorem far_cell {w wr W W1 : World} {v : Value} {o : Obj} {b i : Nat} {x : Value} (oB : ∀ k, v.ownBlock = some k → w.heap.size + 1 ≤ k ∧ k < wr.heap.size) (hg : (W.alloc o).grownBy W1 v.ownBlock) (hb : wr.heap.size ≤ b ∨ b ≤ w.heap.size) (hz : b < W.heap.size) (h : W.cell? ⟨b, i, none⟩ = some x) : W1.cell? ⟨b, i, none⟩ = some x := by
  rw [hg.cell_far ⟨b, i, none⟩ (by simp; omega) (fun e => by have := oB b e.symm; omega), World.cell?_alloc_past _ _ _ hz, h]
theorem far_block {w wr W W1 : World} {v : Value} {o : Obj} {b : Nat} {x : Obj} (oB : ∀ k, v.ownBlock = some k → w.heap.size + 1 ≤ k ∧ k < wr.heap.size) (hg : (W.alloc o).grownBy W1 v.ownBlock) (hb : wr.heap.size ≤ b ∨ b ≤ w.heap.size) (hz : b < W.heap.size) (h : W.heap[b]? = some x) : W1.heap[b]? = some x := by
  rw [hg.block b (by simp; omega) (fun e => by have := oB b e.symm; omega), heap_alloc_old _ _ hz, h]

set_option maxRecDepth 100000 in
set_option maxHeartbeats 4000000 in
theorem print32_good (C N S K Q : Int) (hg : good C N S K Q) (w : World)
    (hJ : Hid (∀ (W : World) (p : Value), SRow (w.heap.size + 1) W p (partsL [C, N, S, K, Q] 5) → Calls Tryd.prog 43 #[p, .string ⟨#[32]⟩] W fun e w' => e = .returned (.string ⟨(textL [C, N, S, K, Q]).toArray⟩) ∧ Below W.heap.size W w')) :
    Calls Tryd.prog 32 #[.agg #[.int .i64 C, .int .i64 N, .int .i64 S, .int .i64 K, .int .i64 Q]] w fun e w' => e = .returned (.tuple #[.string ⟨(textL [C, N, S, K, Q]).toArray⟩, .int .i64 0]) ∧ Below w.heap.size w w' := by
  have HG := Lib.hid hg
  obtain ⟨c0, c1, n0, n1, s0, s1, k0, k1, q0, q1⟩ := hg
  have hx0 : ∀ w, (Instr.index 53 limV (.int .i64 0)).run Tryd.prog w = .ok (.agg #[.string ⟨#[99, 97, 114, 115]⟩, .int .i64 7, .int .i64 24, .func (.func 49) #[] #[]]) w := fun w => limV_index 0 (by omega) w
  have hx1 : ∀ w, (Instr.index 53 limV (.int .i64 1)).run Tryd.prog w = .ok (.agg #[.string ⟨#[111, 102]⟩, .int .i64 8, .int .i64 64, .func (.func 50) #[] #[]]) w := fun w => limV_index 1 (by omega) w
  have hx2 : ∀ w, (Instr.index 53 limV (.int .i64 2)).run Tryd.prog w = .ok (.agg #[.string ⟨#[110, 117, 114, 115, 101, 114, 121]⟩, .int .i64 4, .int .i64 64, .func (.func 51) #[] #[]]) w := fun w => limV_index 2 (by omega) w
  have hx3 : ∀ w, (Instr.index 53 limV (.int .i64 3)).run Tryd.prog w = .ok (.agg #[.string ⟨#[114, 101, 103, 105, 115, 116, 101, 114, 115]⟩, .int .i64 1, .int .i64 8, .func (.func 52) #[] #[]]) w := fun w => limV_index 3 (by omega) w
  have hx4 : ∀ w, (Instr.index 53 limV (.int .i64 4)).run Tryd.prog w = .ok (.agg #[.string ⟨#[112, 111, 112, 117, 108, 97, 114]⟩, .int .i64 2, .int .i64 16, .func (.func 53) #[] #[]]) w := fun w => limV_index 4 (by omega) w
  go_enter Tryd.func32, Tryd.ntmps32
  go_wp2_with (first
    | (go_at_call 13; refine (chk13_good _ _ _ _ _ HG.out _).mono ?_; rintro e w1 ⟨rfl, hb1⟩; have hB1 := below_alloc_l hb1; have R1 := Lib.hid ((hb1.block w.heap.size (by simp)).trans (heap_alloc_new w _)); clear hb1)
    | (go_at_call 41; refine (lim41 _).mono ?_; rintro e w2 ⟨rfl, hb2⟩))
  have B2 := Lib.hid (hB1.trans (hb2.mono (hB1.size)))
  have R2 := Lib.hid ((hb2.block w.heap.size (heap_lt R1.out)).trans R1.out)
  clear hb2 hB1 R1
  go_loopw [5, 14] (fun p i wr => ∃ k : Nat, k ≤ 5 ∧ i = .int .i64 k ∧ Hid (SRow (w.heap.size + 1) wr p (partsL [C, N, S, K, Q] k)) ∧ Hid (wr.heap[w.heap.size]? = some (.cells #[.int .i64 C, .int .i64 N, .int .i64 S, .int .i64 K, .int .i64 Q] 23 (0, 0))) ∧ Hid (Below w.heap.size w wr)) (fun _ i _ => 5 - (intOf i).toNat)
  case atStart => exact ⟨0, by omega, rfl, Lib.hid (SRow.nil _ _), R2, B2⟩
  case round =>
    obtain ⟨k, hk, hi, hrow, R, RB⟩ := hrel
    match k, hk, hi, hrow with
    | 0, _, hi, hrow =>
      obtain rfl : _ = Value.int .i64 0 := hi
      have hlt := heap_lt R.out
      have hx := cell_of_row _ _ 1 _ _ _ R.out
      have hx' : wr.cell? ⟨w.heap.size, 1, none⟩ = some (.int .i64 N) := hx
      clear hx
      go_upto_region 8 with (fail)
      obtain ⟨w2, hw2⟩ : ∃ w2, w2 = wr.alloc (.cells #[.string ⟨#[99, 97, 114, 115]⟩, .int .i64 7, .int .i64 24, .func (.func 49) #[] #[]] 52) := ⟨_, rfl⟩
      rw [← hw2]
      have g0 : w2.cell? ⟨wr.heap.size, 0, none⟩ = some (.string ⟨#[99, 97, 114, 115]⟩) := by rw [hw2]; simp
      have g3 : w2.cell? ⟨wr.heap.size, 3, none⟩ = some (.func (.func 49) #[] #[]) := by rw [hw2]; simp
      have gx : w2.cell? ⟨w.heap.size, 1, none⟩ = some (.int .i64 N) := by rw [hw2, World.cell?_alloc_past _ _ _ hlt]; exact hx'
      have gz : wr.heap.size < w2.heap.size := by rw [hw2]; simp
      have rB := Lib.hid (show Below wr.heap.size wr w2 by rw [hw2]; exact (Below.refl _ _).alloc (Nat.le_refl _) _)
      have B3 := RB.out.trans (rB.out.mono RB.out.size)
      have rR := hrow.out.below rB.out
      have hz2 : w.heap.size < w2.heap.size := by omega
      have oB := Lib.hid (show ∀ k, u5.ownBlock = some k → w.heap.size + 1 ≤ k ∧ k < wr.heap.size from fun k hk => hrow.out.lt k hk)
      have R3 := Lib.hid ((rB.out.block w.heap.size hlt).trans R.out)
      clear hw2 hx'
      go_region_held3 (fun W => W.cell? ⟨wr.heap.size, 0, none⟩ = some (.string ⟨#[99, 97, 114, 115]⟩) ∧ W.cell? ⟨wr.heap.size, 3, none⟩ = some (.func (.func 49) #[] #[]) ∧ W.cell? ⟨w.heap.size, 1, none⟩ = some (.int .i64 N)) (first | exact ⟨g0, g3, gx⟩ | exact ⟨(World.cell?_alloc_past _ _ _ gz).trans g0, (World.cell?_alloc_past _ _ _ gz).trans g3, (World.cell?_alloc_past _ _ _ hz2).trans gx⟩ | exact ⟨far_cell (W := w2.drew) oB.out hg1 (.inl (Nat.le_refl _)) gz g0, far_cell (W := w2.drew) oB.out hg1 (.inl (Nat.le_refl _)) gz g3, far_cell (W := w2.drew) oB.out hg1 (.inr (Nat.le_refl _)) hz2 gx⟩)
        (first
          | (go_at_call 49; refine (fld49 _ _).mono ?_; rintro e w3 ⟨rfl, rfl⟩)
          | (go_at_call 42; refine (dig42 _ (by omega) (by omega) _).mono ?_; rintro e w4 ⟨rfl, rfl⟩)
          | (refine step_push2 (W := (w2.alloc _).drew) (w := w) (B0 := w.heap.size) (B := w.heap.size + 1) (v := u5) (l := partsL [C, N, S, K, Q] 0) (by exact rR.below ((Below.refl _ _).alloc (Nat.le_refl _) _).drew) (by exact (B3.alloc (Nat.le_of_lt hz2) _).drew) (by omega) [limB 0, Lib.itoa N] (0, 0) (by exact heap_alloc_new _ _) rfl (.tmp 17) (.tmp 26) (by rfl) (by rfl) (by rfl) (by simp; omega) (by simp) (by rw [partsL_length]; simp) ?_; intro v1 W1 hr1 hB1 hg1))
      go_wp2
      go_roundw
      case rel => exact ⟨1, by omega, rfl, Lib.hid hr1, Lib.hid (far_block (W := w2.drew) oB.out hg1 (.inr (Nat.le_refl _)) hz2 R3.out), Lib.hid hB1⟩
      case measure => simp [intOf]
    | 1, _, hi, hrow =>
      obtain rfl : _ = Value.int .i64 1 := hi
      have hlt := heap_lt R.out
      have hx := cell_of_row _ _ 0 _ _ _ R.out
      have hx' : wr.cell? ⟨w.heap.size, 0, none⟩ = some (.int .i64 C) := hx
      clear hx
      go_upto_region 8 with (fail)
      obtain ⟨w2, hw2⟩ : ∃ w2, w2 = wr.alloc (.cells #[.string ⟨#[111, 102]⟩, .int .i64 8, .int .i64 64, .func (.func 50) #[] #[]] 52) := ⟨_, rfl⟩
      rw [← hw2]
      have g0 : w2.cell? ⟨wr.heap.size, 0, none⟩ = some (.string ⟨#[111, 102]⟩) := by rw [hw2]; simp
      have g3 : w2.cell? ⟨wr.heap.size, 3, none⟩ = some (.func (.func 50) #[] #[]) := by rw [hw2]; simp
      have gx : w2.cell? ⟨w.heap.size, 0, none⟩ = some (.int .i64 C) := by rw [hw2, World.cell?_alloc_past _ _ _ hlt]; exact hx'
      have gz : wr.heap.size < w2.heap.size := by rw [hw2]; simp
      have rB := Lib.hid (show Below wr.heap.size wr w2 by rw [hw2]; exact (Below.refl _ _).alloc (Nat.le_refl _) _)
      have B3 := RB.out.trans (rB.out.mono RB.out.size)
      have rR := hrow.out.below rB.out
      have hz2 : w.heap.size < w2.heap.size := by omega
      have oB := Lib.hid (show ∀ k, u5.ownBlock = some k → w.heap.size + 1 ≤ k ∧ k < wr.heap.size from fun k hk => hrow.out.lt k hk)
      have R3 := Lib.hid ((rB.out.block w.heap.size hlt).trans R.out)
      clear hw2 hx'
      go_region_held3 (fun W => W.cell? ⟨wr.heap.size, 0, none⟩ = some (.string ⟨#[111, 102]⟩) ∧ W.cell? ⟨wr.heap.size, 3, none⟩ = some (.func (.func 50) #[] #[]) ∧ W.cell? ⟨w.heap.size, 0, none⟩ = some (.int .i64 C)) (first | exact ⟨g0, g3, gx⟩ | exact ⟨(World.cell?_alloc_past _ _ _ gz).trans g0, (World.cell?_alloc_past _ _ _ gz).trans g3, (World.cell?_alloc_past _ _ _ hz2).trans gx⟩ | exact ⟨far_cell (W := w2.drew) oB.out hg1 (.inl (Nat.le_refl _)) gz g0, far_cell (W := w2.drew) oB.out hg1 (.inl (Nat.le_refl _)) gz g3, far_cell (W := w2.drew) oB.out hg1 (.inr (Nat.le_refl _)) hz2 gx⟩)
        (first
          | (go_at_call 50; refine (fld50 _ _).mono ?_; rintro e w3 ⟨rfl, rfl⟩)
          | (go_at_call 42; refine (dig42 _ (by omega) (by omega) _).mono ?_; rintro e w4 ⟨rfl, rfl⟩)
          | (refine step_push2 (W := (w2.alloc _).drew) (w := w) (B0 := w.heap.size) (B := w.heap.size + 1) (v := u5) (l := partsL [C, N, S, K, Q] 1) (by exact rR.below ((Below.refl _ _).alloc (Nat.le_refl _) _).drew) (by exact (B3.alloc (Nat.le_of_lt hz2) _).drew) (by omega) [limB 1, Lib.itoa C] (0, 0) (by exact heap_alloc_new _ _) rfl (.tmp 17) (.tmp 26) (by rfl) (by rfl) (by rfl) (by simp; omega) (by simp) (by rw [partsL_length]; simp) ?_; intro v1 W1 hr1 hB1 hg1))
      go_wp2
      go_roundw
      case rel => exact ⟨2, by omega, rfl, Lib.hid hr1, Lib.hid (far_block (W := w2.drew) oB.out hg1 (.inr (Nat.le_refl _)) hz2 R3.out), Lib.hid hB1⟩
      case measure => simp [intOf]
    | 2, _, hi, hrow =>
      obtain rfl : _ = Value.int .i64 2 := hi
      have hlt := heap_lt R.out
      have hx := cell_of_row _ _ 2 _ _ _ R.out
      have hx' : wr.cell? ⟨w.heap.size, 2, none⟩ = some (.int .i64 S) := hx
      clear hx
      go_upto_region 8 with (fail)
      obtain ⟨w2, hw2⟩ : ∃ w2, w2 = wr.alloc (.cells #[.string ⟨#[110, 117, 114, 115, 101, 114, 121]⟩, .int .i64 4, .int .i64 64, .func (.func 51) #[] #[]] 52) := ⟨_, rfl⟩
      rw [← hw2]
      have g0 : w2.cell? ⟨wr.heap.size, 0, none⟩ = some (.string ⟨#[110, 117, 114, 115, 101, 114, 121]⟩) := by rw [hw2]; simp
      have g3 : w2.cell? ⟨wr.heap.size, 3, none⟩ = some (.func (.func 51) #[] #[]) := by rw [hw2]; simp
      have gx : w2.cell? ⟨w.heap.size, 2, none⟩ = some (.int .i64 S) := by rw [hw2, World.cell?_alloc_past _ _ _ hlt]; exact hx'
      have gz : wr.heap.size < w2.heap.size := by rw [hw2]; simp
      have rB := Lib.hid (show Below wr.heap.size wr w2 by rw [hw2]; exact (Below.refl _ _).alloc (Nat.le_refl _) _)
      have B3 := RB.out.trans (rB.out.mono RB.out.size)
      have rR := hrow.out.below rB.out
      have hz2 : w.heap.size < w2.heap.size := by omega
      have oB := Lib.hid (show ∀ k, u5.ownBlock = some k → w.heap.size + 1 ≤ k ∧ k < wr.heap.size from fun k hk => hrow.out.lt k hk)
      have R3 := Lib.hid ((rB.out.block w.heap.size hlt).trans R.out)
      clear hw2 hx'
      go_region_held3 (fun W => W.cell? ⟨wr.heap.size, 0, none⟩ = some (.string ⟨#[110, 117, 114, 115, 101, 114, 121]⟩) ∧ W.cell? ⟨wr.heap.size, 3, none⟩ = some (.func (.func 51) #[] #[]) ∧ W.cell? ⟨w.heap.size, 2, none⟩ = some (.int .i64 S)) (first | exact ⟨g0, g3, gx⟩ | exact ⟨(World.cell?_alloc_past _ _ _ gz).trans g0, (World.cell?_alloc_past _ _ _ gz).trans g3, (World.cell?_alloc_past _ _ _ hz2).trans gx⟩ | exact ⟨far_cell (W := w2.drew) oB.out hg1 (.inl (Nat.le_refl _)) gz g0, far_cell (W := w2.drew) oB.out hg1 (.inl (Nat.le_refl _)) gz g3, far_cell (W := w2.drew) oB.out hg1 (.inr (Nat.le_refl _)) hz2 gx⟩)
        (first
          | (go_at_call 51; refine (fld51 _ _).mono ?_; rintro e w3 ⟨rfl, rfl⟩)
          | (go_at_call 42; refine (dig42 _ (by omega) (by omega) _).mono ?_; rintro e w4 ⟨rfl, rfl⟩)
          | (refine step_push2 (W := (w2.alloc _).drew) (w := w) (B0 := w.heap.size) (B := w.heap.size + 1) (v := u5) (l := partsL [C, N, S, K, Q] 2) (by exact rR.below ((Below.refl _ _).alloc (Nat.le_refl _) _).drew) (by exact (B3.alloc (Nat.le_of_lt hz2) _).drew) (by omega) [limB 2, Lib.itoa S] (0, 0) (by exact heap_alloc_new _ _) rfl (.tmp 17) (.tmp 26) (by rfl) (by rfl) (by rfl) (by simp; omega) (by simp) (by rw [partsL_length]; simp) ?_; intro v1 W1 hr1 hB1 hg1))
      go_wp2
      go_roundw
      case rel => exact ⟨3, by omega, rfl, Lib.hid hr1, Lib.hid (far_block (W := w2.drew) oB.out hg1 (.inr (Nat.le_refl _)) hz2 R3.out), Lib.hid hB1⟩
      case measure => simp [intOf]
    | 3, _, hi, hrow =>
      obtain rfl : _ = Value.int .i64 3 := hi
      have hlt := heap_lt R.out
      have hx := cell_of_row _ _ 3 _ _ _ R.out
      have hx' : wr.cell? ⟨w.heap.size, 3, none⟩ = some (.int .i64 K) := hx
      clear hx
      go_upto_region 8 with (fail)
      obtain ⟨w2, hw2⟩ : ∃ w2, w2 = wr.alloc (.cells #[.string ⟨#[114, 101, 103, 105, 115, 116, 101, 114, 115]⟩, .int .i64 1, .int .i64 8, .func (.func 52) #[] #[]] 52) := ⟨_, rfl⟩
      rw [← hw2]
      have g0 : w2.cell? ⟨wr.heap.size, 0, none⟩ = some (.string ⟨#[114, 101, 103, 105, 115, 116, 101, 114, 115]⟩) := by rw [hw2]; simp
      have g3 : w2.cell? ⟨wr.heap.size, 3, none⟩ = some (.func (.func 52) #[] #[]) := by rw [hw2]; simp
      have gx : w2.cell? ⟨w.heap.size, 3, none⟩ = some (.int .i64 K) := by rw [hw2, World.cell?_alloc_past _ _ _ hlt]; exact hx'
      have gz : wr.heap.size < w2.heap.size := by rw [hw2]; simp
      have rB := Lib.hid (show Below wr.heap.size wr w2 by rw [hw2]; exact (Below.refl _ _).alloc (Nat.le_refl _) _)
      have B3 := RB.out.trans (rB.out.mono RB.out.size)
      have rR := hrow.out.below rB.out
      have hz2 : w.heap.size < w2.heap.size := by omega
      have oB := Lib.hid (show ∀ k, u5.ownBlock = some k → w.heap.size + 1 ≤ k ∧ k < wr.heap.size from fun k hk => hrow.out.lt k hk)
      have R3 := Lib.hid ((rB.out.block w.heap.size hlt).trans R.out)
      clear hw2 hx'
      go_region_held3 (fun W => W.cell? ⟨wr.heap.size, 0, none⟩ = some (.string ⟨#[114, 101, 103, 105, 115, 116, 101, 114, 115]⟩) ∧ W.cell? ⟨wr.heap.size, 3, none⟩ = some (.func (.func 52) #[] #[]) ∧ W.cell? ⟨w.heap.size, 3, none⟩ = some (.int .i64 K)) (first | exact ⟨g0, g3, gx⟩ | exact ⟨(World.cell?_alloc_past _ _ _ gz).trans g0, (World.cell?_alloc_past _ _ _ gz).trans g3, (World.cell?_alloc_past _ _ _ hz2).trans gx⟩ | exact ⟨far_cell (W := w2.drew) oB.out hg1 (.inl (Nat.le_refl _)) gz g0, far_cell (W := w2.drew) oB.out hg1 (.inl (Nat.le_refl _)) gz g3, far_cell (W := w2.drew) oB.out hg1 (.inr (Nat.le_refl _)) hz2 gx⟩)
        (first
          | (go_at_call 52; refine (fld52 _ _).mono ?_; rintro e w3 ⟨rfl, rfl⟩)
          | (go_at_call 42; refine (dig42 _ (by omega) (by omega) _).mono ?_; rintro e w4 ⟨rfl, rfl⟩)
          | (refine step_push2 (W := (w2.alloc _).drew) (w := w) (B0 := w.heap.size) (B := w.heap.size + 1) (v := u5) (l := partsL [C, N, S, K, Q] 3) (by exact rR.below ((Below.refl _ _).alloc (Nat.le_refl _) _).drew) (by exact (B3.alloc (Nat.le_of_lt hz2) _).drew) (by omega) [limB 3, Lib.itoa K] (0, 0) (by exact heap_alloc_new _ _) rfl (.tmp 17) (.tmp 26) (by rfl) (by rfl) (by rfl) (by simp; omega) (by simp) (by rw [partsL_length]; simp) ?_; intro v1 W1 hr1 hB1 hg1))
      go_wp2
      go_roundw
      case rel => exact ⟨4, by omega, rfl, Lib.hid hr1, Lib.hid (far_block (W := w2.drew) oB.out hg1 (.inr (Nat.le_refl _)) hz2 R3.out), Lib.hid hB1⟩
      case measure => simp [intOf]
    | 4, _, hi, hrow =>
      obtain rfl : _ = Value.int .i64 4 := hi
      have hlt := heap_lt R.out
      have hx := cell_of_row _ _ 4 _ _ _ R.out
      have hx' : wr.cell? ⟨w.heap.size, 4, none⟩ = some (.int .i64 Q) := hx
      clear hx
      go_upto_region 8 with (fail)
      obtain ⟨w2, hw2⟩ : ∃ w2, w2 = wr.alloc (.cells #[.string ⟨#[112, 111, 112, 117, 108, 97, 114]⟩, .int .i64 2, .int .i64 16, .func (.func 53) #[] #[]] 52) := ⟨_, rfl⟩
      rw [← hw2]
      have g0 : w2.cell? ⟨wr.heap.size, 0, none⟩ = some (.string ⟨#[112, 111, 112, 117, 108, 97, 114]⟩) := by rw [hw2]; simp
      have g3 : w2.cell? ⟨wr.heap.size, 3, none⟩ = some (.func (.func 53) #[] #[]) := by rw [hw2]; simp
      have gx : w2.cell? ⟨w.heap.size, 4, none⟩ = some (.int .i64 Q) := by rw [hw2, World.cell?_alloc_past _ _ _ hlt]; exact hx'
      have gz : wr.heap.size < w2.heap.size := by rw [hw2]; simp
      have rB := Lib.hid (show Below wr.heap.size wr w2 by rw [hw2]; exact (Below.refl _ _).alloc (Nat.le_refl _) _)
      have B3 := RB.out.trans (rB.out.mono RB.out.size)
      have rR := hrow.out.below rB.out
      have hz2 : w.heap.size < w2.heap.size := by omega
      have oB := Lib.hid (show ∀ k, u5.ownBlock = some k → w.heap.size + 1 ≤ k ∧ k < wr.heap.size from fun k hk => hrow.out.lt k hk)
      have R3 := Lib.hid ((rB.out.block w.heap.size hlt).trans R.out)
      clear hw2 hx'
      go_region_held3 (fun W => W.cell? ⟨wr.heap.size, 0, none⟩ = some (.string ⟨#[112, 111, 112, 117, 108, 97, 114]⟩) ∧ W.cell? ⟨wr.heap.size, 3, none⟩ = some (.func (.func 53) #[] #[]) ∧ W.cell? ⟨w.heap.size, 4, none⟩ = some (.int .i64 Q)) (first | exact ⟨g0, g3, gx⟩ | exact ⟨(World.cell?_alloc_past _ _ _ gz).trans g0, (World.cell?_alloc_past _ _ _ gz).trans g3, (World.cell?_alloc_past _ _ _ hz2).trans gx⟩ | exact ⟨far_cell (W := w2.drew) oB.out hg1 (.inl (Nat.le_refl _)) gz g0, far_cell (W := w2.drew) oB.out hg1 (.inl (Nat.le_refl _)) gz g3, far_cell (W := w2.drew) oB.out hg1 (.inr (Nat.le_refl _)) hz2 gx⟩)
        (first
          | (go_at_call 53; refine (fld53 _ _).mono ?_; rintro e w3 ⟨rfl, rfl⟩)
          | (go_at_call 42; refine (dig42 _ (by omega) (by omega) _).mono ?_; rintro e w4 ⟨rfl, rfl⟩)
          | (refine step_push2 (W := (w2.alloc _).drew) (w := w) (B0 := w.heap.size) (B := w.heap.size + 1) (v := u5) (l := partsL [C, N, S, K, Q] 4) (by exact rR.below ((Below.refl _ _).alloc (Nat.le_refl _) _).drew) (by exact (B3.alloc (Nat.le_of_lt hz2) _).drew) (by omega) [limB 4, Lib.itoa Q] (0, 0) (by exact heap_alloc_new _ _) rfl (.tmp 17) (.tmp 26) (by rfl) (by rfl) (by rfl) (by simp; omega) (by simp) (by rw [partsL_length]; simp) ?_; intro v1 W1 hr1 hB1 hg1))
      go_wp2
      go_roundw
      case rel => exact ⟨5, by omega, rfl, Lib.hid hr1, Lib.hid (far_block (W := w2.drew) oB.out hg1 (.inr (Nat.le_refl _)) hz2 R3.out), Lib.hid hB1⟩
      case measure => simp [intOf]
    | 5, _, hi, hrow =>
      obtain rfl : _ = Value.int .i64 5 := hi
      go_wp2_with (go_at_call 43; refine (hJ.out _ _ hrow.out).mono ?_; rintro e w5 ⟨rfl, hb5⟩)
      go_ret2
      exact ⟨rfl, RB.out.trans (hb5.mono RB.out.size)⟩
end YtoebnjciioiccaaDoor
end Go.Proofs
