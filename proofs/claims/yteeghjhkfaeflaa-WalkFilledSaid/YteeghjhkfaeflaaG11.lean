/- find: the object at an address. -/
import Derived.Test.YteeghjhkfaeflaaG10
import Derived.Deep.RegionHeld3
import Derived.Deep.RegionWith
namespace Go.Proofs
namespace Yteeghjhkfaeflaa
open Go.RowKit

/-- an object, as find answers it -/
def objV (P R S : Int) (A1 : Option Addr) (n1 c1 : Nat) (k1 : Int) (X1 : Option Addr) (m1 d1 : Nat) (A2 : Option Addr) (n2 c2 : Nat) (k2 : Int) (X2 : Option Addr) (m2 d2 : Nat) : Array Value :=
  #[.int .i64 P, .int .i64 R, .int .i64 S, .slice A1 n1 c1, .int .i64 k1, .slice X1 m1 d1, .slice A2 n2 c2, .int .i64 k2, .slice X2 m2 d2]
def zObj : Array Value := objV 0 0 0 none 0 0 0 none 0 0 none 0 0 0 none 0 0
/-- the row of a box of an object -/
def ORow (W : World) (g : Nat) (v : Array Value) : Prop := W.heap[g]? = some (.cells v 100 (0, 0))
theorem ORow.below {W W' : World} {g : Nat} {v : Array Value} (h : ORow W g v) (hb : Below W.heap.size W W') : ORow W' g v := keep_heap hb h
theorem ORow.drew {W : World} {g : Nat} {v : Array Value} (h : ORow W g v) : ORow W.drew g v := h
theorem ORow.free {W : World} {g : Nat} {v : Array Value} (h : ORow W g v) (i : Nat) : W.frozen? ⟨g, i, none⟩ = false := frozen_of_row _ _ i _ _ h
theorem ORow.cells {W : World} {g : Nat} {a0 a1 a2 a3 a4 a5 a6 a7 a8 : Value} (h : ORow W g #[a0, a1, a2, a3, a4, a5, a6, a7, a8]) :
    W.cell? ⟨g, 0, none⟩ = some a0 ∧ W.cell? ⟨g, 1, none⟩ = some a1 ∧ W.cell? ⟨g, 2, none⟩ = some a2 ∧ W.cell? ⟨g, 3, none⟩ = some a3 ∧ W.cell? ⟨g, 4, none⟩ = some a4 ∧ W.cell? ⟨g, 5, none⟩ = some a5 ∧ W.cell? ⟨g, 6, none⟩ = some a6 ∧ W.cell? ⟨g, 7, none⟩ = some a7 ∧ W.cell? ⟨g, 8, none⟩ = some a8 := by
  refine ⟨?_, ?_, ?_, ?_, ?_, ?_, ?_, ?_, ?_⟩ <;> rw [cell_of_row _ _ _ _ _ _ h] <;> rfl
theorem ORow.put {W : World} {g : Nat} {v : Array Value} (h : ORow W g v) (i : Nat) (u : Value) : ORow (W.setCell ⟨g, i, none⟩ u) g (v.setIfInBounds i u) := set_row h i u
/-- nine stores to a box of an object -/
def nine (W : World) (g : Nat) (a0 a1 a2 a3 a4 a5 a6 a7 a8 : Value) : World :=
  ((((((((W.setCell ⟨g, 0, none⟩ a0).setCell ⟨g, 1, none⟩ a1).setCell ⟨g, 2, none⟩ a2).setCell ⟨g, 3, none⟩ a3).setCell ⟨g, 4, none⟩ a4).setCell ⟨g, 5, none⟩ a5).setCell ⟨g, 6, none⟩ a6).setCell ⟨g, 7, none⟩ a7).setCell ⟨g, 8, none⟩ a8
theorem nine_row {W : World} {g : Nat} {b0 b1 b2 b3 b4 b5 b6 b7 b8 : Value} (h : ORow W g #[b0, b1, b2, b3, b4, b5, b6, b7, b8]) (a0 a1 a2 a3 a4 a5 a6 a7 a8 : Value) :
    ORow (nine W g a0 a1 a2 a3 a4 a5 a6 a7 a8) g #[a0, a1, a2, a3, a4, a5, a6, a7, a8] := by
  have := ((((((((h.put 0 a0).put 1 a1).put 2 a2).put 3 a3).put 4 a4).put 5 a5).put 6 a6).put 7 a7).put 8 a8
  simpa [nine] using this
theorem nine_below {B : Nat} {w W : World} (h : Below B w W) {g : Nat} (hg : B ≤ g) (a0 a1 a2 a3 a4 a5 a6 a7 a8 : Value) : Below B w (nine W g a0 a1 a2 a3 a4 a5 a6 a7 a8) := by
  unfold nine
  exact ((((((((h.setCell (p := ⟨g, 0, none⟩) hg a0).setCell (p := ⟨g, 1, none⟩) hg a1).setCell (p := ⟨g, 2, none⟩) hg a2).setCell (p := ⟨g, 3, none⟩) hg a3).setCell (p := ⟨g, 4, none⟩) hg a4).setCell (p := ⟨g, 5, none⟩) hg a5).setCell (p := ⟨g, 6, none⟩) hg a6).setCell (p := ⟨g, 7, none⟩) hg a7).setCell (p := ⟨g, 8, none⟩) hg a8
theorem nine_far {W : World} {b g : Nat} {x y : Value} (h : W.cell? ⟨g, 0, none⟩ = some x ∧ W.cell? ⟨g, 1, none⟩ = some y) (hne : g ≠ b) (a0 a1 a2 a3 a4 a5 a6 a7 a8 : Value) :
    (((((((((W.setCell ⟨b, 0, none⟩ a0).setCell ⟨b, 1, none⟩ a1).setCell ⟨b, 2, none⟩ a2).setCell ⟨b, 3, none⟩ a3).setCell ⟨b, 4, none⟩ a4).setCell ⟨b, 5, none⟩ a5).setCell ⟨b, 6, none⟩ a6).setCell ⟨b, 7, none⟩ a7).setCell ⟨b, 8, none⟩ a8).cell? ⟨g, 0, none⟩ = some x ∧
    (((((((((W.setCell ⟨b, 0, none⟩ a0).setCell ⟨b, 1, none⟩ a1).setCell ⟨b, 2, none⟩ a2).setCell ⟨b, 3, none⟩ a3).setCell ⟨b, 4, none⟩ a4).setCell ⟨b, 5, none⟩ a5).setCell ⟨b, 6, none⟩ a6).setCell ⟨b, 7, none⟩ a7).setCell ⟨b, 8, none⟩ a8).cell? ⟨g, 1, none⟩ = some y := by
  have F : ∀ (V : World) (i j : Nat) (u : Value), (V.setCell ⟨b, i, none⟩ u).cell? ⟨g, j, none⟩ = V.cell? ⟨g, j, none⟩ := fun V i j u =>
    World.cell?_setCell_other V ⟨b, i, none⟩ ⟨g, j, none⟩ u (by simp only [ne_eq, Addr.mk.injEq, not_and]; intro e; exact absurd e.symm hne)
  simp only [F]
  exact h
/-- two cells of a block -/
def Two (W : World) (g : Nat) (x y : Value) : Prop := W.cell? ⟨g, 0, none⟩ = some x ∧ W.cell? ⟨g, 1, none⟩ = some y
theorem Two.below {W W' : World} {g : Nat} {x y : Value} (h : Two W g x y) (hb : Below W.heap.size W W') : Two W' g x y := ⟨keep_cell hb h.1, keep_cell hb h.2⟩
theorem Two.drew {W : World} {g : Nat} {x y : Value} (h : Two W g x y) : Two W.drew g x y := h
theorem two_new (W : World) (x y : Value) (t : TypeId) : Two (W.alloc (.cells #[x, y] t)) W.heap.size x y := ⟨by simp, by simp⟩
theorem below_drew_l {W W' : World} (h : Below W.drew.heap.size W.drew W') : Below W.heap.size W W' := ((Below.refl _ _).drew).trans h
theorem part_at {W : World} {A : Option Addr} {ws : List Int} {cap k m : Nat} (h : WAt W (.slice A ws.length cap) ws) (hk : k + m ≤ ws.length) : WAt W (.slice (if m = 0 then A else A.map (·.add k)) m m) (part ws k m) := by
  have hl := part_length hk
  refine ⟨_, m, by rw [hl], fun h0 => ?_⟩
  rw [hl] at h0
  obtain ⟨A', cap', e, hA⟩ := h
  simp only [Value.slice.injEq] at e
  obtain ⟨rfl, _, rfl⟩ := e
  obtain ⟨b, off, rfl, hc⟩ := hA (by omega)
  refine ⟨b, off + k, by rw [if_neg (by omega)]; simp [Addr.add], fun j u hu => ?_⟩
  rw [Nat.add_assoc]
  refine hc (k + j) u ?_
  have hj : j < m := by
    have := (List.getElem?_eq_some_iff.1 hu).1
    rw [wc_length, hl] at this
    exact this
  rw [wc_get _ j (by omega), part_get hj] at hu
  rw [wc_get _ (k + j) (by omega)]
  exact hu
set_option maxRecDepth 100000 in
set_option maxHeartbeats 1000000 in
theorem find48_ok (A : Option Addr) (ws : List Int) (cap k P R : Nat) (w : World) (h : WAt w (.slice A ws.length cap) ws) (hcap : ws.length ≤ cap) (_hu : ∀ z ∈ ws, Hd.UI z) (ho : ObOk ws k P R) :
    Calls Try.prog 64 #[.slice A ws.length cap, .int .i64 k] w fun e w' => ∃ a1 a2, e = .returned (.tuple #[.agg (objV P R (1 + (P : Int) + R) A ws.length cap ((k : Int) + 1) a1 P P A ws.length cap ((k : Int) + 1 + (P : Int)) a2 R R), .int .i64 0]) ∧ WAt w (.slice a1 P P) (part ws (k + 1) P) ∧ WAt w (.slice a2 R R) (part ws (k + 1 + P) R) ∧ Below w.heap.size w w' := by
  have hl := ho.len
  have G := Lib.hid (fun W (hb : Below w.heap.size w W) => get62 _ ws k W (h.below hb) (by omega))
  have hgz : getF ws k = (Hd.packV P R, 0) := by
    unfold getF
    rw [if_neg (by simp [ho.chk]), if_pos (partB_spec.2 ⟨by have := ho.one; omega, by have := ho.fit; omega, by omega, by have := ho.fit; omega⟩), Int.toNat_natCast, ho.head]
  rw [hgz] at G
  have hU : Hd.UI (Hd.packV P R) := by
    have := ho.sum
    unfold Hd.UI Hd.packV; omega
  have hpr := ho.sum
  have S := Lib.hid (fun W => Hd.shp63 _ hU W)
  have hk : Hd.kindV (Hd.packV P R) = 1 := Hd.kind_one.2 (Hd.obj_spec.2 (by
    have e1 : Hd.packV P R / 256 % 256 = P := by unfold Hd.packV; omega
    have e2 : Hd.packV P R / 65536 = R := by unfold Hd.packV; omega
    rw [e1, e2]
    exact ⟨Hd.chk_zero.2 ⟨by omega, by omega, by omega⟩, rfl⟩))
  have e1 : Hd.shpP (Hd.packV P R) = P := by unfold Hd.shpP; rw [if_pos hk]; unfold Hd.packV; omega
  have e2 : Hd.shpR (Hd.packV P R) = R := by unfold Hd.shpR; rw [if_pos hk]; unfold Hd.packV; omega
  have e3 : Hd.shpE (Hd.packV P R) = 0 := by unfold Hd.shpE; rw [if_pos hk]
  rw [e1, e2, e3] at S
  have Z := Lib.hid (fun W => Hd.size38 P R ⟨by omega, by omega⟩ ⟨by omega, by omega⟩ W)
  have e4 : Hd.chkV P R = 0 := Hd.chk_zero.2 ⟨by omega, by omega, by omega⟩
  have e5 : Hd.sizeV P R = 1 + (P : Int) + R := if_pos e4
  rw [e4, e5] at Z
  have h1 := ho.one
  have h2 := ho.fit
  have F1 := Lib.hid (fun W => fields64 A ws.length cap (k + 1) P W hcap (by omega) hl)
  have F2 := Lib.hid (fun W => fields64 A ws.length cap (k + 1 + P) R W hcap (by omega) hl)
  rw [show ((k + 1 : Nat) : Int) = (k : Int) + 1 by omega] at F1
  rw [show ((k + 1 + P : Nat) : Int) = (k : Int) + 1 + (P : Int) by omega] at F2
  unfold fv at F1 F2
  have X1 := Lib.hid (part_at h (show k + 1 + P ≤ ws.length by omega))
  have X2 := Lib.hid (part_at h (show k + 1 + P + R ≤ ws.length by omega))
  generalize (if P = 0 then A else Option.map (fun x => x.add (k + 1)) A) = a1 at *
  generalize (if R = 0 then A else Option.map (fun x => x.add (k + 1 + P)) A) = a2 at *
  have q1 : decide ((ws.length : Int) - (k : Int) < 1 + (P : Int) + R) = false := decide_eq_false (by omega)
  clear hgz hU hk e1 e2 e3 e4 e5 _hu ho h
  generalize Hd.packV P R = pv at *
  generalize ws.length = n at *
  go_enter Try.func64, Try.ntmps64
  go_upto_region 13 with (first
    | (go_at_call 79; refine (G.out _ (alloc_below w _)).mono ?_; rintro e w1 ⟨rfl, rfl⟩)
    | (go_at_call 80; refine (S.out _).mono ?_; rintro e w2 ⟨rfl, hb2⟩)
    | (go_at_call 70; refine (Z.out _).mono ?_; rintro e w3 ⟨rfl, hb3⟩))
  have T3 := Lib.hid ((two_new w2 (.int .i64 P) (.int .i64 R) 51).below hb3)
  have O3 := Lib.hid (show ORow w3 w.heap.size #[.int .i64 0, .int .i64 0, .int .i64 0, .slice none 0 0, .int .i64 0, .slice none 0 0, .slice none 0 0, .int .i64 0, .slice none 0 0] from ((keep_heap hb3 (keep_heap (alloc_below w2 _) (keep_heap hb2 (heap_alloc_new w _))))))
  have B3 := Lib.hid (below_end (below_end (alloc_below w _) hb2) (below_end (alloc_below w2 _) hb3))
  have hgw : w2.heap.size ≠ w.heap.size := by have := hb2.size; simp at this; omega
  clear hb2 hb3
  generalize w2.heap.size = g at *
  have T4 := Lib.hid (show w3.drew.cell? ⟨g, 0, none⟩ = some (.int .i64 P) ∧ w3.drew.cell? ⟨g, 1, none⟩ = some (.int .i64 R) from T3.out.drew)
  have k0 := T3.out.1
  have k1 := T3.out.2
  have hwr : IntKind.i64.wrap ((k : Int) + 1 + (P : Int)) = (k : Int) + 1 + (P : Int) := IntWalk.i64_in _ (by omega)
  go_region_held3 (fun W => W.cell? ⟨g, 0, none⟩ = some (.int .i64 P) ∧ W.cell? ⟨g, 1, none⟩ = some (.int .i64 R)) (first | with_reducible exact T4.out | with_reducible exact T5.out | with_reducible exact T6.out | with_reducible exact nine_far T6.out hgw _ _ _ _ _ _ _ _ _)
    (first
      | (go_at_call 81; (with_reducible refine (F1.out _).mono ?_); rintro e w4 ⟨rfl, hb4⟩; have T5 := Lib.hid (show w4.cell? ⟨g, 0, none⟩ = some (.int .i64 P) ∧ w4.cell? ⟨g, 1, none⟩ = some (.int .i64 R) from T3.out.below (below_drew_l hb4)))
      | (go_at_call 81; (with_reducible refine (F2.out _).mono ?_); rintro e w5 ⟨rfl, hb5⟩; have T6 := Lib.hid (show w5.cell? ⟨g, 0, none⟩ = some (.int .i64 P) ∧ w5.cell? ⟨g, 1, none⟩ = some (.int .i64 R) from Two.below (W := w4) T5.out hb5); have O5 := Lib.hid ((O3.out.below (below_drew_l hb4)).below hb5); obtain ⟨z0, z1, z2, z3, z4, z5, z6, z7, z8⟩ := O5.out.cells; have zf := O5.out.free))
  have ON := Lib.hid (nine_row O5.out (.int .i64 P) (.int .i64 R) (.int .i64 (1 + (P : Int) + R)) (.slice A n cap) (.int .i64 ((k : Int) + 1)) (.slice a1 P P) (.slice A n cap) (.int .i64 ((k : Int) + 1 + (P : Int))) (.slice a2 R R))
  have BN := Lib.hid (nine_below (below_end (below_end B3.out (below_drew_l hb4)) hb5) (Nat.le_refl w.heap.size) (.int .i64 P) (.int .i64 R) (.int .i64 (1 + (P : Int) + R)) (.slice A n cap) (.int .i64 ((k : Int) + 1)) (.slice a1 P P) (.slice A n cap) (.int .i64 ((k : Int) + 1 + (P : Int))) (.slice a2 R R))
  clear z0 z1 z2 z3 z4 z5 z6 z7 z8 zf
  rw [← nine]
  generalize nine w5 w.heap.size (.int .i64 P) (.int .i64 R) (.int .i64 (1 + (P : Int) + R)) (.slice A n cap) (.int .i64 ((k : Int) + 1)) (.slice a1 P P) (.slice A n cap) (.int .i64 ((k : Int) + 1 + (P : Int))) (.slice a2 R R) = W6 at *
  go_wp2
  obtain ⟨z0, z1, z2, z3, z4, z5, z6, z7, z8⟩ := ON.out.cells
  exact bodyPost_ret (v := .tuple #[.agg (objV P R (1 + (P : Int) + R) A n cap ((k : Int) + 1) a1 P P A n cap ((k : Int) + 1 + (P : Int)) a2 R R), .int .i64 0]) (by simp [results, Try.f64, go_sem, objV, z0, z1, z2, z3, z4, z5, z6, z7, z8]) rfl ⟨a1, a2, rfl, X1.out, X2.out, BN.out⟩
set_option maxRecDepth 100000 in
set_option maxHeartbeats 400000 in
theorem find48_e1 (A : Option Addr) (ws : List Int) (cap : Nat) (a : Int) (w : World) (h : WAt w (.slice A ws.length cap) ws) (hm : ws.length ≤ 9223372036854775807) (hc : (getF ws a).2 ≠ 0) :
    Calls Try.prog 64 #[.slice A ws.length cap, .int .i64 a] w fun e w' => e = .returned (.tuple #[.agg zObj, .int .i64 (getF ws a).2]) ∧ Below w.heap.size w w' := by
  have G := Lib.hid (fun W (hb : Below w.heap.size w W) => get62 _ ws a W (h.below hb) hm)
  have q : ((getF ws a).2 != 0) = true := by simpa using hc
  have B := Lib.hid (alloc_below w (.cells zObj 100))
  clear hc h
  generalize getF ws a = R at *
  obtain ⟨z, c⟩ := R
  dsimp only at *
  generalize ws.length = n at *
  unfold zObj objV at *
  go_enter Try.func64, Try.ntmps64
  go_wp2_with (first
    | (go_at_call 79; refine (G.out _ (alloc_below w _)).mono ?_; rintro e w1 ⟨rfl, rfl⟩))
  exact bodyPost_ret (v := .tuple #[.agg #[.int .i64 0, .int .i64 0, .int .i64 0, .slice none 0 0, .int .i64 0, .slice none 0 0, .slice none 0 0, .int .i64 0, .slice none 0 0], .int .i64 c]) (by simp [results, Try.f64, go_sem]) rfl ⟨rfl, B.out⟩
set_option maxRecDepth 100000 in
set_option maxHeartbeats 400000 in
theorem find48_e2 (A : Option Addr) (ws : List Int) (cap : Nat) (a : Int) (w : World) (h : WAt w (.slice A ws.length cap) ws) (hm : ws.length ≤ 9223372036854775807) (hu : Hd.UI (getF ws a).1) (hc : (getF ws a).2 = 0) (hk : Hd.kindV (getF ws a).1 ≠ 1) :
    Calls Try.prog 64 #[.slice A ws.length cap, .int .i64 a] w fun e w' => e = .returned (.tuple #[.agg zObj, .int .i64 6]) ∧ Below w.heap.size w w' := by
  have G := Lib.hid (fun W (hb : Below w.heap.size w W) => get62 _ ws a W (h.below hb) hm)
  have S := Lib.hid (fun W => Hd.shp63 _ hu W)
  have e1 : Hd.shpP (getF ws a).1 = 0 := if_neg hk
  have e2 : Hd.shpR (getF ws a).1 = 0 := if_neg hk
  have e3 : Hd.shpE (getF ws a).1 = 6 := if_neg hk
  rw [e1, e2, e3] at S
  rw [hc] at G
  have B := Lib.hid (alloc_below w (.cells zObj 100))
  have O := Lib.hid (show ORow (w.alloc (.cells zObj 100)) w.heap.size zObj from heap_alloc_new w _)
  clear hc h hu hk e1 e2 e3
  generalize (getF ws a).1 = z at *
  generalize ws.length = n at *
  unfold zObj objV at *
  go_enter Try.func64, Try.ntmps64
  go_upto_region 5 with (first
    | (go_at_call 79; refine (G.out _ (alloc_below w _)).mono ?_; rintro e w1 ⟨rfl, rfl⟩)
    | (go_at_call 80; refine (S.out _).mono ?_; rintro e w2 ⟨rfl, hb2⟩))
  have O3 := Lib.hid ((O.out.below hb2).below (alloc_below w2 (.cells #[.int .i64 0, .int .i64 0] 51)))
  have B3 := Lib.hid (below_end (below_end B.out hb2) (alloc_below w2 (.cells #[.int .i64 0, .int .i64 0] 51)))
  obtain ⟨z0, z1, z2, z3, z4, z5, z6, z7, z8⟩ := O3.out.cells
  have zf := O3.out.free
  have ON := Lib.hid (nine_row O3.out (.int .i64 0) (.int .i64 0) (.int .i64 0) (.slice none 0 0) (.int .i64 0) (.slice none 0 0) (.slice none 0 0) (.int .i64 0) (.slice none 0 0))
  have BN := Lib.hid (nine_below B3.out (Nat.le_refl w.heap.size) (.int .i64 0) (.int .i64 0) (.int .i64 0) (.slice none 0 0) (.int .i64 0) (.slice none 0 0) (.slice none 0 0) (.int .i64 0) (.slice none 0 0))
  clear hb2
  generalize w2.alloc (.cells #[.int .i64 0, .int .i64 0] 51) = W3 at *
  go_wp2
  clear z0 z1 z2 z3 z4 z5 z6 z7 z8 zf
  rw [← nine]
  generalize nine W3 w.heap.size (.int .i64 0) (.int .i64 0) (.int .i64 0) (.slice none 0 0) (.int .i64 0) (.slice none 0 0) (.slice none 0 0) (.int .i64 0) (.slice none 0 0) = W6 at *
  obtain ⟨z0, z1, z2, z3, z4, z5, z6, z7, z8⟩ := ON.out.cells
  exact bodyPost_ret (v := .tuple #[.agg #[.int .i64 0, .int .i64 0, .int .i64 0, .slice none 0 0, .int .i64 0, .slice none 0 0, .slice none 0 0, .int .i64 0, .slice none 0 0], .int .i64 6]) (by simp [results, Try.f64, go_sem, z0, z1, z2, z3, z4, z5, z6, z7, z8]) rfl ⟨rfl, BN.out⟩
set_option maxRecDepth 100000 in
set_option maxHeartbeats 400000 in
theorem find48_e3 (A : Option Addr) (ws : List Int) (cap : Nat) (a : Int) (w : World) (h : WAt w (.slice A ws.length cap) ws) (hu : Hd.UI (getF ws a).1) (hc : (getF ws a).2 = 0) (hk : Hd.kindV (getF ws a).1 = 1)
    (hl : (ws.length : Int) - a < 1 + shP (getF ws a).1 + shR (getF ws a).1) :
    Calls Try.prog 64 #[.slice A ws.length cap, .int .i64 a] w fun e w' => e = .returned (.tuple #[.agg zObj, .int .i64 6]) ∧ Below w.heap.size w w' := by
  obtain ⟨hcz, hp, -⟩ := get_zero hc
  obtain ⟨p1, p2, -, -⟩ := partB_spec.1 hp
  have hlen := chk_len hcz
  have G := Lib.hid (fun W (hb : Below w.heap.size w W) => get62 _ ws a W (h.below hb) (by omega))
  have S := Lib.hid (fun W => Hd.shp63 _ hu W)
  have e1 : Hd.shpP (getF ws a).1 = shP (getF ws a).1 := if_pos hk
  have e2 : Hd.shpR (getF ws a).1 = shR (getF ws a).1 := if_pos hk
  have e3 : Hd.shpE (getF ws a).1 = 0 := if_pos hk
  rw [e1, e2, e3] at S
  rw [hc] at G
  have e4 : Hd.chkV (shP (getF ws a).1) (shR (getF ws a).1) = 0 := (Hd.obj_spec.1 (Hd.kind_one.1 hk)).1
  obtain ⟨c0, c1, c2⟩ := Hd.chk_zero.1 e4
  have Z := Lib.hid (fun W => Hd.size38 (shP (getF ws a).1) (shR (getF ws a).1) ⟨by omega, by omega⟩ ⟨by omega, by omega⟩ W)
  have e5 : Hd.sizeV (shP (getF ws a).1) (shR (getF ws a).1) = 1 + shP (getF ws a).1 + shR (getF ws a).1 := if_pos e4
  rw [e4, e5] at Z
  have B := Lib.hid (alloc_below w (.cells zObj 100))
  have O := Lib.hid (show ORow (w.alloc (.cells zObj 100)) w.heap.size zObj from heap_alloc_new w _)
  clear hc h hu hk e1 e2 e3 e4 e5 hcz hp
  generalize shP (getF ws a).1 = P at *
  generalize shR (getF ws a).1 = R at *
  generalize (getF ws a).1 = z at *
  generalize ws.length = n at *
  have q1 : decide ((n : Int) - a < 1 + P + R) = true := decide_eq_true hl
  unfold zObj objV at *
  go_enter Try.func64, Try.ntmps64
  go_upto_region 10 with (first
    | (go_at_call 79; refine (G.out _ (alloc_below w _)).mono ?_; rintro e w1 ⟨rfl, rfl⟩)
    | (go_at_call 80; refine (S.out _).mono ?_; rintro e w2 ⟨rfl, hb2⟩)
    | (go_at_call 70; refine (Z.out _).mono ?_; rintro e w3 ⟨rfl, hb3⟩))
  have O3 := Lib.hid (((O.out.below hb2).below (alloc_below w2 (.cells #[.int .i64 P, .int .i64 R] 51))).below hb3)
  have B3 := Lib.hid (below_end (below_end (below_end B.out hb2) (alloc_below w2 (.cells #[.int .i64 P, .int .i64 R] 51))) hb3)
  obtain ⟨z0, z1, z2, z3, z4, z5, z6, z7, z8⟩ := O3.out.cells
  have zf := O3.out.free
  have ON := Lib.hid (nine_row O3.out (.int .i64 0) (.int .i64 0) (.int .i64 0) (.slice none 0 0) (.int .i64 0) (.slice none 0 0) (.slice none 0 0) (.int .i64 0) (.slice none 0 0))
  have BN := Lib.hid (nine_below B3.out (Nat.le_refl w.heap.size) (.int .i64 0) (.int .i64 0) (.int .i64 0) (.slice none 0 0) (.int .i64 0) (.slice none 0 0) (.slice none 0 0) (.int .i64 0) (.slice none 0 0))
  clear hb2 hb3
  go_wp2
  clear z0 z1 z2 z3 z4 z5 z6 z7 z8 zf
  rw [← nine]
  generalize nine w3 w.heap.size (.int .i64 0) (.int .i64 0) (.int .i64 0) (.slice none 0 0) (.int .i64 0) (.slice none 0 0) (.slice none 0 0) (.int .i64 0) (.slice none 0 0) = W6 at *
  obtain ⟨z0, z1, z2, z3, z4, z5, z6, z7, z8⟩ := ON.out.cells
  exact bodyPost_ret (v := .tuple #[.agg #[.int .i64 0, .int .i64 0, .int .i64 0, .slice none 0 0, .int .i64 0, .slice none 0 0, .slice none 0 0, .int .i64 0, .slice none 0 0], .int .i64 6]) (by simp [results, Try.f64, go_sem, z0, z1, z2, z3, z4, z5, z6, z7, z8]) rfl ⟨rfl, BN.out⟩
theorem get_ui {ws : List Int} (hu : ∀ z ∈ ws, Hd.UI z) (a : Int) : Hd.UI (getF ws a).1 := by
  have h0 : Hd.UI 0 := ⟨by decide, by decide⟩
  unfold getF
  split
  · exact h0
  · split
    · dsimp only
      rw [List.getD_eq_getElem?_getD]
      cases hh : ws[a.toNat]? with
      | none => exact h0
      | some z => exact hu z (List.mem_of_getElem? hh)
    · exact h0
theorem find48_err (A : Option Addr) (ws : List Int) (cap : Nat) (a E : Int) (w : World) (h : WAt w (.slice A ws.length cap) ws) (hm : ws.length ≤ 9223372036854775807) (hu : ∀ z ∈ ws, Hd.UI z) (ho : objF ws a = (0, 0, E)) (hE : E ≠ 0) :
    Calls Try.prog 64 #[.slice A ws.length cap, .int .i64 a] w fun e w' => e = .returned (.tuple #[.agg zObj, .int .i64 E]) ∧ Below w.heap.size w w' := by
  unfold objF at ho
  by_cases hg : (getF ws a).2 = 0
  rotate_left
  · rw [if_pos hg] at ho
    cases ho
    exact find48_e1 A ws cap a w h hm hg
  rw [if_neg (by simp [hg])] at ho
  by_cases hk : Hd.kindV (getF ws a).1 = 1
  rotate_left
  · rw [if_pos hk] at ho
    cases ho
    exact find48_e2 A ws cap a w h hm (get_ui hu a) hg hk
  rw [if_neg (by simp [hk])] at ho
  by_cases hl : (ws.length : Int) - a < 1 + shP (getF ws a).1 + shR (getF ws a).1
  · rw [if_pos hl] at ho
    cases ho
    exact find48_e3 A ws cap a w h (get_ui hu a) hg hk hl
  · rw [if_neg hl] at ho
    simp only [Prod.mk.injEq] at ho
    exact absurd ho.2.2.symm hE
end Yteeghjhkfaeflaa
end Go.Proofs
