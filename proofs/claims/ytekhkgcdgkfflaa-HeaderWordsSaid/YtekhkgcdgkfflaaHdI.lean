/- The laws HeaderShapes and HeaderWords answer true. -/
import Derived.Test.YtekhkgcdgkfflaaHdH
import Derived.Deep.RegionHeld3
namespace Go.Proofs
namespace Ytekhkgcdgkfflaa
open Go.RowKit

/-- the box of a shape that came in, and what was there before -/
theorem box_below {w W W' : World} {P R : Int} (h : W.cell? ⟨w.heap.size, 0, none⟩ = some (.int .i64 P) ∧ W.cell? ⟨w.heap.size, 1, none⟩ = some (.int .i64 R) ∧ w.heap.size < W.heap.size ∧ Below w.heap.size w W) (hb : Below W.heap.size W W') :
    W'.cell? ⟨w.heap.size, 0, none⟩ = some (.int .i64 P) ∧ W'.cell? ⟨w.heap.size, 1, none⟩ = some (.int .i64 R) ∧ w.heap.size < W'.heap.size ∧ Below w.heap.size w W' := by
  obtain ⟨h0, h1, hz, hB⟩ := h
  have e : ∀ i, W'.cell? ⟨w.heap.size, i, none⟩ = W.cell? ⟨w.heap.size, i, none⟩ := fun i => hb.cell (p := ⟨w.heap.size, i, none⟩) hz
  exact ⟨by rw [e, h0], by rw [e, h1], Nat.lt_of_lt_of_le hz hb.size, hB.trans (hb.mono hB.size)⟩
theorem box_new (w : World) (P R : Int) : (w.alloc (.cells #[.int .i64 P, .int .i64 R] 23)).cell? ⟨w.heap.size, 0, none⟩ = some (.int .i64 P) ∧ (w.alloc (.cells #[.int .i64 P, .int .i64 R] 23)).cell? ⟨w.heap.size, 1, none⟩ = some (.int .i64 R) ∧ w.heap.size < (w.alloc (.cells #[.int .i64 P, .int .i64 R] 23)).heap.size ∧ Below w.heap.size w (w.alloc (.cells #[.int .i64 P, .int .i64 R] 23)) :=
  ⟨by simp, by simp, by simp, (Below.refl _ _).alloc (Nat.le_refl _) _⟩
theorem box_drew {w W : World} {P R : Int} (h : W.cell? ⟨w.heap.size, 0, none⟩ = some (.int .i64 P) ∧ W.cell? ⟨w.heap.size, 1, none⟩ = some (.int .i64 R) ∧ w.heap.size < W.heap.size ∧ Below w.heap.size w W) : W.drew.cell? ⟨w.heap.size, 0, none⟩ = some (.int .i64 P) ∧ W.drew.cell? ⟨w.heap.size, 1, none⟩ = some (.int .i64 R) ∧ w.heap.size < W.drew.heap.size ∧ Below w.heap.size w W.drew :=
  ⟨h.1, h.2.1, h.2.2.1, h.2.2.2.drew⟩
theorem below_drew_l {W W' : World} (h : Below W.drew.heap.size W.drew W') : Below W.heap.size W W' := ((Below.refl _ _).drew).trans h

set_option maxRecDepth 100000 in
set_option maxHeartbeats 1000000 in
theorem shapes3 (P R : Int) (hP : SI P) (hR : SI R) (w : World) :
    Calls Try.prog 3 #[.agg #[.int .i64 P, .int .i64 R]] w fun e w' => e = .returned (.bool true) ∧ Below w.heap.size w w' := by
  have F10 := Lib.hid (size10 P R hP hR)
  have F11 := Lib.hid (size11 P R hP hR)
  have F12 := Lib.hid (pack12 P R hP hR)
  have F13 := Lib.hid (pack13 P R hP hR)
  have F14 := Lib.hid (check14 P R hP hR)
  have F15 := Lib.hid (check15 P R hP hR)
  have s0 := Lib.hid (box_new w P R)
  generalize sizeV P R = z at *
  generalize packE P R = p at *
  generalize chkV P R = c at *
  clear hP hR
  go_enter Try.func3, Try.ntmps3
  go_wp2_with (first
    | (go_at_call 10; refine (F10.out _).mono ?_; rintro e w1 ⟨rfl, hb1⟩; have s1 := Lib.hid (box_below s0.out hb1); obtain ⟨q1a, q1b, _, _⟩ := s1.out; clear hb1)
    | (go_at_call 11; refine (F11.out _).mono ?_; rintro e w2 ⟨rfl, hb2⟩; have s2 := Lib.hid (box_below s1.out hb2); clear q1a q1b; obtain ⟨q2a, q2b, _, _⟩ := s2.out; clear hb2)
    | (go_at_call 12; refine (F12.out _).mono ?_; rintro e w3 ⟨rfl, hb3⟩; have s3 := Lib.hid (box_below s2.out hb3); clear q2a q2b; obtain ⟨q3a, q3b, _, _⟩ := s3.out; clear hb3)
    | (go_at_call 13; refine (F13.out _).mono ?_; rintro e w4 ⟨rfl, hb4⟩; have s4 := Lib.hid (box_below s3.out hb4); clear q3a q3b; obtain ⟨q4a, q4b, _, _⟩ := s4.out; clear hb4))
  go_region_held3 (fun W => W.cell? ⟨w.heap.size, 0, none⟩ = some (.int .i64 P) ∧ W.cell? ⟨w.heap.size, 1, none⟩ = some (.int .i64 R) ∧ w.heap.size < W.heap.size ∧ Below w.heap.size w W) (first | exact box_drew s4.out | exact s5.out | exact s6.out | exact s7.out)
    (first
      | (go_at_call 14; refine (F14.out _).mono ?_; rintro e w5 ⟨rfl, hb5⟩; have s5 := Lib.hid (box_below s4.out (below_drew_l hb5)))
      | (go_at_call 15; refine (F15.out _).mono ?_; rintro e w6 ⟨rfl, hb6⟩; have s6 := Lib.hid (box_below s5.out hb6))
      | (go_at_call 16; refine (awake16 _).mono ?_; rintro e w7 ⟨rfl, hb7⟩; have s7 := Lib.hid (box_below s6.out hb7)))
  go_wp2
  go_ret
  exact ⟨rfl, s7.out.2.2.2⟩

theorem far_box {b : Nat} {W W' : World} {P R : Int} (h : W.cell? ⟨b, 0, none⟩ = some (.int .i64 P) ∧ W.cell? ⟨b, 1, none⟩ = some (.int .i64 R)) (hb : Below W.heap.size W W') :
    W'.cell? ⟨b, 0, none⟩ = some (.int .i64 P) ∧ W'.cell? ⟨b, 1, none⟩ = some (.int .i64 R) :=
  ⟨(hb.cell (cell_lt h.1)).trans h.1, (hb.cell (cell_lt h.2)).trans h.2⟩
set_option maxRecDepth 100000 in
set_option maxHeartbeats 1000000 in
theorem words4 (v : Int) (hv : UI v) (w : World) :
    Calls Try.prog 4 #[.int .u64 v] w fun e w' => e = .returned (.bool true) ∧ Below w.heap.size w w' := by
  have F17 := Lib.hid (shp17 v hv)
  have F18 := Lib.hid (rshp18 v hv)
  have F19 := Lib.hid (tgt19 v hv)
  have F20 := Lib.hid (rtgt20 v hv)
  have F21 := Lib.hid (kind21 v hv)
  have F22 := Lib.hid (rkind22 v hv)
  clear hv
  generalize shpP v = P at *
  generalize shpR v = R at *
  generalize shpE v = E at *
  generalize tgtV v = a at *
  generalize tgtE v = f at *
  generalize kindV v = k at *
  have hq := eqS P R
  go_enter Try.func4, Try.ntmps4
  go_upto_region 5 with (first
    | (go_at_call 17; refine (F17.out _).mono ?_; rintro e w1 ⟨rfl, hb1⟩)
    | (go_at_call 18; refine (F18.out _).mono ?_; rintro e w2 ⟨rfl, hb2⟩)
    | (go_at_call 19; refine (F19.out _).mono ?_; rintro e w3 ⟨rfl, hb3⟩)
    | (go_at_call 20; refine (F20.out _).mono ?_; rintro e w' ⟨rfl, rfl⟩))
  have g1 := far_box (box_new w1 P R |> fun h => And.intro h.1 h.2.1) hb2
  have n2 := box_new w2 P R
  have g2 := Lib.hid (far_box (far_box g1 (alloc_below w2 (.cells #[.int .i64 P, .int .i64 R] 23))) hb3)
  have g3 := Lib.hid (far_box (And.intro n2.1 n2.2.1) hb3)
  have hB := Lib.hid (below_end (below_end (below_end (below_end hb1 (alloc_below _ (.cells #[.int .i64 P, .int .i64 R] 23))) hb2) (alloc_below _ (.cells #[.int .i64 P, .int .i64 R] 23))) hb3)
  clear hb1 hb2 hb3 g1 n2
  go_wp2_with (first
    | (go_at_call 21; refine (F21.out _).mono ?_; rintro e w4 ⟨rfl, hb4⟩; have hB4 := Lib.hid (below_end hB.out hb4); have g4 := Lib.hid (far_box g2.out hb4); have g5 := Lib.hid (far_box g3.out hb4); clear hb4)
    | (go_at_call 22; refine (F22.out _).mono ?_; rintro e w5 ⟨rfl, hb5⟩; have hB5 := Lib.hid (below_end hB4.out hb5); obtain ⟨g6, g7⟩ := far_box g4.out hb5; obtain ⟨g8, g9⟩ := far_box g5.out hb5; clear hb5)
    | (go_at_call 16; refine (awake16 _).mono ?_; rintro e w6 ⟨rfl, hb6⟩))
  go_ret
  exact ⟨rfl, below_end hB5.out hb6⟩
end Ytekhkgcdgkfflaa
end Go.Proofs
