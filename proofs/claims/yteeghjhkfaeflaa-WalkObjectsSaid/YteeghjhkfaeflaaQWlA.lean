/- The law WalkObjects answers true. -/
import Derived.Test.YteeghjhkfaeflaaQWkT
namespace Go.Proofs
namespace Yteeghjhkfaeflaa
open Go.RowKit

theorem same_ints (xs : List Int) (v1 v2 : Value) (W : World) (hm : xs.length ≤ 1000000) (h1 : IAt W v1 xs) (h2 : IAt W v2 xs) : Calls Try.prog 17 #[v1, v2] W fun e w' => e = .returned (.bool true) ∧ Below W.heap.size W w' := I21 xs v1 v2 W hm h1 h2
set_option maxRecDepth 100000 in
set_option maxHeartbeats 2000000 in
theorem objects3_far (A : Option Addr) (n cap : Nat) (x0 x1 a : Int) (w : World) (hf : farB n = true) :
    Calls Try.prog 3 #[.slice A n cap, .agg #[.int .i64 x0, .int .i64 x1], .int .i64 a] w fun e w' => e = .returned (.bool true) ∧ Below w.heap.size w w' := by
  have F := Lib.hid (fun W => far11 A n cap W)
  rw [hf] at F
  clear hf
  go_enter Try.func3, Try.ntmps3
  go_wp2_with (first
    | (go_at_call 11; refine (F.out _).mono ?_; rintro e w' ⟨rfl, rfl⟩)
    | (go_at_call 12; refine (awake12 _).mono ?_; rintro e w1 ⟨rfl, hb1⟩))
  exact bodyPost_ret (v := .bool true) (by simp [results, Try.f3, go_sem]) rfl ⟨rfl, below_end (alloc_below w _) hb1⟩
set_option maxRecDepth 100000 in
set_option maxHeartbeats 2000000 in
theorem objects3_go (v : Value) (ws : List Int) (x0 x1 a : Int) (w : World) (h : Ar w v ws) (hf : farB ws.length = false) :
    Calls Try.prog 3 #[v, .agg #[.int .i64 x0, .int .i64 x1], .int .i64 a] w fun e w' => e = .returned (.bool true) ∧ Below w.heap.size w w' := by
  have F13 := Lib.hid (fun W (hb : Below w.heap.size w W) => wcheck13 v ws x0 x1 W (h.below hb))
  have F14 := Lib.hid (fun W (hb : Below w.heap.size w W) => rwcheck14 v ws x0 x1 W (h.below hb))
  have F15 := Lib.hid (fun W (hb : Below w.heap.size w W) => (objects15 v ws x0 x1 W (h.below hb)).mono fun e w' h => h.own2)
  have F16 := Lib.hid (fun W (hb : Below w.heap.size w W) => (robjs16 v ws x0 x1 W (h.below hb)).mono fun e w' h => h.own2)
  have F18 := Lib.hid (fun W (hb : Below w.heap.size w W) => find18 v ws x0 x1 a W (h.below hb))
  have F19 := Lib.hid (fun W (hb : Below w.heap.size w W) => rfind19 v ws x0 x1 a W (h.below hb))
  have F20 := Lib.hid (fun W (hb : Below w.heap.size w W) => count20 v ws x0 x1 W (h.below hb))
  have F21 := Lib.hid (fun W (hb : Below w.heap.size w W) => rcount21 v ws x0 x1 W (h.below hb))
  have L := Lib.hid (Nat.le_trans (objs_len ws x0 x1) (show 102464 ≤ 1000000 by omega))
  obtain ⟨A, cap, rfl, -, -⟩ := h.open
  have F := Lib.hid (fun W => far11 A ws.length cap W)
  rw [hf] at F
  clear h hf
  unfold cntV at F20 F21
  generalize wcF ws x0 x1 = R1 at *
  generalize objsF ws x0 x1 = R2 at *
  generalize findF ws x0 x1 a = R3 at *
  generalize cntF ws x0 x1 = R4 at *
  generalize ws.length = lx at *
  obtain ⟨c1, e1⟩ := R1
  obtain ⟨l2, e2⟩ := R2
  obtain ⟨c3, e3⟩ := R3
  obtain ⟨⟨p4, q4, r4⟩, e4⟩ := R4
  dsimp only at F13 F14 F15 F16 F18 F19 F20 F21 L
  have n1 : (c1 != c1) = false := by simp
  have n2 : (e1 != e1) = false := by simp
  have n3 : (e2 != e2) = false := by simp
  have n4 : (c3 == c3) = true := by simp
  have n5 : (e3 == e3) = true := by simp
  have n6 : (e4 == e4) = true := by simp
  have EQ := fun W => Hd.eqC p4 q4 r4 W
  have N0 := Lib.hid (heap_alloc_new w (.cells #[.int .i64 x0, .int .i64 x1] 23))
  have B0 := Lib.hid (alloc_below w (.cells #[.int .i64 x0, .int .i64 x1] 23))
  go_enter Try.func3, Try.ntmps3
  go_upto_region 1 with (fail)
  generalize w.alloc (.cells #[.int .i64 x0, .int .i64 x1] 23) = W0 at *
  obtain ⟨t00, t01, -, -⟩ := two_free N0.out
  go_upto_region 4 with (first | (go_at_call 11; refine (F.out _).mono ?_; rintro e w' ⟨rfl, rfl⟩) | (go_at_call 13; refine (F13.out _ B0.out).mono ?_; rintro e w1 ⟨rfl, hb1⟩))
  clear t00 t01
  have N01 := Lib.hid (keep_heap hb1 N0.out)
  clear N0
  have B1 := Lib.hid (below_end B0.out hb1)
  clear B0 hb1
  obtain ⟨t00, t01, -, -⟩ := two_free N01.out
  go_upto_region 5 with (go_at_call 14; refine (F14.out _ B1.out).mono ?_; rintro e w2 ⟨rfl, hb2⟩)
  clear t00 t01
  have N02 := Lib.hid (keep_heap hb2 N01.out)
  clear N01
  have B2 := Lib.hid (below_end B1.out hb2)
  clear B1 hb2
  obtain ⟨t00, t01, -, -⟩ := two_free N02.out
  go_upto_region 6 with (go_at_call 15; refine (F15.out _ B2.out).mono ?_; rintro e w3 ⟨v3, rfl, X3, hb3⟩)
  clear t00 t01
  have N03 := Lib.hid (keep_heap hb3 N02.out)
  clear N02
  have B3 := Lib.hid (below_end B2.out hb3)
  clear B2 hb3
  obtain ⟨t00, t01, -, -⟩ := two_free N03.out
  go_upto_region 7 with (go_at_call 16; refine (F16.out _ B3.out).mono ?_; rintro e w4 ⟨v4, rfl, X4, hb4⟩)
  clear t00 t01
  have N04 := Lib.hid (keep_heap hb4 N03.out)
  clear N03
  have X3n := Lib.hid (X3.out.below hb4)
  clear X3
  have X3 := X3n
  clear X3n
  have B4 := Lib.hid (below_end B3.out hb4)
  clear B3 hb4
  obtain ⟨t00, t01, -, -⟩ := two_free N04.out
  have S := Lib.hid (same_ints l2 v3 v4 w4 L.out X3.out X4.out)
  go_upto_region 9 with (go_at_call 17; refine S.out.mono ?_; rintro e w5 ⟨rfl, hb5⟩)
  clear X3 X4
  clear t00 t01
  have N05 := Lib.hid (keep_heap hb5 N04.out)
  clear N04
  have B5 := Lib.hid (below_end B4.out hb5)
  clear B4 hb5
  obtain ⟨t00, t01, -, -⟩ := two_free N05.out
  go_upto_region 10 with (go_at_call 18; refine (F18.out _ B5.out).mono ?_; rintro e w6 ⟨rfl, hb6⟩)
  clear t00 t01
  have N06 := Lib.hid (keep_heap hb6 N05.out)
  clear N05
  have B6 := Lib.hid (below_end B5.out hb6)
  clear B5 hb6
  obtain ⟨t00, t01, -, -⟩ := two_free N06.out
  go_upto_region 11 with (go_at_call 19; refine (F19.out _ B6.out).mono ?_; rintro e w7 ⟨rfl, hb7⟩)
  clear t00 t01
  have N07 := Lib.hid (keep_heap hb7 N06.out)
  clear N06
  have B7 := Lib.hid (below_end B6.out hb7)
  clear B6 hb7
  obtain ⟨t00, t01, -, -⟩ := two_free N07.out
  go_upto_region 12 with (go_at_call 20; refine (F20.out _ B7.out).mono ?_; rintro e w8 ⟨rfl, hb8⟩)
  have M8 := Lib.hid (heap_alloc_new w8 (.cells #[.int .i64 p4, .int .i64 q4, .int .i64 r4] 35))
  have hb9 := hb8.trans ((alloc_below w8 (.cells #[.int .i64 p4, .int .i64 q4, .int .i64 r4] 35)).mono hb8.size)
  clear hb8
  generalize w8.heap.size = g8 at *
  generalize w8.alloc (.cells #[.int .i64 p4, .int .i64 q4, .int .i64 r4] 35) = w9 at *
  clear t00 t01
  have N09 := Lib.hid (keep_heap hb9 N07.out)
  clear N07
  have B9 := Lib.hid (below_end B7.out hb9)
  clear B7 hb9
  obtain ⟨t00, t01, -, -⟩ := two_free N09.out
  go_upto_region 13 with (go_at_call 21; refine (F21.out _ B9.out).mono ?_; rintro e w10 ⟨rfl, hb10⟩)
  have M10 := Lib.hid (heap_alloc_new w10 (.cells #[.int .i64 p4, .int .i64 q4, .int .i64 r4] 35))
  have hb11 := hb10.trans ((alloc_below w10 (.cells #[.int .i64 p4, .int .i64 q4, .int .i64 r4] 35)).mono hb10.size)
  clear hb10
  generalize w10.heap.size = g10 at *
  generalize w10.alloc (.cells #[.int .i64 p4, .int .i64 q4, .int .i64 r4] 35) = w11 at *
  obtain ⟨m0, m1, m2⟩ := three_cells (keep_heap hb11 M8.out)
  obtain ⟨m3, m4, m5⟩ := three_cells M10.out
  clear t00 t01
  have N011 := Lib.hid (keep_heap hb11 N09.out)
  clear N09
  have B11 := Lib.hid (below_end B9.out hb11)
  clear B9 hb11
  obtain ⟨t00, t01, -, -⟩ := two_free N011.out
  go_wp2_with (go_at_call 12; refine (awake12 _).mono ?_; rintro e w12 ⟨rfl, hb12⟩)
  exact bodyPost_ret (v := .bool true) (by simp [results, Try.f3, go_sem]) rfl ⟨rfl, below_end B11.out hb12⟩
theorem objects3 (v : Value) (ws : List Int) (x0 x1 a : Int) (w : World) (h : Ar w v ws) :
    Calls Try.prog 3 #[v, .agg #[.int .i64 x0, .int .i64 x1], .int .i64 a] w fun e w' => e = .returned (.bool true) ∧ Below w.heap.size w w' := by
  cases hf : farB ws.length with
  | true =>
    obtain ⟨A, cap, rfl, -, -⟩ := h.open
    exact objects3_far A ws.length cap x0 x1 a w hf
  | false => exact objects3_go v ws x0 x1 a w h hf
end Yteeghjhkfaeflaa
end Go.Proofs
