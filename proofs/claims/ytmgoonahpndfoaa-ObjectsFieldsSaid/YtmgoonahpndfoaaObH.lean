/- Alike, the program's. -/
import Derived.Test.YtmgoonahpndfoaaObG
namespace Go.Proofs
namespace Ytmgoonahpndfoaa
open Go.RowKit

set_option maxRecDepth 100000 in
set_option maxHeartbeats 1000000 in
theorem alike28_ee (A : Option Addr) (n cap : Nat) (w : World) (a E1 : Int) (hE1 : E1 ≠ 0) (F1 : Hid (∀ W, Below w.heap.size w W → Calls Try.prog 48 #[.slice A n cap, .int .i64 a] W fun e w' => e = .returned (fErr E1) ∧ Below W.heap.size W w')) (b E2 : Int) (hE2 : E2 ≠ 0) (F2 : Hid (∀ W, Below w.heap.size w W → Calls Try.prog 48 #[.slice A n cap, .int .i64 b] W fun e w' => e = .returned (fErr E2) ∧ Below W.heap.size W w')) :
    Calls Try.prog 28 #[.slice A n cap, .int .i64 a, .int .i64 b] w fun e w' => e = .returned (.tuple #[.bool false, .int .i64 E1]) ∧ Below w.heap.size w w' := by
  unfold fErr at F1
  unfold fErr at F2
  have q1 : (E1 != 0) = true := by simpa using hE1
  have qq : (if E1 = 0 then E2 else E1) = E1 := if_neg hE1
  have O := Lib.hid (fun g W hg => or40_any g E1 E2 W hg)
  rw [qq] at O
  clear qq
  clear hE1
  clear hE2
  go_enter Try.func28, Try.ntmps28
  go_upto_region 2 with (go_at_call 48; refine (F1.out _ (Below.refl _ _)).mono ?_; rintro e w1 ⟨rfl, hb1⟩)
  have O1 := Lib.hid (show ORow _ w1.heap.size #[.int .i64 0, .int .i64 0, .int .i64 0, .slice none 0 0, .int .i64 0, .slice none 0 0, .slice none 0 0, .int .i64 0, .slice none 0 0] from heap_alloc_new w1 (.cells #[.int .i64 0, .int .i64 0, .int .i64 0, .slice none 0 0, .int .i64 0, .slice none 0 0, .slice none 0 0, .int .i64 0, .slice none 0 0] 78))
  have B1 := Lib.hid (below_end hb1 (alloc_below w1 (.cells #[.int .i64 0, .int .i64 0, .int .i64 0, .slice none 0 0, .int .i64 0, .slice none 0 0, .slice none 0 0, .int .i64 0, .slice none 0 0] 78)))
  clear hb1
  generalize w1.heap.size = g1 at *
  generalize w1.alloc (.cells #[.int .i64 0, .int .i64 0, .int .i64 0, .slice none 0 0, .int .i64 0, .slice none 0 0, .slice none 0 0, .int .i64 0, .slice none 0 0] 78) = V1 at *
  go_upto_region 3 with (go_at_call 48; refine (F2.out _ B1.out).mono ?_; rintro e w2 ⟨rfl, hb2⟩)
  have O2 := Lib.hid (show ORow _ w2.heap.size #[.int .i64 0, .int .i64 0, .int .i64 0, .slice none 0 0, .int .i64 0, .slice none 0 0, .slice none 0 0, .int .i64 0, .slice none 0 0] from heap_alloc_new w2 (.cells #[.int .i64 0, .int .i64 0, .int .i64 0, .slice none 0 0, .int .i64 0, .slice none 0 0, .slice none 0 0, .int .i64 0, .slice none 0 0] 78))
  have hb := alloc_below w2 (.cells #[.int .i64 0, .int .i64 0, .int .i64 0, .slice none 0 0, .int .i64 0, .slice none 0 0, .slice none 0 0, .int .i64 0, .slice none 0 0] 78)
  have B2 := Lib.hid (below_end (below_end B1.out hb2) hb)
  have B12 := Lib.hid (below_end hb2 hb)
  have O1' := Lib.hid ((O1.out.below hb2).below hb)
  clear hb2 hb O1 B1 F1 F2
  generalize w2.heap.size = g2 at *
  generalize w2.alloc (.cells #[.int .i64 0, .int .i64 0, .int .i64 0, .slice none 0 0, .int .i64 0, .slice none 0 0, .slice none 0 0, .int .i64 0, .slice none 0 0] 78) = V2 at *
  go_upto_region 4 with (go_at_call 40; refine (O.out _ _ (heap_alloc_new V2 _)).mono ?_; rintro e w' ⟨rfl, rfl⟩)
  have hb := alloc_below V2 (.cells #[.int .i64 E1, .int .i64 E2] 27)
  have B3 := Lib.hid (below_end B2.out hb)
  have B13 := Lib.hid (below_end B12.out hb)
  obtain ⟨s0, s1, s2, s3, s4, s5, s6, s7, s8⟩ := (O1'.out.below hb).cells
  obtain ⟨t0, t1, t2, t3, t4, t5, t6, t7, t8⟩ := (O2.out.below hb).cells
  clear hb B2 O1' O2 O
  generalize V2.alloc (.cells #[.int .i64 E1, .int .i64 E2] 27) = V3 at *
  go_wp2
  exact bodyPost_ret (v := .tuple #[.bool false, .int .i64 E1]) (by simp [results, Try.f28, go_sem]) rfl ⟨rfl, B3.out⟩
set_option maxRecDepth 100000 in
set_option maxHeartbeats 1000000 in
theorem alike28_eo (A : Option Addr) (n cap : Nat) (w : World) (a E1 : Int) (hE1 : E1 ≠ 0) (F1 : Hid (∀ W, Below w.heap.size w W → Calls Try.prog 48 #[.slice A n cap, .int .i64 a] W fun e w' => e = .returned (fErr E1) ∧ Below W.heap.size W w')) (k2 P2 R2 : Nat) (z2 : List Int) (F2 : Hid (∀ W, Below w.heap.size w W → Calls Try.prog 48 #[.slice A n cap, .int .i64 (k2 : Int)] W fun e w' => ∃ a1 a2, e = .returned (.tuple #[.agg (objV P2 R2 (1 + (P2 : Int) + R2) A n cap ((k2 : Int) + 1) a1 P2 P2 A n cap ((k2 : Int) + 1 + (P2 : Int)) a2 R2 R2), .int .i64 0]) ∧ Hid (WAt W (.slice a2 R2 R2) z2) ∧ Below W.heap.size W w')) :
    Calls Try.prog 28 #[.slice A n cap, .int .i64 a, .int .i64 (k2 : Int)] w fun e w' => e = .returned (.tuple #[.bool false, .int .i64 E1]) ∧ Below w.heap.size w w' := by
  unfold fErr at F1
  unfold objV at F2
  have q1 : (E1 != 0) = true := by simpa using hE1
  have qq : (if E1 = 0 then 0 else E1) = E1 := if_neg hE1
  have O := Lib.hid (fun g W hg => or40_any g E1 0 W hg)
  rw [qq] at O
  clear qq
  clear hE1
  go_enter Try.func28, Try.ntmps28
  go_upto_region 2 with (go_at_call 48; refine (F1.out _ (Below.refl _ _)).mono ?_; rintro e w1 ⟨rfl, hb1⟩)
  have O1 := Lib.hid (show ORow _ w1.heap.size #[.int .i64 0, .int .i64 0, .int .i64 0, .slice none 0 0, .int .i64 0, .slice none 0 0, .slice none 0 0, .int .i64 0, .slice none 0 0] from heap_alloc_new w1 (.cells #[.int .i64 0, .int .i64 0, .int .i64 0, .slice none 0 0, .int .i64 0, .slice none 0 0, .slice none 0 0, .int .i64 0, .slice none 0 0] 78))
  have B1 := Lib.hid (below_end hb1 (alloc_below w1 (.cells #[.int .i64 0, .int .i64 0, .int .i64 0, .slice none 0 0, .int .i64 0, .slice none 0 0, .slice none 0 0, .int .i64 0, .slice none 0 0] 78)))
  clear hb1
  generalize w1.heap.size = g1 at *
  generalize w1.alloc (.cells #[.int .i64 0, .int .i64 0, .int .i64 0, .slice none 0 0, .int .i64 0, .slice none 0 0, .slice none 0 0, .int .i64 0, .slice none 0 0] 78) = V1 at *
  go_upto_region 3 with (go_at_call 48; refine (F2.out _ B1.out).mono ?_; rintro e w2 ⟨x2, y2, rfl, X2, hb2⟩)
  have O2 := Lib.hid (show ORow _ w2.heap.size #[.int .i64 P2, .int .i64 R2, .int .i64 (1 + (P2 : Int) + R2), .slice A n cap, .int .i64 ((k2 : Int) + 1), .slice x2 P2 P2, .slice A n cap, .int .i64 ((k2 : Int) + 1 + (P2 : Int)), .slice y2 R2 R2] from heap_alloc_new w2 (.cells #[.int .i64 P2, .int .i64 R2, .int .i64 (1 + (P2 : Int) + R2), .slice A n cap, .int .i64 ((k2 : Int) + 1), .slice x2 P2 P2, .slice A n cap, .int .i64 ((k2 : Int) + 1 + (P2 : Int)), .slice y2 R2 R2] 78))
  have hb := alloc_below w2 (.cells #[.int .i64 P2, .int .i64 R2, .int .i64 (1 + (P2 : Int) + R2), .slice A n cap, .int .i64 ((k2 : Int) + 1), .slice x2 P2 P2, .slice A n cap, .int .i64 ((k2 : Int) + 1 + (P2 : Int)), .slice y2 R2 R2] 78)
  have B2 := Lib.hid (below_end (below_end B1.out hb2) hb)
  have B12 := Lib.hid (below_end hb2 hb)
  have O1' := Lib.hid ((O1.out.below hb2).below hb)
  clear hb2 hb O1 B1 F1 F2
  generalize w2.heap.size = g2 at *
  generalize w2.alloc (.cells #[.int .i64 P2, .int .i64 R2, .int .i64 (1 + (P2 : Int) + R2), .slice A n cap, .int .i64 ((k2 : Int) + 1), .slice x2 P2 P2, .slice A n cap, .int .i64 ((k2 : Int) + 1 + (P2 : Int)), .slice y2 R2 R2] 78) = V2 at *
  go_upto_region 4 with (go_at_call 40; refine (O.out _ _ (heap_alloc_new V2 _)).mono ?_; rintro e w' ⟨rfl, rfl⟩)
  have hb := alloc_below V2 (.cells #[.int .i64 E1, .int .i64 0] 27)
  have B3 := Lib.hid (below_end B2.out hb)
  have B13 := Lib.hid (below_end B12.out hb)
  obtain ⟨s0, s1, s2, s3, s4, s5, s6, s7, s8⟩ := (O1'.out.below hb).cells
  obtain ⟨t0, t1, t2, t3, t4, t5, t6, t7, t8⟩ := (O2.out.below hb).cells
  clear hb B2 O1' O2 O
  generalize V2.alloc (.cells #[.int .i64 E1, .int .i64 0] 27) = V3 at *
  go_wp2
  exact bodyPost_ret (v := .tuple #[.bool false, .int .i64 E1]) (by simp [results, Try.f28, go_sem]) rfl ⟨rfl, B3.out⟩
set_option maxRecDepth 100000 in
set_option maxHeartbeats 1000000 in
theorem alike28_oe (A : Option Addr) (n cap : Nat) (w : World) (k1 P1 R1 : Nat) (z1 : List Int) (F1 : Hid (∀ W, Below w.heap.size w W → Calls Try.prog 48 #[.slice A n cap, .int .i64 (k1 : Int)] W fun e w' => ∃ a1 a2, e = .returned (.tuple #[.agg (objV P1 R1 (1 + (P1 : Int) + R1) A n cap ((k1 : Int) + 1) a1 P1 P1 A n cap ((k1 : Int) + 1 + (P1 : Int)) a2 R1 R1), .int .i64 0]) ∧ Hid (WAt W (.slice a2 R1 R1) z1) ∧ Below W.heap.size W w')) (b E2 : Int) (hE2 : E2 ≠ 0) (F2 : Hid (∀ W, Below w.heap.size w W → Calls Try.prog 48 #[.slice A n cap, .int .i64 b] W fun e w' => e = .returned (fErr E2) ∧ Below W.heap.size W w')) :
    Calls Try.prog 28 #[.slice A n cap, .int .i64 (k1 : Int), .int .i64 b] w fun e w' => e = .returned (.tuple #[.bool false, .int .i64 E2]) ∧ Below w.heap.size w w' := by
  unfold objV at F1
  unfold fErr at F2
  have q2 : (E2 != 0) = true := by simpa using hE2
  have qq : (if (0 : Int) = 0 then E2 else 0) = E2 := if_pos rfl
  have O := Lib.hid (fun g W hg => or40_any g 0 E2 W hg)
  rw [qq] at O
  clear qq
  clear hE2
  go_enter Try.func28, Try.ntmps28
  go_upto_region 2 with (go_at_call 48; refine (F1.out _ (Below.refl _ _)).mono ?_; rintro e w1 ⟨x1, y1, rfl, X1, hb1⟩)
  have O1 := Lib.hid (show ORow _ w1.heap.size #[.int .i64 P1, .int .i64 R1, .int .i64 (1 + (P1 : Int) + R1), .slice A n cap, .int .i64 ((k1 : Int) + 1), .slice x1 P1 P1, .slice A n cap, .int .i64 ((k1 : Int) + 1 + (P1 : Int)), .slice y1 R1 R1] from heap_alloc_new w1 (.cells #[.int .i64 P1, .int .i64 R1, .int .i64 (1 + (P1 : Int) + R1), .slice A n cap, .int .i64 ((k1 : Int) + 1), .slice x1 P1 P1, .slice A n cap, .int .i64 ((k1 : Int) + 1 + (P1 : Int)), .slice y1 R1 R1] 78))
  have B1 := Lib.hid (below_end hb1 (alloc_below w1 (.cells #[.int .i64 P1, .int .i64 R1, .int .i64 (1 + (P1 : Int) + R1), .slice A n cap, .int .i64 ((k1 : Int) + 1), .slice x1 P1 P1, .slice A n cap, .int .i64 ((k1 : Int) + 1 + (P1 : Int)), .slice y1 R1 R1] 78)))
  clear hb1
  generalize w1.heap.size = g1 at *
  generalize w1.alloc (.cells #[.int .i64 P1, .int .i64 R1, .int .i64 (1 + (P1 : Int) + R1), .slice A n cap, .int .i64 ((k1 : Int) + 1), .slice x1 P1 P1, .slice A n cap, .int .i64 ((k1 : Int) + 1 + (P1 : Int)), .slice y1 R1 R1] 78) = V1 at *
  go_upto_region 3 with (go_at_call 48; refine (F2.out _ B1.out).mono ?_; rintro e w2 ⟨rfl, hb2⟩)
  have O2 := Lib.hid (show ORow _ w2.heap.size #[.int .i64 0, .int .i64 0, .int .i64 0, .slice none 0 0, .int .i64 0, .slice none 0 0, .slice none 0 0, .int .i64 0, .slice none 0 0] from heap_alloc_new w2 (.cells #[.int .i64 0, .int .i64 0, .int .i64 0, .slice none 0 0, .int .i64 0, .slice none 0 0, .slice none 0 0, .int .i64 0, .slice none 0 0] 78))
  have hb := alloc_below w2 (.cells #[.int .i64 0, .int .i64 0, .int .i64 0, .slice none 0 0, .int .i64 0, .slice none 0 0, .slice none 0 0, .int .i64 0, .slice none 0 0] 78)
  have B2 := Lib.hid (below_end (below_end B1.out hb2) hb)
  have B12 := Lib.hid (below_end hb2 hb)
  have O1' := Lib.hid ((O1.out.below hb2).below hb)
  clear hb2 hb O1 B1 F1 F2
  generalize w2.heap.size = g2 at *
  generalize w2.alloc (.cells #[.int .i64 0, .int .i64 0, .int .i64 0, .slice none 0 0, .int .i64 0, .slice none 0 0, .slice none 0 0, .int .i64 0, .slice none 0 0] 78) = V2 at *
  go_upto_region 4 with (go_at_call 40; refine (O.out _ _ (heap_alloc_new V2 _)).mono ?_; rintro e w' ⟨rfl, rfl⟩)
  have hb := alloc_below V2 (.cells #[.int .i64 0, .int .i64 E2] 27)
  have B3 := Lib.hid (below_end B2.out hb)
  have B13 := Lib.hid (below_end B12.out hb)
  obtain ⟨s0, s1, s2, s3, s4, s5, s6, s7, s8⟩ := (O1'.out.below hb).cells
  obtain ⟨t0, t1, t2, t3, t4, t5, t6, t7, t8⟩ := (O2.out.below hb).cells
  clear hb B2 O1' O2 O
  generalize V2.alloc (.cells #[.int .i64 0, .int .i64 E2] 27) = V3 at *
  go_wp2
  exact bodyPost_ret (v := .tuple #[.bool false, .int .i64 E2]) (by simp [results, Try.f28, go_sem]) rfl ⟨rfl, B3.out⟩
set_option maxRecDepth 100000 in
set_option maxHeartbeats 1000000 in
theorem alike28_oot (A : Option Addr) (n cap : Nat) (w : World) (k1 P1 R1 : Nat) (z1 : List Int) (F1 : Hid (∀ W, Below w.heap.size w W → Calls Try.prog 48 #[.slice A n cap, .int .i64 (k1 : Int)] W fun e w' => ∃ a1 a2, e = .returned (.tuple #[.agg (objV P1 R1 (1 + (P1 : Int) + R1) A n cap ((k1 : Int) + 1) a1 P1 P1 A n cap ((k1 : Int) + 1 + (P1 : Int)) a2 R1 R1), .int .i64 0]) ∧ Hid (WAt W (.slice a2 R1 R1) z1) ∧ Below W.heap.size W w')) (k2 P2 R2 : Nat) (z2 : List Int) (F2 : Hid (∀ W, Below w.heap.size w W → Calls Try.prog 48 #[.slice A n cap, .int .i64 (k2 : Int)] W fun e w' => ∃ a1 a2, e = .returned (.tuple #[.agg (objV P2 R2 (1 + (P2 : Int) + R2) A n cap ((k2 : Int) + 1) a1 P2 P2 A n cap ((k2 : Int) + 1 + (P2 : Int)) a2 R2 R2), .int .i64 0]) ∧ Hid (WAt W (.slice a2 R2 R2) z2) ∧ Below W.heap.size W w')) (hs : Hd.same2 P1 R1 P2 R2 = true) (hz : z1.length ≤ 1000000) (d : Bool) (hd : decide (z1 = z2) = d) :
    Calls Try.prog 28 #[.slice A n cap, .int .i64 (k1 : Int), .int .i64 (k2 : Int)] w fun e w' => e = .returned (.tuple #[.bool d, .int .i64 0]) ∧ Below w.heap.size w w' := by
  unfold objV at F1
  unfold objV at F2
  have qq : (if (0 : Int) = 0 then (0 : Int) else 0) = 0 := if_pos rfl
  have O := Lib.hid (fun g W hg => or40_any g 0 0 W hg)
  rw [qq] at O
  clear qq
  go_enter Try.func28, Try.ntmps28
  go_upto_region 2 with (go_at_call 48; refine (F1.out _ (Below.refl _ _)).mono ?_; rintro e w1 ⟨x1, y1, rfl, X1, hb1⟩)
  have O1 := Lib.hid (show ORow _ w1.heap.size #[.int .i64 P1, .int .i64 R1, .int .i64 (1 + (P1 : Int) + R1), .slice A n cap, .int .i64 ((k1 : Int) + 1), .slice x1 P1 P1, .slice A n cap, .int .i64 ((k1 : Int) + 1 + (P1 : Int)), .slice y1 R1 R1] from heap_alloc_new w1 (.cells #[.int .i64 P1, .int .i64 R1, .int .i64 (1 + (P1 : Int) + R1), .slice A n cap, .int .i64 ((k1 : Int) + 1), .slice x1 P1 P1, .slice A n cap, .int .i64 ((k1 : Int) + 1 + (P1 : Int)), .slice y1 R1 R1] 78))
  have B1 := Lib.hid (below_end hb1 (alloc_below w1 (.cells #[.int .i64 P1, .int .i64 R1, .int .i64 (1 + (P1 : Int) + R1), .slice A n cap, .int .i64 ((k1 : Int) + 1), .slice x1 P1 P1, .slice A n cap, .int .i64 ((k1 : Int) + 1 + (P1 : Int)), .slice y1 R1 R1] 78)))
  clear hb1
  generalize w1.heap.size = g1 at *
  generalize w1.alloc (.cells #[.int .i64 P1, .int .i64 R1, .int .i64 (1 + (P1 : Int) + R1), .slice A n cap, .int .i64 ((k1 : Int) + 1), .slice x1 P1 P1, .slice A n cap, .int .i64 ((k1 : Int) + 1 + (P1 : Int)), .slice y1 R1 R1] 78) = V1 at *
  go_upto_region 3 with (go_at_call 48; refine (F2.out _ B1.out).mono ?_; rintro e w2 ⟨x2, y2, rfl, X2, hb2⟩)
  have O2 := Lib.hid (show ORow _ w2.heap.size #[.int .i64 P2, .int .i64 R2, .int .i64 (1 + (P2 : Int) + R2), .slice A n cap, .int .i64 ((k2 : Int) + 1), .slice x2 P2 P2, .slice A n cap, .int .i64 ((k2 : Int) + 1 + (P2 : Int)), .slice y2 R2 R2] from heap_alloc_new w2 (.cells #[.int .i64 P2, .int .i64 R2, .int .i64 (1 + (P2 : Int) + R2), .slice A n cap, .int .i64 ((k2 : Int) + 1), .slice x2 P2 P2, .slice A n cap, .int .i64 ((k2 : Int) + 1 + (P2 : Int)), .slice y2 R2 R2] 78))
  have hb := alloc_below w2 (.cells #[.int .i64 P2, .int .i64 R2, .int .i64 (1 + (P2 : Int) + R2), .slice A n cap, .int .i64 ((k2 : Int) + 1), .slice x2 P2 P2, .slice A n cap, .int .i64 ((k2 : Int) + 1 + (P2 : Int)), .slice y2 R2 R2] 78)
  have B2 := Lib.hid (below_end (below_end B1.out hb2) hb)
  have B12 := Lib.hid (below_end hb2 hb)
  have O1' := Lib.hid ((O1.out.below hb2).below hb)
  clear hb2 hb O1 B1 F1 F2
  generalize w2.heap.size = g2 at *
  generalize w2.alloc (.cells #[.int .i64 P2, .int .i64 R2, .int .i64 (1 + (P2 : Int) + R2), .slice A n cap, .int .i64 ((k2 : Int) + 1), .slice x2 P2 P2, .slice A n cap, .int .i64 ((k2 : Int) + 1 + (P2 : Int)), .slice y2 R2 R2] 78) = V2 at *
  go_upto_region 4 with (go_at_call 40; refine (O.out _ _ (heap_alloc_new V2 _)).mono ?_; rintro e w' ⟨rfl, rfl⟩)
  have hb := alloc_below V2 (.cells #[.int .i64 0, .int .i64 0] 27)
  have B3 := Lib.hid (below_end B2.out hb)
  have B13 := Lib.hid (below_end B12.out hb)
  obtain ⟨s0, s1, s2, s3, s4, s5, s6, s7, s8⟩ := (O1'.out.below hb).cells
  obtain ⟨t0, t1, t2, t3, t4, t5, t6, t7, t8⟩ := (O2.out.below hb).cells
  clear hb B2 O1' O2 O
  generalize V2.alloc (.cells #[.int .i64 0, .int .i64 0] 27) = V3 at *
  have EQ := fun W => Hd.eql23 P1 R1 P2 R2 W
  rw [hs] at EQ
  clear hs
  have G := Lib.hid (equal55 A n cap ((k1 : Int) + 1 + (P1 : Int)) ((k2 : Int) + 1 + (P2 : Int)) y1 y2 R1 R2 z1 z2 hz V3 (X1.out.below B3.out) (X2.out.below B13.out))
  unfold fv at G
  rw [hd] at G
  clear hd
  go_wp2_with (go_at_call 55; refine G.out.mono ?_; rintro e w5 ⟨rfl, hb5⟩)
  exact bodyPost_ret (v := .tuple #[.bool d, .int .i64 0]) (by simp [results, Try.f28, go_sem]) rfl ⟨rfl, below_end B3.out hb5⟩
set_option maxRecDepth 100000 in
set_option maxHeartbeats 1000000 in
theorem alike28_oof (A : Option Addr) (n cap : Nat) (w : World) (k1 P1 R1 : Nat) (z1 : List Int) (F1 : Hid (∀ W, Below w.heap.size w W → Calls Try.prog 48 #[.slice A n cap, .int .i64 (k1 : Int)] W fun e w' => ∃ a1 a2, e = .returned (.tuple #[.agg (objV P1 R1 (1 + (P1 : Int) + R1) A n cap ((k1 : Int) + 1) a1 P1 P1 A n cap ((k1 : Int) + 1 + (P1 : Int)) a2 R1 R1), .int .i64 0]) ∧ Hid (WAt W (.slice a2 R1 R1) z1) ∧ Below W.heap.size W w')) (k2 P2 R2 : Nat) (z2 : List Int) (F2 : Hid (∀ W, Below w.heap.size w W → Calls Try.prog 48 #[.slice A n cap, .int .i64 (k2 : Int)] W fun e w' => ∃ a1 a2, e = .returned (.tuple #[.agg (objV P2 R2 (1 + (P2 : Int) + R2) A n cap ((k2 : Int) + 1) a1 P2 P2 A n cap ((k2 : Int) + 1 + (P2 : Int)) a2 R2 R2), .int .i64 0]) ∧ Hid (WAt W (.slice a2 R2 R2) z2) ∧ Below W.heap.size W w')) (hs : Hd.same2 P1 R1 P2 R2 = false) :
    Calls Try.prog 28 #[.slice A n cap, .int .i64 (k1 : Int), .int .i64 (k2 : Int)] w fun e w' => e = .returned (.tuple #[.bool false, .int .i64 0]) ∧ Below w.heap.size w w' := by
  unfold objV at F1
  unfold objV at F2
  have qq : (if (0 : Int) = 0 then (0 : Int) else 0) = 0 := if_pos rfl
  have O := Lib.hid (fun g W hg => or40_any g 0 0 W hg)
  rw [qq] at O
  clear qq
  go_enter Try.func28, Try.ntmps28
  go_upto_region 2 with (go_at_call 48; refine (F1.out _ (Below.refl _ _)).mono ?_; rintro e w1 ⟨x1, y1, rfl, X1, hb1⟩)
  have O1 := Lib.hid (show ORow _ w1.heap.size #[.int .i64 P1, .int .i64 R1, .int .i64 (1 + (P1 : Int) + R1), .slice A n cap, .int .i64 ((k1 : Int) + 1), .slice x1 P1 P1, .slice A n cap, .int .i64 ((k1 : Int) + 1 + (P1 : Int)), .slice y1 R1 R1] from heap_alloc_new w1 (.cells #[.int .i64 P1, .int .i64 R1, .int .i64 (1 + (P1 : Int) + R1), .slice A n cap, .int .i64 ((k1 : Int) + 1), .slice x1 P1 P1, .slice A n cap, .int .i64 ((k1 : Int) + 1 + (P1 : Int)), .slice y1 R1 R1] 78))
  have B1 := Lib.hid (below_end hb1 (alloc_below w1 (.cells #[.int .i64 P1, .int .i64 R1, .int .i64 (1 + (P1 : Int) + R1), .slice A n cap, .int .i64 ((k1 : Int) + 1), .slice x1 P1 P1, .slice A n cap, .int .i64 ((k1 : Int) + 1 + (P1 : Int)), .slice y1 R1 R1] 78)))
  clear hb1
  generalize w1.heap.size = g1 at *
  generalize w1.alloc (.cells #[.int .i64 P1, .int .i64 R1, .int .i64 (1 + (P1 : Int) + R1), .slice A n cap, .int .i64 ((k1 : Int) + 1), .slice x1 P1 P1, .slice A n cap, .int .i64 ((k1 : Int) + 1 + (P1 : Int)), .slice y1 R1 R1] 78) = V1 at *
  go_upto_region 3 with (go_at_call 48; refine (F2.out _ B1.out).mono ?_; rintro e w2 ⟨x2, y2, rfl, X2, hb2⟩)
  have O2 := Lib.hid (show ORow _ w2.heap.size #[.int .i64 P2, .int .i64 R2, .int .i64 (1 + (P2 : Int) + R2), .slice A n cap, .int .i64 ((k2 : Int) + 1), .slice x2 P2 P2, .slice A n cap, .int .i64 ((k2 : Int) + 1 + (P2 : Int)), .slice y2 R2 R2] from heap_alloc_new w2 (.cells #[.int .i64 P2, .int .i64 R2, .int .i64 (1 + (P2 : Int) + R2), .slice A n cap, .int .i64 ((k2 : Int) + 1), .slice x2 P2 P2, .slice A n cap, .int .i64 ((k2 : Int) + 1 + (P2 : Int)), .slice y2 R2 R2] 78))
  have hb := alloc_below w2 (.cells #[.int .i64 P2, .int .i64 R2, .int .i64 (1 + (P2 : Int) + R2), .slice A n cap, .int .i64 ((k2 : Int) + 1), .slice x2 P2 P2, .slice A n cap, .int .i64 ((k2 : Int) + 1 + (P2 : Int)), .slice y2 R2 R2] 78)
  have B2 := Lib.hid (below_end (below_end B1.out hb2) hb)
  have B12 := Lib.hid (below_end hb2 hb)
  have O1' := Lib.hid ((O1.out.below hb2).below hb)
  clear hb2 hb O1 B1 F1 F2
  generalize w2.heap.size = g2 at *
  generalize w2.alloc (.cells #[.int .i64 P2, .int .i64 R2, .int .i64 (1 + (P2 : Int) + R2), .slice A n cap, .int .i64 ((k2 : Int) + 1), .slice x2 P2 P2, .slice A n cap, .int .i64 ((k2 : Int) + 1 + (P2 : Int)), .slice y2 R2 R2] 78) = V2 at *
  go_upto_region 4 with (go_at_call 40; refine (O.out _ _ (heap_alloc_new V2 _)).mono ?_; rintro e w' ⟨rfl, rfl⟩)
  have hb := alloc_below V2 (.cells #[.int .i64 0, .int .i64 0] 27)
  have B3 := Lib.hid (below_end B2.out hb)
  have B13 := Lib.hid (below_end B12.out hb)
  obtain ⟨s0, s1, s2, s3, s4, s5, s6, s7, s8⟩ := (O1'.out.below hb).cells
  obtain ⟨t0, t1, t2, t3, t4, t5, t6, t7, t8⟩ := (O2.out.below hb).cells
  clear hb B2 O1' O2 O
  generalize V2.alloc (.cells #[.int .i64 0, .int .i64 0] 27) = V3 at *
  have EQ := fun W => Hd.eql23 P1 R1 P2 R2 W
  rw [hs] at EQ
  clear hs
  go_wp2
  exact bodyPost_ret (v := .tuple #[.bool false, .int .i64 0]) (by simp [results, Try.f28, go_sem]) rfl ⟨rfl, B3.out⟩
theorem alike28 (v : Value) (ws : List Int) (a b : Int) (w : World) (h : Ar w v ws) :
    Calls Try.prog 28 #[v, .int .i64 a, .int .i64 b] w fun e w' => e = .returned (.tuple #[.bool (alkF ws a b).1, .int .i64 (alkF ws a b).2]) ∧ Below w.heap.size w w' := by
  obtain ⟨A, cap, rfl, h1, h2⟩ := h.open
  have FE := fun (a E : Int) (hE : E ≠ 0) (e : objF ws a = (0, 0, E)) => Lib.hid (fun W hb => find48_err A ws cap a E W (WAt.below (W := w) h1 hb) h.len h.ui e hE)
  have FO : ∀ (k P R : Nat) (ho : ObOk ws k P R), Hid (∀ W, Below w.heap.size w W → Calls Try.prog 48 #[.slice A ws.length cap, .int .i64 (k : Int)] W fun e w' => ∃ a1 a2, e = .returned (.tuple #[.agg (objV P R (1 + (P : Int) + R) A ws.length cap ((k : Int) + 1) a1 P P A ws.length cap ((k : Int) + 1 + (P : Int)) a2 R R), .int .i64 0]) ∧ Hid (WAt W (.slice a2 R R) (part ws (k + 1 + P) R)) ∧ Below W.heap.size W w') := fun k P R ho =>
    Lib.hid (fun W hb => (find48_ok A ws cap k P R W (WAt.below (W := w) h1 hb) h2 h.ui ho).mono (fun e w' q => by
      obtain ⟨a1, a2, q1, _, q3, q4⟩ := q
      exact ⟨a1, a2, q1, Lib.hid q3, q4⟩))
  rcases obj_cases ws a with ⟨E1, hE1, e1⟩ | ⟨k1, P1, R1, rfl, ho1⟩
  · have T : alkF ws a b = (false, E1) := by unfold alkF; rw [e1, if_pos hE1]
    rw [T]
    rcases obj_cases ws b with ⟨E2, hE2, e2⟩ | ⟨k2, P2, R2, rfl, ho2⟩
    · exact alike28_ee A ws.length cap w a E1 hE1 (FE a E1 hE1 e1) b E2 hE2 (FE b E2 hE2 e2)
    · exact alike28_eo A ws.length cap w a E1 hE1 (FE a E1 hE1 e1) k2 P2 R2 _ (FO k2 P2 R2 ho2)
  · rcases obj_cases ws b with ⟨E2, hE2, e2⟩ | ⟨k2, P2, R2, rfl, ho2⟩
    · have T : alkF ws k1 b = (false, E2) := by unfold alkF; rw [ho1.is, e2, if_neg (by simp), if_pos hE2]
      rw [T]
      exact alike28_oe A ws.length cap w k1 P1 R1 _ (FO k1 P1 R1 ho1) b E2 hE2 (FE b E2 hE2 e2)
    · have T : alkF ws k1 k2 = (decide ((P1 : Int) = P2 ∧ (R1 : Int) = R2) && decide (part ws (k1 + 1 + P1) R1 = part ws (k2 + 1 + P2) R2), 0) := by
        unfold alkF; rw [ho1.is, ho2.is, if_neg (by simp), if_neg (by simp)]; simp only [Int.toNat_natCast]
      rw [T]
      have hs : Hd.same2 P1 R1 P2 R2 = decide ((P1 : Int) = P2 ∧ (R1 : Int) = R2) := by
        unfold Hd.same2
        rw [Bool.eq_iff_iff]
        simp
      have l1 := ho1.fit
      have l2 := ho1.len
      cases hd : decide ((P1 : Int) = P2 ∧ (R1 : Int) = R2) with
      | true => exact alike28_oot A ws.length cap w k1 P1 R1 _ (FO k1 P1 R1 ho1) k2 P2 R2 _ (FO k2 P2 R2 ho2) (by rw [hs, hd]) (by rw [part_length (by omega)]; omega) _ (by rw [Bool.true_and])
      | false => exact alike28_oof A ws.length cap w k1 P1 R1 _ (FO k1 P1 R1 ho1) k2 P2 R2 _ (FO k2 P2 R2 ho2) (by rw [hs, hd])
end Ytmgoonahpndfoaa
end Go.Proofs
