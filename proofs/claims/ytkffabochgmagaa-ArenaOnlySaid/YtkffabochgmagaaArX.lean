/- The laws' awake answers true. -/
import Derived.Test.YtkffabochgmagaaArW
namespace Go.Proofs
namespace Ytkffabochgmagaa
open Go.RowKit

theorem S13 (xs : List Int) (v1 v2 : Value) (W : World) (hm : xs.length ≤ 1000000) (h1 : WAt W v1 xs) (h2 : WAt W v2 xs) : Calls Try.prog 13 #[v1, v2] W fun e w' => e = .returned (.bool true) ∧ Below W.heap.size W w' :=
  (same13 v1 v2 xs xs hm W h1 h2).mono (fun _ _ q => ⟨by rw [q.1, decide_eq_true rfl], q.2⟩)
theorem I28 (xs : List Int) (v1 v2 : Value) (W : World) (hm : xs.length ≤ 1000000) (h1 : IAt W v1 xs) (h2 : IAt W v2 xs) : Calls Try.prog 28 #[v1, v2] W fun e w' => e = .returned (.bool true) ∧ Below W.heap.size W w' :=
  (same28 v1 v2 xs xs hm W h1 h2).mono (fun _ _ q => ⟨by rw [q.1, decide_eq_true rfl], q.2⟩)
theorem E29' (W : World) (p : Nat) (hp : p = (W.alloc exO).heap.size) : Calls Try.prog 29 #[.slice (some ⟨W.heap.size, 0, none⟩) 6 6, .slice (some ⟨p, 0, none⟩) 3 3] ((W.alloc exO).alloc scO) fun e w' => ∃ v g, e = .returned (.tuple #[v, g, .agg #[.int .i64 3, .int .i64 3], .int .i64 0, .int .i64 0]) ∧ WAt w' v [0, 9, 2, 3, 9, 2] ∧ WAt w' g [9] ∧ Below W.heap.size W w' := by
  subst hp
  rw [World.size_alloc]
  exact E29 W
theorem eq50 (W : World) : (binOp .eql 50 (.agg #[.int .i64 3, .int .i64 3]) (.agg #[.int .i64 3, .int .i64 3])).run Try.prog W = .ok (.bool true) W := by kernel_rfl

set_option maxRecDepth 100000 in
set_option maxHeartbeats 400000 in
theorem awake10 (w : World) : Calls Try.prog 10 #[] w fun e w' => e = .returned (.bool true) ∧ Below w.heap.size w w' := by
  have hq := eq50
  go_enter Try.func10, Try.ntmps10
  go_upto_region 4 with (first
    | (go_at_call 32; refine (ex32 _).mono ?_; rintro e w' ⟨rfl, rfl⟩)
    | (go_at_call 20; refine (E20 _).mono ?_; rintro e w1 ⟨a, rfl, hA, hb1⟩)
    | (go_at_call 22; refine (E22 _).mono ?_; rintro e w2 ⟨b, rfl, hC, hb2⟩)
    | (go_at_call 33; refine (sc33 _).mono ?_; rintro e w' ⟨rfl, rfl⟩)
    | (go_at_call 29; refine (E29' _ _ (by first | rfl | simp)).mono ?_; rintro e w3 ⟨v, g, rfl, hV, hG, hb3⟩))
  have nz := heap_alloc_new w3 (.cells #[.int .i64 3, .int .i64 3] 50)
  have bz := alloc_below w3 (.cells #[.int .i64 3, .int .i64 3] 50)
  have sz : w3.heap.size < (w3.alloc (.cells #[.int .i64 3, .int .i64 3] 50)).heap.size := by simp
  have qA := Lib.hid (((hA.below hb2).below hb3).below bz)
  have qC := Lib.hid ((hC.below hb3).below bz)
  have qV := Lib.hid (hV.below bz)
  have qG := Lib.hid (hG.below bz)
  have qB := Lib.hid (below_end (below_end (below_end hb1 hb2) hb3) bz)
  have NZ := Lib.hid nz
  clear hA hC hV hG hb1 hb2 hb3 bz nz
  generalize w3.alloc (.cells #[.int .i64 3, .int .i64 3] 50) = W3 at *
  go_upto_region 5 with (first
    | (go_at_call 32; refine (ex32 _).mono ?_; rintro e w' ⟨rfl, rfl⟩)
    | (go_at_call 26; refine (E26 _ _ qA.out).mono ?_; rintro e w4 ⟨l, rfl, hL, hb4⟩))
  have A4 := Lib.hid (fun (W : World) (h : Below w4.heap.size w4 W) => (qA.out.below hb4).below h)
  have C4 := Lib.hid (fun (W : World) (h : Below w4.heap.size w4 W) => (qC.out.below hb4).below h)
  have V4 := Lib.hid (fun (W : World) (h : Below w4.heap.size w4 W) => (qV.out.below hb4).below h)
  have G4 := Lib.hid (fun (W : World) (h : Below w4.heap.size w4 W) => (qG.out.below hb4).below h)
  have L4 := Lib.hid (fun (W : World) (h : Below w4.heap.size w4 W) => hL.below h)
  have N4 := Lib.hid (fun (W : World) (h : Below w4.heap.size w4 W) => keep_heap h (keep_heap hb4 NZ.out))
  have B4 := Lib.hid (below_end qB.out hb4)
  clear hL hb4 qA qC qV qG qB NZ
  go_wp2_with (first
    | (go_at_call 13; first
        | (refine (S13 [9] _ _ _ (by decide) (G4.out _ (below_end k3 (alloc_below u3 _))) (WAt.row (zs := [9]) (cap := 1) (heap_alloc_new u3 _))).mono ?_; rintro e u4 ⟨rfl, hu4⟩; have k4 := below_end (below_end k3 (alloc_below u3 _)) hu4
           have z0 := cell_of_row _ _ 0 _ _ _ (N4.out _ k4); have z1 := cell_of_row _ _ 1 _ _ _ (N4.out _ k4); simp only [List.getElem?_toArray, List.getElem?_cons_zero, List.getElem?_cons_succ] at z0 z1)
        | (refine (S13 [0, 9, 2, 3, 9, 2] _ _ _ (by decide) (V4.out _ (below_end k2 (alloc_below u2 _))) (WAt.row (zs := [0, 9, 2, 3, 9, 2]) (cap := 6) (heap_alloc_new u2 _))).mono ?_; rintro e u3 ⟨rfl, hu3⟩; have k3 := below_end (below_end k2 (alloc_below u2 _)) hu3)
        | (refine (S13 [0, 1, 2, 3, 0, 0] _ _ _ (by decide) (C4.out _ (below_end k1 (alloc_below u1 _))) (WAt.row (zs := [0, 1, 2, 3, 0, 0]) (cap := 6) (heap_alloc_new u1 _))).mono ?_; rintro e u2 ⟨rfl, hu2⟩; have k2 := below_end (below_end k1 (alloc_below u1 _)) hu2)
        | (refine (S13 [0, 1, 1, 2, 3, 5] _ _ _ (by decide) (A4.out _ (alloc_below w4 _)) (WAt.row (zs := [0, 1, 1, 2, 3, 5]) (cap := 6) (heap_alloc_new w4 _))).mono ?_; rintro e u1 ⟨rfl, hu1⟩; have k1 := below_end (alloc_below w4 _) hu1))
    | (go_at_call 28; refine (I28 [2, 3, 4] _ _ _ (by decide) (L4.out _ (below_end k4 (alloc_below u4 _))) (IAt.row (zs := [2, 3, 4]) (cap := 3) (heap_alloc_new u4 _))).mono ?_; rintro e u5 ⟨rfl, hu5⟩; have k5 := below_end (below_end k4 (alloc_below u4 _)) hu5))
  exact bodyPost_ret (v := .bool true) (by simp [results, Try.f10, go_sem]) rfl ⟨rfl, below_end B4.out k5⟩
end Ytkffabochgmagaa
end Go.Proofs
