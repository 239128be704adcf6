/- The law ArenaKnown answers true. -/
import Derived.Test.YtkffabochgmagaaArX
namespace Go.Proofs
namespace Ytkffabochgmagaa
open Go.RowKit

theorem K5 (W : World) : Calls Try.prog 16 #[.slice (some ⟨W.heap.size, 0, none⟩) 6 6, .int .i64 5] (W.alloc exO) fun e w' => e = .returned (.tuple #[.int .u64 5, .int .i64 0]) ∧ W.alloc exO = w' := by
  refine (get16 _ exL 5 _ (ex_at W) (by decide)).mono ?_
  rintro e w' ⟨rfl, rfl⟩
  have e1 : getF exL 5 = (5, 0) := by decide
  rw [e1]
  exact ⟨rfl, rfl⟩
theorem K0 (W : World) : Calls Try.prog 16 #[.slice (some ⟨W.heap.size, 0, none⟩) 6 6, .int .i64 0] (W.alloc exO) fun e w' => e = .returned (.tuple #[.int .u64 0, .int .i64 7]) ∧ W.alloc exO = w' := by
  refine (get16 _ exL 0 _ (ex_at W) (by decide)).mono ?_
  rintro e w' ⟨rfl, rfl⟩
  have e1 : getF exL 0 = (0, 7) := by decide
  rw [e1]
  exact ⟨rfl, rfl⟩
theorem K6 (W : World) : Calls Try.prog 16 #[.slice (some ⟨W.heap.size, 0, none⟩) 6 6, .int .i64 6] (W.alloc exO) fun e w' => e = .returned (.tuple #[.int .u64 0, .int .i64 7]) ∧ W.alloc exO = w' := by
  refine (get16 _ exL 6 _ (ex_at W) (by decide)).mono ?_
  rintro e w' ⟨rfl, rfl⟩
  have e1 : getF exL 6 = (0, 7) := by decide
  rw [e1]
  exact ⟨rfl, rfl⟩
theorem KC (W : World) : Calls Try.prog 20 #[.slice (some ⟨W.heap.size, 0, none⟩) 6 6, .int .i64 2, .int .i64 1, .int .i64 3] (W.alloc exO) fun e w' => ∃ v, e = .returned (.tuple #[v, .int .i64 0]) ∧ WAt w' v [0, 2, 3, 4, 4, 5] ∧ Below W.heap.size W w' := by
  refine (copy20 _ exL 2 1 3 _ (ex_at W) (by decide)).mono ?_
  rintro e w' ⟨v, rfl, h1, h2⟩
  have e1 : afterF exL ⟨3, 2, 1, 3, 0⟩ = ([0, 2, 3, 4, 4, 5], 0) := by decide
  rw [e1] at h1 ⊢
  exact ⟨v, rfl, WAt.of_own h1, below_end (alloc_below W exO) h2⟩
theorem KL (W : World) : Calls Try.prog 22 #[.slice (some ⟨W.heap.size, 0, none⟩) 6 6, .int .i64 6, .int .i64 0] (W.alloc exO) fun e w' => ∃ v, e = .returned (.tuple #[v, .int .i64 0]) ∧ WAt w' v exL ∧ Below W.heap.size W w' := by
  refine (clear22 _ exL 6 0 _ (ex_at W) (by decide)).mono ?_
  rintro e w' ⟨v, rfl, h1, h2⟩
  have e1 : afterF exL ⟨4, 6, 0, 0, 0⟩ = (exL, 0) := by decide
  rw [e1] at h1 ⊢
  exact ⟨v, rfl, WAt.of_own h1, below_end (alloc_below W exO) h2⟩
theorem KM (W : World) : Calls Try.prog 22 #[.slice (some ⟨W.heap.size, 0, none⟩) 6 6, .int .i64 5, .int .i64 2] (W.alloc exO) fun e w' => ∃ v, e = .returned (.tuple #[v, .int .i64 7]) ∧ Below W.heap.size W w' := by
  refine (clear22 _ exL 5 2 _ (ex_at W) (by decide)).mono ?_
  rintro e w' ⟨v, rfl, h1, h2⟩
  have e1 : afterF exL ⟨4, 5, 0, 2, 0⟩ = ([], 7) := by decide
  rw [e1]
  exact ⟨v, rfl, below_end (alloc_below W exO) h2⟩
theorem KZ (W : World) : Calls Try.prog 24 #[.slice (some ⟨W.heap.size, 0, none⟩) 6 6, .int .i64 1, .int .i64 1] (W.alloc exO) fun e w' => e = .returned (.tuple #[.bool true, .int .i64 0]) ∧ W.alloc exO = w' := by
  refine (zero24_ok _ 6 exL 1 1 _ (ex_at W) (by decide) (by decide) (by decide) (by decide) (by decide) (by decide)).mono ?_
  rintro e w' ⟨rfl, rfl⟩
  have e1 : zeroF exL ((1 : Nat) : Int) ((1 : Nat) : Int) = (true, 0) := by decide
  rw [e1]
  exact ⟨rfl, rfl⟩
theorem KN (W : World) : Calls Try.prog 24 #[.slice (some ⟨W.heap.size, 0, none⟩) 6 6, .int .i64 1, .int .i64 3] (W.alloc exO) fun e w' => e = .returned (.tuple #[.bool false, .int .i64 0]) ∧ W.alloc exO = w' := by
  refine (zero24_ok _ 6 exL 1 3 _ (ex_at W) (by decide) (by decide) (by decide) (by decide) (by decide) (by decide)).mono ?_
  rintro e w' ⟨rfl, rfl⟩
  have e1 : zeroF exL ((1 : Nat) : Int) ((3 : Nat) : Int) = (false, 0) := by decide
  rw [e1]
  exact ⟨rfl, rfl⟩

set_option maxRecDepth 100000 in
set_option maxHeartbeats 2000000 in
/-- ArenaKnown answers true -/
theorem known9 (w : World) : Calls Try.prog 9 #[] w fun e w' => e = .returned (.bool true) ∧ Below w.heap.size w w' := by
  go_enter Try.func9, Try.ntmps9
  go_upto_region 2 with (first
    | (go_at_call 32; refine (ex32 _).mono ?_; rintro e w' ⟨rfl, rfl⟩)
    | (go_at_call 16; refine (K5 _).mono ?_; rintro e w' ⟨rfl, rfl⟩))
  have k1 := alloc_below w exO
  generalize w.alloc exO = w1 at *
  go_upto_region 3 with (first
    | (go_at_call 32; refine (ex32 _).mono ?_; rintro e w' ⟨rfl, rfl⟩)
    | (go_at_call 16; refine (K0 _).mono ?_; rintro e w' ⟨rfl, rfl⟩))
  have k2 := below_end k1 (alloc_below w1 exO)
  clear k1
  generalize w1.alloc exO = w2 at *
  go_upto_region 4 with (first
    | (go_at_call 32; refine (ex32 _).mono ?_; rintro e w' ⟨rfl, rfl⟩)
    | (go_at_call 16; refine (K6 _).mono ?_; rintro e w' ⟨rfl, rfl⟩))
  have k3 := below_end k2 (alloc_below w2 exO)
  clear k2
  generalize w2.alloc exO = w3 at *
  go_upto_region 5 with (first
    | (go_at_call 32; refine (ex32 _).mono ?_; rintro e w' ⟨rfl, rfl⟩)
    | (go_at_call 20; refine (KC _).mono ?_; rintro e w4 ⟨a, rfl, hA, hb4⟩))
  have k4 := below_end k3 hb4
  clear hb4 k3
  go_upto_region 6 with (first
    | (go_at_call 32; refine (ex32 _).mono ?_; rintro e w' ⟨rfl, rfl⟩)
    | (go_at_call 22; refine (KL _).mono ?_; rintro e w5 ⟨b, rfl, hC, hb5⟩))
  have k5 := below_end k4 hb5
  have a5 := hA.below hb5
  clear hb5 k4 hA
  go_upto_region 7 with (first
    | (go_at_call 32; refine (ex32 _).mono ?_; rintro e w' ⟨rfl, rfl⟩)
    | (go_at_call 22; refine (KM _).mono ?_; rintro e w6 ⟨c, rfl, hb6⟩))
  have k6 := below_end k5 hb6
  have a6 := a5.below hb6
  have c6 := hC.below hb6
  clear hb6 k5 a5 hC
  go_upto_region 8 with (first
    | (go_at_call 32; refine (ex32 _).mono ?_; rintro e w' ⟨rfl, rfl⟩)
    | (go_at_call 24; refine (KZ _).mono ?_; rintro e w' ⟨rfl, rfl⟩))
  have k7 := below_end k6 (alloc_below w6 exO)
  have a7 := a6.below (alloc_below w6 exO)
  have c7 := c6.below (alloc_below w6 exO)
  clear k6 a6 c6
  generalize w6.alloc exO = w7 at *
  go_upto_region 9 with (first
    | (go_at_call 32; refine (ex32 _).mono ?_; rintro e w' ⟨rfl, rfl⟩)
    | (go_at_call 24; refine (KN _).mono ?_; rintro e w' ⟨rfl, rfl⟩))
  have k8 := Lib.hid (below_end k7 (alloc_below w7 exO))
  have a8 := a7.below (alloc_below w7 exO)
  have c8 := c7.below (alloc_below w7 exO)
  clear k7 a7 c7
  generalize w7.alloc exO = w8 at *
  have A8 := Lib.hid a8
  have C8 := Lib.hid c8
  clear a8 c8
  go_wp2_with (first
    | (go_at_call 13; first
        | (refine (S13 exL _ _ _ (by decide) ((C8.out.below j1).below (alloc_below u1 exO)) (ex_at u1)).mono ?_; rintro e u2 ⟨rfl, hu2⟩; have j2 := below_end (below_end j1 (alloc_below u1 exO)) hu2)
        | (refine (S13 [0, 2, 3, 4, 4, 5] _ _ _ (by decide) (A8.out.below (alloc_below w8 _)) (WAt.row (zs := [0, 2, 3, 4, 4, 5]) (cap := 6) (heap_alloc_new w8 _))).mono ?_; rintro e u1 ⟨rfl, hu1⟩; have j1 := below_end (alloc_below w8 _) hu1))
    | (go_at_call 32; refine (ex32 _).mono ?_; rintro e w' ⟨rfl, rfl⟩)
    | (go_at_call 10; refine (awake10 _).mono ?_; rintro e u3 ⟨rfl, hu3⟩; have j3 := below_end j2 hu3))
  exact bodyPost_ret (v := .bool true) (by simp [results, Try.f9, go_sem]) rfl ⟨rfl, below_end k8.out j3⟩
end Ytkffabochgmagaa
end Go.Proofs
