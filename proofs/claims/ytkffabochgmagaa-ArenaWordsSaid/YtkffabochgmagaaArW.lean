/- The laws' awake answers true. -/
import Derived.Test.YtkffabochgmagaaArD
namespace Go.Proofs
namespace Ytkffabochgmagaa
open Go.RowKit

def exL : List Int := [0, 1, 2, 3, 4, 5]
def exO : Obj := .cells #[.int .u64 0, .int .u64 1, .int .u64 2, .int .u64 3, .int .u64 4, .int .u64 5] 25
def scL : List AOp := [⟨2, 1, 0, 0, 9⟩, ⟨3, 1, 4, 2, 0⟩, ⟨1, 4, 0, 0, 0⟩]
def scO : Obj := .cells #[.int .i64 2, .int .i64 1, .int .i64 0, .int .i64 0, .int .u64 9, .int .i64 3, .int .i64 1, .int .i64 4, .int .i64 2, .int .u64 0, .int .i64 1, .int .i64 4, .int .i64 0, .int .i64 0, .int .u64 0] 56
theorem ex_at (W : World) : WAt (W.alloc exO) (.slice (some ⟨W.heap.size, 0, none⟩) 6 6) exL := WAt.row (zs := exL) (cap := 6) (heap_alloc_new W exO)
theorem sc_at (W : World) : OAt (W.alloc scO) (.slice (some ⟨W.heap.size, 0, none⟩) 3 3) scL := by
  refine ⟨_, 3, rfl, fun _ => ⟨W.heap.size, 0, rfl, fun j u hu => ?_⟩⟩
  rw [cell_of_row _ _ _ _ _ _ (heap_alloc_new W scO), Nat.zero_add]
  simpa [oc, opC, scL] using hu
theorem ex32 (w : World) : Calls Try.prog 32 #[] w fun e w' => e = .returned (.slice (some ⟨w.heap.size, 0, none⟩) 6 6) ∧ w.alloc exO = w' := by
  unfold exO
  go_enter Try.func32, Try.ntmps32
  go_wp2
  go_ret
  exact ⟨rfl, rfl⟩
theorem sc33 (w : World) : Calls Try.prog 33 #[] w fun e w' => e = .returned (.slice (some ⟨w.heap.size, 0, none⟩) 3 3) ∧ w.alloc scO = w' := by
  unfold scO
  go_enter Try.func33, Try.ntmps33
  go_wp2
  go_ret
  exact ⟨rfl, rfl⟩
theorem E20 (W : World) : Calls Try.prog 20 #[.slice (some ⟨W.heap.size, 0, none⟩) 6 6, .int .i64 1, .int .i64 2, .int .i64 3] (W.alloc exO) fun e w' => ∃ v, e = .returned (.tuple #[v, .int .i64 0]) ∧ WAt w' v [0, 1, 1, 2, 3, 5] ∧ Below W.heap.size W w' := by
  refine (copy20 _ exL 1 2 3 _ (ex_at W) (by decide)).mono ?_
  rintro e w' ⟨v, rfl, h1, h2⟩
  have e1 : afterF exL ⟨3, 1, 2, 3, 0⟩ = ([0, 1, 1, 2, 3, 5], 0) := by decide
  rw [e1] at h1 ⊢
  exact ⟨v, rfl, WAt.of_own h1, below_end (alloc_below W exO) h2⟩
theorem E22 (W : World) : Calls Try.prog 22 #[.slice (some ⟨W.heap.size, 0, none⟩) 6 6, .int .i64 4, .int .i64 2] (W.alloc exO) fun e w' => ∃ v, e = .returned (.tuple #[v, .int .i64 0]) ∧ WAt w' v [0, 1, 2, 3, 0, 0] ∧ Below W.heap.size W w' := by
  refine (clear22 _ exL 4 2 _ (ex_at W) (by decide)).mono ?_
  rintro e w' ⟨v, rfl, h1, h2⟩
  have e1 : afterF exL ⟨4, 4, 0, 2, 0⟩ = ([0, 1, 2, 3, 0, 0], 0) := by decide
  rw [e1] at h1 ⊢
  exact ⟨v, rfl, WAt.of_own h1, below_end (alloc_below W exO) h2⟩
theorem E29 (W : World) : Calls Try.prog 29 #[.slice (some ⟨W.heap.size, 0, none⟩) 6 6, .slice (some ⟨W.heap.size + 1, 0, none⟩) 3 3] ((W.alloc exO).alloc scO) fun e w' => ∃ v g, e = .returned (.tuple #[v, g, .agg #[.int .i64 3, .int .i64 3], .int .i64 0, .int .i64 0]) ∧ WAt w' v [0, 9, 2, 3, 9, 2] ∧ WAt w' g [9] ∧ Below W.heap.size W w' := by
  have hs := sc_at (W.alloc exO)
  simp only [World.size_alloc] at hs
  refine (play29 _ _ exL scL _ ((ex_at W).below (alloc_below _ scO)) hs (by decide) (by decide)).mono ?_
  rintro e w' ⟨v1, v2, rfl, h1, h2, h3⟩
  have e1 : (playF exL scL).ws = [0, 9, 2, 3, 9, 2] ∧ (playF exL scL).got = [9] ∧ (playF exL scL).r = 3 ∧ (playF exL scL).w = 3 ∧ (playF exL scL).at_ = 0 ∧ (playF exL scL).e = 0 := by decide
  rw [e1.1] at h1
  rw [e1.2.1] at h2
  rw [e1.2.2.1, e1.2.2.2.1, e1.2.2.2.2.1, e1.2.2.2.2.2]
  exact ⟨v1, v2, rfl, WAt.of_own h1, WAt.of_own h2, below_end (alloc_below W exO) (below_end (alloc_below _ scO) h3)⟩
theorem E26 (W : World) (a : Value) (ha : WAt W a [0, 1, 1, 2, 3, 5]) : Calls Try.prog 26 #[.slice (some ⟨W.heap.size, 0, none⟩) 6 6, a] (W.alloc exO) fun e w' => ∃ v, e = .returned (.tuple #[v, .int .i64 0]) ∧ IAt w' v [2, 3, 4] ∧ Below W.heap.size W w' := by
  refine (differ26_ok _ _ exL [0, 1, 1, 2, 3, 5] _ (ex_at W) (ha.below (alloc_below W exO)) (by decide) (by decide) (by decide)).mono ?_
  rintro e w' ⟨v, rfl, h1, h2⟩
  have e1 : diffs 0 exL [0, 1, 1, 2, 3, 5] = [2, 3, 4] := by decide
  rw [e1] at h1
  exact ⟨v, rfl, IAt.of_own h1, below_end (alloc_below W exO) h2⟩
end Ytkffabochgmagaa
end Go.Proofs
