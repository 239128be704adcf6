/- cmp.Or of any two errors, Differ and the reference's Differ on any two arenas. -/
import Derived.Test.YtmgoonahpndfoaaArD
import Derived.Test.YtmgoonahpndfoaaArR
namespace Go.Proofs
namespace Ytmgoonahpndfoaa
open Go.RowKit

/-- what a call that answers a row of integers of its own and an error gives -/
def DAns (W : World) (r : List Int × Int) (e : Ending) (w' : World) : Prop :=
  ∃ v, e = .returned (.tuple #[v, .int .i64 r.2]) ∧ w'.ownsRow W.heap.size 3 1 v r.1.length (ic r.1) ∧ Below W.heap.size W w'
theorem differ_chk1 {xs ys : List Int} (h : chkF xs ≠ 0) : differF xs ys = ([], chkF xs) := by unfold differF; rw [if_pos h]
theorem differ_chk2 {xs ys : List Int} (h : chkF xs = 0) (h2 : chkF ys ≠ 0) : differF xs ys = ([], chkF ys) := by unfold differF; rw [if_neg (by simp [h]), if_pos h2]
theorem differ_form {xs ys : List Int} (h : chkF xs = 0) (h2 : chkF ys = 0) (h3 : xs.length ≠ ys.length) : differF xs ys = ([], 6) := by unfold differF; rw [if_neg (by simp [h]), if_neg (by simp [h2]), if_pos h3]
theorem differ_good {xs ys : List Int} (h : chkF xs = 0) (h2 : chkF ys = 0) (h3 : xs.length = ys.length) : differF xs ys = (diffs 0 xs ys, 0) := by unfold differF; rw [if_neg (by simp [h]), if_neg (by simp [h2]), if_neg (by simp [h3])]

set_option maxRecDepth 100000 in
theorem or40_any (g : Nat) (x y : Int) (w : World) (h : w.heap[g]? = some (.cells #[.int .i64 x, .int .i64 y] 27 (0, 0))) :
    Calls Try.prog 40 #[.slice (some ⟨g, 0, none⟩) 2 2] w fun e w' => e = .returned (.int .i64 (if x = 0 then y else x)) ∧ w = w' := by
  have d0 := cell_of_row _ _ 0 _ _ _ h
  have d1 := cell_of_row _ _ 1 _ _ _ h
  simp only [List.getElem?_toArray, List.getElem?_cons_zero, List.getElem?_cons_succ] at d0 d1
  clear h
  by_cases hx : x = 0
  · subst hx
    rw [if_pos rfl]
    by_cases hy : y = 0
    · subst hy
      go_enter Try.func40, Try.ntmps40
      go_wp2
      go_loopw [8] (fun i wr => ∃ j : Nat, j ≤ 2 ∧ i = .int .i64 j ∧ Hid (w = wr)) (fun i _ => 2 - (intOf i).toNat)
      case atStart => exact ⟨0, by omega, rfl, Lib.hid rfl⟩
      case round =>
        obtain ⟨j, hj, rfl, hw⟩ := hrel
        obtain rfl := hw.out
        rcases (by omega : j = 0 ∨ j = 1 ∨ j = 2) with rfl | rfl | rfl
        · go_wp2
          refine ⟨⟨1, by omega, rfl, Lib.hid trivial⟩, ?_⟩
          decide
        · go_wp2
          refine ⟨⟨2, by omega, rfl, Lib.hid trivial⟩, ?_⟩
          decide
        · go_wp2
          go_ret
          exact ⟨rfl, rfl⟩
    · have q : (y != 0) = true := by simpa using hy
      clear hy
      go_enter Try.func40, Try.ntmps40
      go_wp2
      go_loopw [8] (fun i wr => ∃ j : Nat, j ≤ 1 ∧ i = .int .i64 j ∧ Hid (w = wr)) (fun i _ => 2 - (intOf i).toNat)
      case atStart => exact ⟨0, by omega, rfl, Lib.hid rfl⟩
      case round =>
        obtain ⟨j, hj, rfl, hw⟩ := hrel
        obtain rfl := hw.out
        rcases (by omega : j = 0 ∨ j = 1) with rfl | rfl
        · go_wp2
          refine ⟨⟨1, by omega, rfl, Lib.hid trivial⟩, ?_⟩
          decide
        · go_wp2
          go_ret
          exact ⟨rfl, rfl⟩
  · have q : (x != 0) = true := by simpa using hx
    rw [if_neg hx]
    clear hx
    go_enter Try.func40, Try.ntmps40
    go_wp2
    go_loopw [8] (fun i wr => i = .int .i64 0 ∧ Hid (w = wr)) (fun i _ => 2 - (intOf i).toNat)
    case atStart => exact ⟨rfl, Lib.hid rfl⟩
    case round =>
      obtain ⟨rfl, hw⟩ := hrel
      obtain rfl := hw.out
      go_wp2
      go_ret
      exact ⟨rfl, rfl⟩

end Ytmgoonahpndfoaa
end Go.Proofs
