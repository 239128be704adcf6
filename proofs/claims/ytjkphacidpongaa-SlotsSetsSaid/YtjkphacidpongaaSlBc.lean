/- The reference's sorted. -/
import Derived.Test.YtjkphacidpongaaSlBb
namespace Go.Proofs
namespace Ytjkphacidpongaa
open Go.RowKit

theorem info4 : (Try.prog.info? 4).map (fun i => (i.zero, i.size, i.bytes)) = some (some (.bool false), 1, 1) := by kernel_rfl
theorem mk_bool (W : World) : (Instr.makeSlice 28 (.int .i64 1601) (.int .i64 1601)).run Try.prog W = .ok (.slice (some ⟨W.heap.size, 0, none⟩) 1601 1601) (W.alloc (.cells (metC []) 4)) := by
  obtain ⟨i0, hi, hz0, hz1, hz2⟩ := info_parts info4
  have h := run_makeSlice (P := Try.prog) W 28 4 i0 (.bool false) Try.underlying28 hi hz0 .i64 .i64 1601 1601 (by omega) (by omega) (by rw [hz1]; decide) (by rw [hz2]; decide) (by omega)
  rw [hz1] at h
  have e : ∀ n : Nat, madeCells (Value.bool false).cells (n * 1) = metG n [] := fun n => by
    rw [← metG_nil]
    apply Array.toList_inj.1
    rw [show (Value.bool false).cells = #[.bool false] from rfl, toList_madeCells_one, Nat.mul_one, Array.toList_replicate]
  have e2 : madeCells (Value.bool false).cells ((1601 : Int).toNat * 1) = metC [] := e 1601
  rw [e2] at h
  exact h
theorem nums_len : nums.length = 1600 := by unfold nums; rw [List.length_map, List.length_range]
theorem nums_get {k : Nat} (h : k < 1600) : nums.getD k 0 = (k : Int) + 1 := by
  rw [← getElem_getD (by rw [nums_len]; exact h)]
  unfold nums
  rw [List.getElem_map, List.getElem_range]
/-- the first k numbers that a table has -/
def srtU (cs : List Int) (k : Nat) : List Int := (nums.take k).filter fun x => decide (x ∈ cs)
theorem srtU_all (cs : List Int) : srtU cs 1600 = srt cs := by unfold srtU srt; rw [← nums_len, List.take_length]
theorem srtU_len (cs : List Int) (k : Nat) : (srtU cs k).length ≤ 1600 := by
  refine Nat.le_trans (List.length_filter_le _ _) ?_
  rw [List.length_take, nums_len]; omega
theorem srtU_snoc (cs : List Int) {k : Nat} (h : k < 1600) : srtU cs (k + 1) = if (k : Int) + 1 ∈ cs then srtU cs k ++ [(k : Int) + 1] else srtU cs k := by
  unfold srtU
  rw [take_snoc (by rw [nums_len]; exact h), nums_get h, filter_snoc (fun x => decide (x ∈ cs))]
  by_cases h2 : (k : Int) + 1 ∈ cs
  · rw [if_pos (decide_eq_true h2), if_pos h2]
  · rw [if_neg (by rw [decide_eq_false h2]; simp), if_neg h2]
theorem srtU_zero (cs : List Int) : srtU cs 0 = [] := rfl
end Ytjkphacidpongaa
end Go.Proofs
