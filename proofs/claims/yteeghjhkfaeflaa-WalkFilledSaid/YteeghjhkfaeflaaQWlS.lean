/- A slice's beginning; Differ's answer. -/
import Derived.Test.YteeghjhkfaeflaaQWlS0
import Derived.Test.YteeghjhkfaeflaaQArRf
namespace Go.Proofs
namespace Yteeghjhkfaeflaa
open Go.RowKit

theorem run_pre (b o : Nat) (n cap H : Nat) (h : H ≤ cap) (W : World) :
    (Instr.slice 45 (.slice (some ⟨b, o, none⟩) n cap) none (some (.int .i64 (H : Int))) none).run Try.prog W = .ok (.slice (some ⟨b, o, none⟩) H cap) W := by
  have hz : (sizeOf 51).run Try.prog W = .ok 2 W := by kernel_rfl
  have b1 : (Instr.sliceBounds true n cap none (some (.int .i64 (H : Int))) none).run Try.prog W = .ok (0, H, cap) W := by
    simp [Instr.sliceBounds, run_sliceBound, (by omega : (H : Int) ≤ (cap : Int))]
  simp only [Instr.slice, Sem.run_bind, run_underlying Try.underlying45, Result.andThen, b1, hz]
  by_cases hm : cap = 0
  · subst hm
    simp
  · rw [if_neg (by omega)]
    simp [Addr.add]
theorem DAns.own2 {W : World} {R : List Int × Int} {e : Ending} {w' : World} (h : DAns W R e w') : ∃ v, e = .returned (.tuple #[v, .int .i64 R.2]) ∧ Hid (IAt w' v R.1) ∧ Below W.heap.size W w' := by
  obtain ⟨v, h1, h2, h3⟩ := h
  exact ⟨v, h1, Lib.hid (IAt.of_own h2), h3⟩
theorem FAns.ar {W : World} {V : List Int} {en : Int} {e : Ending} {w' : World} (hu : ∀ z ∈ V, Hd.UI z) (hl : V.length ≤ 1601) (h : FAns W ((V, en), 0) e w') : ∃ v, e = .returned (.tuple #[v, .int .i64 en, .int .i64 0]) ∧ Hid (Ar w' v V) ∧ Below W.heap.size W w' := by
  obtain ⟨v, h1, h2, h3⟩ := h
  exact ⟨v, h1, Lib.hid (Ar.of_own h2 hu hl), h3⟩
theorem xat_take {W : World} {A : Option Addr} {n cap : Nat} {l : List (Int × Int)} (h : XAt W (.slice A n cap) l.length (pc l)) {k : Nat} (hk : k ≤ l.length) (c : Nat) : XAt W (.slice A k c) (l.take k).length (pc (l.take k)) := by
  obtain ⟨A', c', e, h⟩ := h
  simp only [Value.slice.injEq] at e
  obtain ⟨rfl, rfl, rfl⟩ := e
  have hl : (l.take k).length = k := by rw [List.length_take]; omega
  rw [hl]
  refine ⟨A, c, rfl, fun h0 => ?_⟩
  obtain ⟨b, o, e, hc⟩ := h (by omega)
  refine ⟨b, o, e, fun j u hj => hc j u ?_⟩
  have : pc l = pc (l.take k) ++ pc (l.drop k) := by rw [← pc_append, List.take_append_drop]
  rw [this, List.getElem?_append_left (List.getElem?_eq_some_iff.1 hj).1]
  exact hj
theorem neS (a b : Int) (W : World) : (binOp .neq 51 (.agg #[.int .i64 a, .int .i64 b]) (.agg #[.int .i64 a, .int .i64 b])).run Try.prog W = .ok (.bool false) W := by rw [Hd.neq23, Hd.same_refl]; rfl
theorem diffs_len8 : ∀ (xs ys : List Int) (k : Nat), (diffs k xs ys).length ≤ xs.length
  | [], ys, k => by rw [diffs_nil]; simp
  | x :: xs, [], k => by simp [diffs]
  | x :: xs, y :: ys, k => by
    have := diffs_len8 xs ys (k + 1)
    by_cases h : x = y
    · rw [diffs_eq h]; simp only [List.length_cons]; omega
    · rw [diffs_ne h]; simp only [List.length_cons]; omega
theorem diffs_len9 (xs ys : List Int) : (differF xs ys).1.length ≤ xs.length := by
  unfold differF
  split
  · simp
  · split
    · simp
    · split
      · simp
      · exact diffs_len8 xs ys 0
/-- the shapes without the last -/
theorem fil_less {ws : List Int} {f t : Int} {l : List (Int × Int)} (hs : strF ws f t = 0) (hc : shpE l = 0) (ht : ¬ t < endF f l) (k : Nat) : (filF ws f t (l.take k)).1.2 = endF f (l.take k) ∧ (filF ws f t (l.take k)).2 = 0 := by
  have h1 : shpE (l.take k) = 0 := by rw [← List.take_append_drop k l] at hc; exact (shp_part hc).1
  have h2 := (end_upto (f := f) hc k).2
  rw [fil_ok hs h1 (by omega)]
  exact ⟨rfl, rfl⟩
end Yteeghjhkfaeflaa
end Go.Proofs
