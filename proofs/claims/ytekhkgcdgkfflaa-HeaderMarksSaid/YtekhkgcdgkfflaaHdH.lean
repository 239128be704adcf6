/- Two shapes compared; the laws' awake answers true. -/
import Derived.Test.YtekhkgcdgkfflaaHdG
import Derived.Laws.StructEq
import Derived.ChangeKeysEq
import Derived.Deep.Cut
namespace Go.Proofs
namespace Ytekhkgcdgkfflaa
open Go.RowKit

def ints (cs : List Int) : Array Value := (cs.map (Value.int .i64)).toArray
theorem flds23 : ∀ f ∈ (Try.prog.fieldsOf 23).toList, f.name ≠ "_" ∧ f.type = 3 := by
  have h : (Try.prog.fieldsOf 23).toList.all (fun f => decide (f.name ≠ "_") && f.type == 3) = true := by kernel_rfl
  intro f hf
  have := List.all_eq_true.1 h f hf
  simpa using this
theorem offs23 : (Try.prog.fieldsOf 23).toList.map (·.offset) = [0, 1] := by kernel_rfl
theorem held23 : Try.prog.stoodInHeld 23 = false := by kernel_rfl
theorem eqF23 (d : Nat) (W : World) (xs ys : List Int) : ∀ (fs : List Field), (∀ f ∈ fs, f.name ≠ "_" ∧ f.type = 3) → (∀ f ∈ fs, f.offset < xs.length ∧ f.offset < ys.length) →
    (Op.eqFields (d + 1) (ints xs) (ints ys) fs).run Try.prog W = .ok (fs.all fun f => xs.getD f.offset 0 == ys.getD f.offset 0) W := by
  intro fs
  induction fs with
  | nil => intro _ _; rfl
  | cons f fs ih =>
    intro h1 h2
    obtain ⟨hn, ht⟩ := h1 f (by simp)
    obtain ⟨hx, hy⟩ := h2 f (by simp)
    have P3 : Try.prog.plainKey 3 = true := by kernel_rfl
    have e1 : ∀ (zs : List Int), f.offset < zs.length → (part 3 (ints zs) f.offset).run Try.prog W = .ok (.int .i64 (zs.getD f.offset 0)) W := fun zs hz => run_part_plain W P3 (by
      simp [ints, List.getD_eq_getElem?_getD, hz])
    have e3 := run_equalIn_int (P := Try.prog) W d 3 .i64 .i64 (xs.getD f.offset 0) (ys.getD f.offset 0) Try.underlying3
    have ih' := ih (fun g hg => h1 g (by simp [hg])) (fun g hg => h2 g (by simp [hg]))
    rw [Op.eqFields]
    simp only [hn, ne_eq, not_false_eq_true, if_true, ht, Sem.run_bind, e1 xs hx, e1 ys hy, Result.andThen_ok, e3, Sem.run_ite, ih', List.all_cons]
    cases hq : (xs.getD f.offset 0 == ys.getD f.offset 0) <;> simp [Sem.run_pure]
def same2 (a b c d : Int) : Bool := a == c && b == d
theorem eqIn23 (a b c d : Int) (W : World) : (Op.equalIn 10000 23 (.agg (ints [a, b])) (.agg (ints [c, d]))).run Try.prog W = .ok (same2 a b c d) W := by
  rw [run_equalIn_agg W 9999 23 _ _ (by kernel_rfl) held23]
  have ho := offs23
  rw [eqF23 9998 W [a, b] [c, d] _ flds23 (by
    intro f hf
    have : f.offset ∈ (Try.prog.fieldsOf 23).toList.map (·.offset) := List.mem_map.2 ⟨f, hf, rfl⟩
    rw [ho] at this
    simp at this
    simp
    omega)]
  have e : ((Try.prog.fieldsOf 23).toList.all fun f => [a, b].getD f.offset 0 == [c, d].getD f.offset 0) = (((Try.prog.fieldsOf 23).toList.map (·.offset)).all fun i => [a, b].getD i 0 == [c, d].getD i 0) := by
    rw [List.all_map]; rfl
  rw [e, ho]
  simp [same2]
theorem eql23 (a b c d : Int) (W : World) : (binOp .eql 23 (.agg #[.int .i64 a, .int .i64 b]) (.agg #[.int .i64 c, .int .i64 d])).run Try.prog W = .ok (.bool (same2 a b c d)) W := by
  rw [run_eql_struct]
  have h := eqIn23 a b c d W
  unfold ints at h
  simp only [List.map_cons, List.map_nil] at h
  rw [h]
  rfl
theorem neq23 (a b c d : Int) (W : World) : (binOp .neq 23 (.agg #[.int .i64 a, .int .i64 b]) (.agg #[.int .i64 c, .int .i64 d])).run Try.prog W = .ok (.bool (!same2 a b c d)) W := by
  rw [run_neq_struct]
  have h := eqIn23 a b c d W
  unfold ints at h
  simp only [List.map_cons, List.map_nil] at h
  rw [h]
  rfl
theorem same_refl (a b : Int) : same2 a b a b = true := by simp [same2]
theorem eqS (a b : Int) (W : World) : (binOp .eql 23 (.agg #[.int .i64 a, .int .i64 b]) (.agg #[.int .i64 a, .int .i64 b])).run Try.prog W = .ok (.bool true) W := by rw [eql23, same_refl]

theorem C12 (w : World) : Calls Try.prog 12 #[.agg #[.int .i64 2, .int .i64 1]] w fun e w' => e = .returned (.tuple #[.int .u64 66049, .int .i64 0]) ∧ Below w.heap.size w w' := pack12 2 1 ⟨by decide, by decide⟩ ⟨by decide, by decide⟩ w
theorem C17 (w : World) : Calls Try.prog 17 #[.int .u64 66049] w fun e w' => e = .returned (.tuple #[.agg #[.int .i64 2, .int .i64 1], .int .i64 0]) ∧ Below w.heap.size w w' := shp17 66049 ⟨by decide, by decide⟩ w
theorem C23 (w : World) : Calls Try.prog 23 #[.int .i64 5] w fun e w' => e = .returned (.tuple #[.int .u64 1282, .int .i64 0]) ∧ w = w' := fwd23 5 w
theorem C19 (w : World) : Calls Try.prog 19 #[.int .u64 1282] w fun e w' => e = .returned (.tuple #[.int .i64 5, .int .i64 0]) ∧ Below w.heap.size w w' := tgt19 1282 ⟨by decide, by decide⟩ w
theorem C21a (w : World) : Calls Try.prog 21 #[.int .u64 1] w fun e w' => e = .returned (.int .i64 1) ∧ Below w.heap.size w w' := kind21 1 ⟨by decide, by decide⟩ w
theorem C21b (w : World) : Calls Try.prog 21 #[.int .u64 0] w fun e w' => e = .returned (.int .i64 0) ∧ Below w.heap.size w w' := kind21 0 ⟨by decide, by decide⟩ w
theorem C25 (w : World) : Calls Try.prog 25 #[.int .i64 2] w fun e w' => ∃ b cap, e = .returned (.tuple #[.slice (some ⟨b, 0, none⟩) 2 cap, .int .i64 0]) ∧ w'.cell? ⟨b, 0, none⟩ = some (.int .i64 0) ∧ w'.cell? ⟨b, 1, none⟩ = some (.int .i64 1) ∧ Below w.heap.size w w' := by
  refine (shapes25 2 w).mono ?_
  rintro e w' (⟨v, k, hk, -, -, rfl, ⟨b, cap, rfl, hc⟩, hb⟩ | ⟨h, -, -⟩)
  · obtain rfl : k = 2 := by omega
    have := hc 0 (by omega)
    exact ⟨b, cap, rfl, this.1, this.2, hb⟩
  · omega
set_option maxRecDepth 100000 in
set_option maxHeartbeats 400000 in
theorem awake16 (w : World) : Calls Try.prog 16 #[] w fun e w' => e = .returned (.bool true) ∧ Below w.heap.size w w' := by
  have hq := fun a b W => eqS a b W
  go_enter Try.func16, Try.ntmps16
  go_upto_region 6 with (first
    | (go_at_call 12; refine (C12 _).mono ?_; rintro e w1 ⟨rfl, hb1⟩)
    | (go_at_call 17; refine (C17 _).mono ?_; rintro e w2 ⟨rfl, hb2⟩)
    | (go_at_call 23; refine (C23 _).mono ?_; rintro e w' ⟨rfl, rfl⟩)
    | (go_at_call 19; refine (C19 _).mono ?_; rintro e w3 ⟨rfl, hb3⟩; obtain ⟨hc3, hf3⟩ := bcell hb3; have hz3 : w2.heap.size < w3.heap.size := Nat.lt_of_lt_of_le (by simp) hb3.size)
    | (go_at_call 25; refine (C25 _).mono ?_; rintro e w4 ⟨b, cap, rfl, d0, d1, hb4⟩; obtain ⟨hc4, hf4⟩ := bcell hb4))
  have e0 : w4.cell? ⟨w2.heap.size, 0, none⟩ = some (.int .i64 2) := by rw [hc4 _ _ hz3, hc3 _ _ (by simp)]; simp
  have e1 : w4.cell? ⟨w2.heap.size, 1, none⟩ = some (.int .i64 1) := by rw [hc4 _ _ hz3, hc3 _ _ (by simp)]; simp
  have hB := Lib.hid (below_end (below_end (below_end (below_end hb1 hb2) (alloc_below _ _)) hb3) hb4)
  clear hc3 hf3 hc4 hf4 hb1 hb2 hb3 hb4
  go_wp2_with (go_at_call 21; first
    | ((with_reducible refine (C21a _).mono ?_); rintro e w5 ⟨rfl, hb5⟩)
    | ((with_reducible refine (C21b _).mono ?_); rintro e w6 ⟨rfl, hb6⟩))
  go_ret
  exact ⟨rfl, below_end (below_end hB.out hb5) hb6⟩
end Ytekhkgcdgkfflaa
end Go.Proofs
