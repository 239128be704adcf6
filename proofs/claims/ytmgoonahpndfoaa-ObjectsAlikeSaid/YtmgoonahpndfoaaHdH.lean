/- Two shapes compared; the laws' awake answers true. -/
import Derived.Test.YtmgoonahpndfoaaHdF
import Derived.Laws.StructEq
import Derived.ChangeKeysEq
import Derived.Deep.Cut
namespace Go.Proofs
namespace Ytmgoonahpndfoaa
namespace Hd
open Go.RowKit

def ints (cs : List Int) : Array Value := (cs.map (Value.int .i64)).toArray
theorem flds23 : ∀ f ∈ (Try.prog.fieldsOf 24).toList, f.name ≠ "_" ∧ f.type = 3 := by
  have h : (Try.prog.fieldsOf 24).toList.all (fun f => decide (f.name ≠ "_") && f.type == 3) = true := by kernel_rfl
  intro f hf
  have := List.all_eq_true.1 h f hf
  simpa using this
theorem offs23 : (Try.prog.fieldsOf 24).toList.map (·.offset) = [0, 1] := by kernel_rfl
theorem held23 : Try.prog.stoodInHeld 24 = false := by kernel_rfl
theorem eqF23 (d : Nat) (W : World) (xs ys : List Int) : ∀ (fs : List Field), (∀ f ∈ fs, f.name ≠ "_" ∧ f.type = 3) → (∀ f ∈ fs, f.offset < xs.length ∧ f.offset < ys.length) →
    (Op.eqFields (d + 1) (ints xs) (ints ys) fs).run Try.prog W = .ok (fs.all fun f => xs.getD f.offset 0 == ys.getD f.offset 0) W := by
  intro fs
  induction fs with
  | nil => intro _ _; rfl
  | cons f fs ih =>
    intro h1 h2
    obtain ⟨hn, ht⟩ := h1 f (by simp)
    obtain ⟨hx, hy⟩ := h2 f (by simp)
    have P3 : Try.prog.plainKey 3 = true := by kernel_rfl
    have e1 : ∀ (zs : List Int), f.offset < zs.length → (part 3 (ints zs) f.offset).run Try.prog W = .ok (.int .i64 (zs.getD f.offset 0)) W := fun zs hz => run_part_plain W P3 (by
      simp [ints, List.getD_eq_getElem?_getD, hz])
    have e3 := run_equalIn_int (P := Try.prog) W d 3 .i64 .i64 (xs.getD f.offset 0) (ys.getD f.offset 0) Try.underlying3
    have ih' := ih (fun g hg => h1 g (by simp [hg])) (fun g hg => h2 g (by simp [hg]))
    rw [Op.eqFields]
    simp only [hn, ne_eq, not_false_eq_true, if_true, ht, Sem.run_bind, e1 xs hx, e1 ys hy, Result.andThen_ok, e3, Sem.run_ite, ih', List.all_cons]
    cases hq : (xs.getD f.offset 0 == ys.getD f.offset 0) <;> simp [Sem.run_pure]
def same2 (a b c d : Int) : Bool := a == c && b == d
theorem eqIn23 (a b c d : Int) (W : World) : (Op.equalIn 10000 24 (.agg (ints [a, b])) (.agg (ints [c, d]))).run Try.prog W = .ok (same2 a b c d) W := by
  rw [run_equalIn_agg W 9999 24 _ _ (by kernel_rfl) held23]
  have ho := offs23
  rw [eqF23 9998 W [a, b] [c, d] _ flds23 (by
    intro f hf
    have : f.offset ∈ (Try.prog.fieldsOf 24).toList.map (·.offset) := List.mem_map.2 ⟨f, hf, rfl⟩
    rw [ho] at this
    simp at this
    simp
    omega)]
  have e : ((Try.prog.fieldsOf 24).toList.all fun f => [a, b].getD f.offset 0 == [c, d].getD f.offset 0) = (((Try.prog.fieldsOf 24).toList.map (·.offset)).all fun i => [a, b].getD i 0 == [c, d].getD i 0) := by
    rw [List.all_map]; rfl
  rw [e, ho]
  simp [same2]
theorem eql23 (a b c d : Int) (W : World) : (binOp .eql 24 (.agg #[.int .i64 a, .int .i64 b]) (.agg #[.int .i64 c, .int .i64 d])).run Try.prog W = .ok (.bool (same2 a b c d)) W := by
  rw [run_eql_struct]
  have h := eqIn23 a b c d W
  unfold ints at h
  simp only [List.map_cons, List.map_nil] at h
  rw [h]
  rfl
theorem neq23 (a b c d : Int) (W : World) : (binOp .neq 24 (.agg #[.int .i64 a, .int .i64 b]) (.agg #[.int .i64 c, .int .i64 d])).run Try.prog W = .ok (.bool (!same2 a b c d)) W := by
  rw [run_neq_struct]
  have h := eqIn23 a b c d W
  unfold ints at h
  simp only [List.map_cons, List.map_nil] at h
  rw [h]
  rfl
theorem same_refl (a b : Int) : same2 a b a b = true := by simp [same2]
theorem eqS (a b : Int) (W : World) : (binOp .eql 24 (.agg #[.int .i64 a, .int .i64 b]) (.agg #[.int .i64 a, .int .i64 b])).run Try.prog W = .ok (.bool true) W := by rw [eql23, same_refl]
end Hd
end Ytmgoonahpndfoaa
end Go.Proofs
