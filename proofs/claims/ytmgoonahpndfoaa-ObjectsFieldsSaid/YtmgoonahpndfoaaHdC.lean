/- Headers and marks put together, and words taken apart. -/
import Derived.Test.YtmgoonahpndfoaaHdB
namespace Go.Proofs
namespace Ytmgoonahpndfoaa
namespace Hd
open Go.RowKit

theorem below_drewN {B : Nat} {a w : World} (h : Below B a w) (n : Nat) : Below B a (w.drewN n) := ⟨h.os, h.tape, h.output, h.size, h.block⟩
set_option maxRecDepth 100000 in
theorem head59 (P R : Int) (h0 : 0 ≤ P) (h1 : 0 ≤ R) (h2 : P + R ≤ 63) (w : World) :
    Calls Try.prog 59 #[.agg #[.int .i64 P, .int .i64 R]] w fun e w' => e = .returned (.int .u64 (packV P R)) ∧ Below w.heap.size w w' := by
  have O1 := or1 P h0 (by omega)
  have O2 := or2 P R h0 (by omega) h1 (by omega)
  have T := Lib.hid (show packV P R = 1 + P * 256 + R * 65536 by unfold packV; omega)
  have hp : P ≤ 63 := by omega
  have hr : R ≤ 63 := by omega
  go_enter Try.func59, Try.ntmps59
  go_wp2
  go_quiet ((go_at_call 69; first | (with_reducible exact Calls.quiet_of_same ((below_0 _).mono (fun _ _ h => ⟨h.1, h.2.symm⟩))) | (with_reducible exact Calls.quiet_of_same ((below_1 _).mono (fun _ _ h => ⟨h.1, h.2.symm⟩)))))
  go_wp2
  go_ret
  exact ⟨by rw [T.out]; rfl, below_drewN (alloc_below _ _) _⟩
set_option maxRecDepth 100000 in
theorem mark81 (a : Int) (h0 : 1 ≤ a) (h1 : a ≤ 1600) (w : World) :
    Calls Try.prog 81 #[.int .i64 a] w fun e w' => e = .returned (.int .u64 (2 + a * 256)) ∧ w = w' := by
  have O1 := or3 a (by omega) h1
  go_enter Try.func81, Try.ntmps81
  go_wp2_with (go_at_call 69; refine (below_2 _).mono ?_; rintro e w' ⟨rfl, rfl⟩)
  go_ret
  exact ⟨rfl, rfl⟩
set_option maxRecDepth 100000 in
theorem target80 (v : Int) (h0 : 0 ≤ v) (h1 : v ≤ 18446744073709551615) (w : World) :
    Calls Try.prog 80 #[.int .u64 v] w fun e w' => e = .returned (.int .i64 (v / 256)) ∧ w = w' := by
  go_enter Try.func80, Try.ntmps80
  go_wp2_with (go_at_call 69; refine (below_2 _).mono ?_; rintro e w' ⟨rfl, rfl⟩)
  go_ret
  exact ⟨rfl, rfl⟩
set_option maxRecDepth 100000 in
theorem shape76 (v : Int) (h0 : 0 ≤ v) (h1 : v ≤ 18446744073709551615) (w : World) :
    Calls Try.prog 76 #[.int .u64 v] w fun e w' => e = .returned (.agg #[.int .i64 (v / 256 % 256), .int .i64 (v / 65536)]) ∧ Below w.heap.size w w' := by
  have e1 : IntKind.i64.wrap ((v / 256).tmod 256) = v / 256 % 256 := by
    rw [Int.tmod_eq_emod_of_nonneg (by omega)]; exact IntWalk.i64_in _ (by omega)
  have e2 : IntKind.i64.wrap (v / 65536) = v / 65536 := IntWalk.i64_in _ (by omega)
  have E := Lib.hid (And.intro e1 e2)
  clear e1 e2
  go_enter Try.func76, Try.ntmps76
  go_wp2
  go_region_with (go_at_call 69; first | (with_reducible refine (below_0 _).mono ?_; rintro e w' ⟨rfl, rfl⟩) | (with_reducible refine (below_1 _).mono ?_; rintro e w' ⟨rfl, rfl⟩))
  all_goals go_wp2
  all_goals
    refine bodyPost_ret (v := .agg #[.int .i64 (v / 256 % 256), .int .i64 (v / 65536)]) ?_ rfl ⟨rfl, ?_⟩
    · simp [results, Try.f76, go_sem]
      exact E.out
    · exact (alloc_below _ _).drew
end Hd
end Ytmgoonahpndfoaa
end Go.Proofs
