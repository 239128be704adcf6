/- The law HeaderKnown answers true. -/
import Derived.Test.YtekhkgcdgkfflaaHdI
namespace Go.Proofs
namespace Ytekhkgcdgkfflaa
open Go.RowKit

theorem K12a (w : World) : Calls Try.prog 12 #[.agg #[.int .i64 0, .int .i64 0]] w fun e w' => e = .returned (.tuple #[.int .u64 1, .int .i64 0]) ∧ Below w.heap.size w w' := pack12 0 0 ⟨by decide, by decide⟩ ⟨by decide, by decide⟩ w
theorem K12b (w : World) : Calls Try.prog 12 #[.agg #[.int .i64 40, .int .i64 24]] w fun e w' => e = .returned (.tuple #[.int .u64 0, .int .i64 11]) ∧ Below w.heap.size w w' := pack12 40 24 ⟨by decide, by decide⟩ ⟨by decide, by decide⟩ w
theorem K12c (w : World) : Calls Try.prog 12 #[.agg #[.int .i64 (-1), .int .i64 0]] w fun e w' => e = .returned (.tuple #[.int .u64 0, .int .i64 7]) ∧ Below w.heap.size w w' := pack12 (-1) 0 ⟨by decide, by decide⟩ ⟨by decide, by decide⟩ w
theorem K10 (w : World) : Calls Try.prog 10 #[.agg #[.int .i64 2, .int .i64 1]] w fun e w' => e = .returned (.tuple #[.int .i64 4, .int .i64 0]) ∧ Below w.heap.size w w' := size10 2 1 ⟨by decide, by decide⟩ ⟨by decide, by decide⟩ w
theorem K17a (w : World) : Calls Try.prog 17 #[.int .u64 66048] w fun e w' => e = .returned (.tuple #[.agg #[.int .i64 0, .int .i64 0], .int .i64 6]) ∧ Below w.heap.size w w' := shp17 66048 ⟨by decide, by decide⟩ w
theorem K17b (w : World) : Calls Try.prog 17 #[.int .u64 66051] w fun e w' => e = .returned (.tuple #[.agg #[.int .i64 0, .int .i64 0], .int .i64 6]) ∧ Below w.heap.size w w' := shp17 66051 ⟨by decide, by decide⟩ w
theorem K23 (w : World) : Calls Try.prog 23 #[.int .i64 0] w fun e w' => e = .returned (.tuple #[.int .u64 0, .int .i64 7]) ∧ w = w' := fwd23 0 w
theorem K19 (w : World) : Calls Try.prog 19 #[.int .u64 2] w fun e w' => e = .returned (.tuple #[.int .i64 0, .int .i64 6]) ∧ Below w.heap.size w w' := tgt19 2 ⟨by decide, by decide⟩ w
theorem K21a (w : World) : Calls Try.prog 21 #[.int .u64 1282] w fun e w' => e = .returned (.int .i64 2) ∧ Below w.heap.size w w' := kind21 1282 ⟨by decide, by decide⟩ w
theorem K21b (w : World) : Calls Try.prog 21 #[.int .u64 16777217] w fun e w' => e = .returned (.int .i64 0) ∧ Below w.heap.size w w' := kind21 16777217 ⟨by decide, by decide⟩ w
set_option maxRecDepth 100000 in
set_option maxHeartbeats 1000000 in
theorem known9 (w : World) : Calls Try.prog 9 #[] w fun e w' => e = .returned (.bool true) ∧ Below w.heap.size w w' := by
  go_enter Try.func9, Try.ntmps9
  go_wp2_with (first
    | (go_at_call 12; first | ((with_reducible refine (K12a _).mono ?_); rintro e w1 ⟨rfl, hb⟩; have s1 := Lib.hid (hb); clear hb) | ((with_reducible refine (K12b _).mono ?_); rintro e w6 ⟨rfl, hb⟩; have s6 := Lib.hid (below_end s5.out hb); clear hb) | ((with_reducible refine (K12c _).mono ?_); rintro e w7 ⟨rfl, hb⟩; have s7 := Lib.hid (below_end s6.out hb); clear hb))
    | (go_at_call 10; ((with_reducible refine (K10 _).mono ?_); rintro e w2 ⟨rfl, hb⟩; have s2 := Lib.hid (below_end s1.out hb); clear hb))
    | (go_at_call 17; first | ((with_reducible refine (K17a _).mono ?_); rintro e w3 ⟨rfl, hb⟩; have s3 := Lib.hid (below_end s2.out hb); clear hb) | ((with_reducible refine (K17b _).mono ?_); rintro e w4 ⟨rfl, hb⟩; have s4 := Lib.hid (below_end s3.out (below_end (alloc_below _ _) hb)); clear hb))
    | (go_at_call 23; (with_reducible refine (K23 _).mono ?_); rintro e w' ⟨rfl, rfl⟩)
    | (go_at_call 19; ((with_reducible refine (K19 _).mono ?_); rintro e w5 ⟨rfl, hb⟩; have s5 := Lib.hid (below_end s4.out (below_end (alloc_below _ _) hb)); clear hb))
    | (go_at_call 21; first | ((with_reducible refine (K21a _).mono ?_); rintro e w8 ⟨rfl, hb⟩; have s8 := Lib.hid (below_end s7.out hb); clear hb) | ((with_reducible refine (K21b _).mono ?_); rintro e w9 ⟨rfl, hb⟩; have s9 := Lib.hid (below_end s8.out hb); clear hb))
    | (go_at_call 16; ((with_reducible refine (awake16 _).mono ?_); rintro e w10 ⟨rfl, hb⟩; have s10 := Lib.hid (below_end s9.out hb); clear hb)))
  go_ret
  exact ⟨rfl, s10.out⟩
end Ytekhkgcdgkfflaa
end Go.Proofs
