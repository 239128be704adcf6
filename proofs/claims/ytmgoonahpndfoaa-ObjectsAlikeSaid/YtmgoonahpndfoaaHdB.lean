/- Headers and marks as plain functions on numbers; Pack and Forward, the program's and the reference's; a word taken apart. -/
import Derived.Test.YtmgoonahpndfoaaHdA
import Derived.Deep.RegionWith
namespace Go.Proofs
namespace Ytmgoonahpndfoaa
namespace Hd
open Go.RowKit

theorem or_low (a b : Nat) (i : Nat) (hb : b % 2 ^ i = 0) (ha : a < 2 ^ i) : a ||| b = a + b := by rw [Nat.or_comm, nat_join i b a hb ha, Nat.add_comm]
theorem or1 (P : Int) (h0 : 0 ≤ P) (h1 : P ≤ 63) : bits .or .u64 1 (P * 256) = 1 + P * 256 := by
  rw [u64_or _ _ (by omega) (by omega) (by omega) (by omega), or_low _ _ 8 (by omega) (by decide)]; omega
theorem or2 (P R : Int) (h0 : 0 ≤ P) (h1 : P ≤ 63) (h2 : 0 ≤ R) (h3 : R ≤ 63) : bits .or .u64 (1 + P * 256) (R * 65536) = 1 + P * 256 + R * 65536 := by
  rw [u64_or _ _ (by omega) (by omega) (by omega) (by omega), or_low _ _ 16 (by omega) (by omega)]; omega
theorem or3 (a : Int) (h0 : 0 ≤ a) (h1 : a ≤ 1600) : bits .or .u64 2 (a * 256) = 2 + a * 256 := by
  rw [u64_or _ _ (by omega) (by omega) (by omega) (by omega), or_low _ _ 8 (by omega) (by decide)]; omega
def belowV (k : Int) : Int := if k = 1 then 16 else 8
theorem below_0 (w : World) : Calls Try.prog 69 #[.int .i64 0] w fun e w' => e = .returned (.int .i64 8) ∧ w = w' := by
  go_enter Try.func69, Try.ntmps69
  go_wp2
  go_ret
  exact ⟨rfl, rfl⟩
theorem below_1 (w : World) : Calls Try.prog 69 #[.int .i64 1] w fun e w' => e = .returned (.int .i64 16) ∧ w = w' := by
  go_enter Try.func69, Try.ntmps69
  go_wp2
  go_ret
  exact ⟨rfl, rfl⟩
theorem below_2 (w : World) : Calls Try.prog 69 #[.int .i64 2] w fun e w' => e = .returned (.int .i64 8) ∧ w = w' := by
  go_enter Try.func69, Try.ntmps69
  go_wp2
  go_ret
  exact ⟨rfl, rfl⟩
end Hd
end Ytmgoonahpndfoaa
end Go.Proofs