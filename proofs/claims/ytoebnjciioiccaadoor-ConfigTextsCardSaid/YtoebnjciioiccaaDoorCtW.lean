/- The reference's words. -/
import Derived.Test.YtoebnjciioiccaaDoorProg
import Derived.WalkKit
import Derived.OwnWalk
import Derived.Below
namespace Go.Proofs
namespace YtoebnjciioiccaaDoor
namespace Ct
open Go.RowKit

def wName : Nat → ByteArray
  | 0 => ⟨#[99, 97, 114, 115]⟩
  | 1 => ⟨#[111, 102]⟩
  | 2 => ⟨#[110, 117, 114, 115, 101, 114, 121]⟩
  | 3 => ⟨#[114, 101, 103, 105, 115, 116, 101, 114, 115]⟩
  | _ => ⟨#[112, 111, 112, 117, 108, 97, 114]⟩
def wordsV : Value := .agg #[.string (wName 0), .string (wName 1), .string (wName 2), .string (wName 3), .string (wName 4)]
theorem words44 (w : World) : Calls Tryd.prog 44 #[] w fun e w' => e = .returned wordsV ∧ Below w.heap.size w w' := by
  go_enter Tryd.func44, Tryd.ntmps44
  go_wp2
  exact bodyPost_ret (v := wordsV) (by simp [results, Tryd.results44, go_sem, wordsV, wName]) rfl ⟨rfl, (Below.refl _ _).alloc (Nat.le_refl _) _⟩
theorem wordsV_index (k : Nat) (hk : k < 5) (w : World) : (Instr.index 60 wordsV (.int .i64 (k : Int))).run Tryd.prog w = .ok (.string (wName k)) w := by
  match k, hk with
  | 0, _ | 1, _ | 2, _ | 3, _ | 4, _ => show _ = _; kernel_rfl
end Ct
end YtoebnjciioiccaaDoor
end Go.Proofs
