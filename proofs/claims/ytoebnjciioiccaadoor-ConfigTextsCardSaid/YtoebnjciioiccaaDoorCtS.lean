/- SplitN by a space, at most eleven parts. -/
import Derived.Test.YtoebnjciioiccaaDoorCtP
import Derived.Test.YtoebnjciioiccaaDoorCtI
import Derived.Test.YtoebnjciioiccaaDoorShelf
namespace Go.Proofs
namespace YtoebnjciioiccaaDoor
namespace Ct
open Go.RowKit

theorem split46 (s : ByteArray) (m : Int) (w : World) (hs : s.size ≤ 1000000) (hm : w.cell? ⟨1, 0, none⟩ = some (.int .i64 m)) :
    Calls Tryd.prog 46 #[.string s, .string ⟨#[32]⟩, .int .i64 11] w fun e w' =>
      e = .returned (.slice (some ⟨w.heap.size, 0, none⟩) (Lib.splitB ⟨#[32]⟩ 0 (min 11 (s.size + 1) - 1) s).length (min 11 (s.size + 1))) ∧ w' = w.alloc (.cells (Lib.cellsOf (Lib.splitB ⟨#[32]⟩ 0 (min 11 (s.size + 1) - 1) s) (min 11 (s.size + 1))) 9) :=
  Tryd.strings_SplitN s ⟨#[32]⟩ 11 m w (by omega) hm (by decide) (by decide) (by decide)
end Ct
end YtoebnjciioiccaaDoor
end Go.Proofs
