/- The document's examples, as plain facts. -/
import Derived.Test.YtjkphacidpongaaGreatQRmM
namespace Go.Proofs
namespace YtjkphacidpongaaGreat
open Go.RowKit
open Cf (good)

abbrev T0 : Nat → List Int := fun _ => newF
theorem x_new : newN 8 7 4 1 2 = 7 ∧ newT 8 7 4 1 2 = T0 ∧ Cf.chkE 8 7 4 1 2 = 0 := by
  refine ⟨by decide, ?_, by decide⟩
  unfold newT; rw [if_pos (by decide)]
set_option maxRecDepth 100000
theorem x_1 : (recF 8 7 4 1 2 7 T0 6 13).1 = 7 ∧ (recF 8 7 4 1 2 7 T0 6 13).2.2 = 0 ∧ intoF 7 (recF 8 7 4 1 2 7 T0 6 13).2.1 1 = ([6], 0) ∧ ∀ j, j < 8 → ((recF 8 7 4 1 2 7 T0 6 13).2.1 j).length ≤ 100000 := by decide +kernel
theorem x_2 : (recF 8 7 4 1 2 7 T0 6 7).1 = 7 ∧ (recF 8 7 4 1 2 7 T0 6 7).2.2 = 0 ∧ cntF 7 (recF 8 7 4 1 2 7 T0 6 7).2.1 = (0, 0) ∧ ∀ j, j < 8 → ((recF 8 7 4 1 2 7 T0 6 7).2.1 j).length ≤ 100000 := by decide +kernel
theorem x_3 : (recF 8 7 4 1 2 7 T0 6 1).1 = 7 ∧ (recF 8 7 4 1 2 7 T0 6 1).2.2 = 0 ∧ listA ((recF 8 7 4 1 2 7 T0 6 1).2.1 7) = ([6], 0) ∧ ∀ j, j < 8 → ((recF 8 7 4 1 2 7 T0 6 1).2.1 j).length ≤ 100000 := by decide +kernel
theorem x_4 : (stoF 8 7 4 1 2 7 (recF 8 7 4 1 2 7 T0 6 13).2.1 6 13 21).1 = 7 ∧ (stoF 8 7 4 1 2 7 (recF 8 7 4 1 2 7 T0 6 13).2.1 6 13 21).2.2 = 0 ∧ intoF 7 (stoF 8 7 4 1 2 7 (recF 8 7 4 1 2 7 T0 6 13).2.1 6 13 21).2.1 2 = ([6], 0) ∧
    ∀ j, j < 8 → ((stoF 8 7 4 1 2 7 (recF 8 7 4 1 2 7 T0 6 13).2.1 6 13 21).2.1 j).length ≤ 100000 := by decide +kernel
theorem x_5 : (recF 8 7 4 1 2 7 T0 6 61).2.2 = 7 := by decide +kernel
end YtjkphacidpongaaGreat
end Go.Proofs
