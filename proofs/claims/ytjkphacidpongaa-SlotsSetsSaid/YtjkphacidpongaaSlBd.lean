/- The reference's add. -/
import Derived.Test.YtjkphacidpongaaSlBc
namespace Go.Proofs
namespace Ytjkphacidpongaa
open Go.RowKit

theorem Row.iat {w W : World} {v : Value} {zs : List Int} (h : Row w W v zs) : IAt W v zs := IAt.of_own h
theorem Row.below {w W W' : World} {v : Value} {zs : List Int} (h : Row w W v zs) (hb : Below W.heap.size W W') : Row w W' v zs := own_below h hb
theorem Roomy.tabs {l c : List Int} (h : Roomy c l) (k : Nat) : Tab ((l.take k).foldl putF c) := (h.upto k).all.1
theorem Roomy.lens {l c : List Int} (h : Roomy c l) (k : Nat) : ((l.take k).foldl putF c).length = c.length := (h.upto k).all.2.1
end Ytjkphacidpongaa
end Go.Proofs
