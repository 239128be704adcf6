/- The reference's put. -/
import Derived.Test.YtjkphacidpongaaSlBa
namespace Go.Proofs
namespace Ytjkphacidpongaa
open Go.RowKit

end Ytjkphacidpongaa
end Go.Proofs
