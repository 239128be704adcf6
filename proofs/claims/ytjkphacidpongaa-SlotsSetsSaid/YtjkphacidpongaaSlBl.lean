/- The reference's Join. -/
import Derived.Test.YtjkphacidpongaaSlBk
namespace Go.Proofs
namespace Ytjkphacidpongaa
open Go.RowKit

end Ytjkphacidpongaa
end Go.Proofs
