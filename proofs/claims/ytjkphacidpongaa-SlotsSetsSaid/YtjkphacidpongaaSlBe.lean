/- The reference's add, where the table is built anew. -/
import Derived.Test.YtjkphacidpongaaSlBd
namespace Go.Proofs
namespace Ytjkphacidpongaa
open Go.RowKit

end Ytjkphacidpongaa
end Go.Proofs
