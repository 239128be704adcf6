/- Zero, cmp.Or and Differ. -/
import Derived.Test.YtmgoonahpndfoaaArC
import Derived.Test.YtmgoonahpndfoaaArS
namespace Go.Proofs
namespace Ytmgoonahpndfoaa
open Go.RowKit

end Ytmgoonahpndfoaa
end Go.Proofs
