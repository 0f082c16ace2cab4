/- What an end tells, as the model makes it: at any place of any struct. -/
import Derived.Test.YtpaemmoopjkppaaNxtX
import Derived.Test.YtpaemmoopjkppaaAckC
namespace Go.Proofs.Ytpaemmoopjkppaa
open Go.RowKit

end Go.Proofs.Ytpaemmoopjkppaa
