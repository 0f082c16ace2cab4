/- The keys, of the model. -/
import Derived.Test.YtbjcgdgebbiieaaMacC
import Derived.Test.YtbjcgdgebbiieaaPairC
namespace Go.Proofs.Ytbjcgdgebbiieaa
open Go.RowKit

def firstW (l r : List Int) : List Int := macW (macW l r) [1]
def otherW (l r : List Int) : List Int := macW (macW l r) (firstW l r ++ [2])

end Go.Proofs.Ytbjcgdgebbiieaa
