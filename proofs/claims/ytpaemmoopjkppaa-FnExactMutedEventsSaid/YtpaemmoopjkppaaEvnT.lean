import Derived.Test.YtpaemmoopjkppaaEvnC
import Derived.Test.YtpaemmoopjkppaaLstX
import Derived.Test.YtpaemmoopjkppaaApC
/- Lists of events as things. -/
namespace Go.Proofs.Ytpaemmoopjkppaa
open Go.RowKit

def tE := tL EventD.cels 6
theorem okE (A : Option Addr) (n : Nat) (els : List EventD) : (tE A n els).Ok := okL _ _ A n els
def apE := @Ap EventD EventD.cels 6 102
end Go.Proofs.Ytpaemmoopjkppaa
