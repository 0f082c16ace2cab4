/- PackLow of the model; PackHigh of both. -/
import Derived.Test.YtcanmhlhnihijaaPackC
import Derived.Test.YtcanmhlhnihijaaBackC
namespace Go.Proofs.Ytcanmhlhnihijaa
open Go.RowKit

def phigh (n size : Int) : List Int := (plow n size).reverse

end Go.Proofs.Ytcanmhlhnihijaa
