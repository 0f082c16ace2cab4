/- PackLow of the model; PackHigh of both. -/
import Derived.Test.YtcanmhlhnihijaaDoorPackC
import Derived.Test.YtcanmhlhnihijaaDoorBackC
namespace Go.Proofs.YtcanmhlhnihijaaDoor
open Go.RowKit

def phigh (n size : Int) : List Int := (plow n size).reverse

end Go.Proofs.YtcanmhlhnihijaaDoor
