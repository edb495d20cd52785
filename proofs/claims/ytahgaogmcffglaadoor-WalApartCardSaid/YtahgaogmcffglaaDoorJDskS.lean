/- The statements' sectors. -/
import Derived.Test.YtahgaogmcffglaaDoorJBase
import Derived.Test.YtahgaogmcffglaaDoorJDskM
import Derived.Test.YtahgaogmcffglaaDoorJOwn
namespace Go.Proofs.YtahgaogmcffglaaDoor
open Go.RowKit

end Go.Proofs.YtahgaogmcffglaaDoor
