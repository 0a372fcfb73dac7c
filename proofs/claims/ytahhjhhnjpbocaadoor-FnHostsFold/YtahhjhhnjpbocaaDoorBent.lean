/- DERIVED. The walks of what draws texts of hosts. -/
import Derived.Test.YtahhjhhnjpbocaaDoorDrawHost2
namespace Go.Proofs.YtahhjhhnjpbocaaDoor
open Go.RowKit

end Go.Proofs.YtahhjhhnjpbocaaDoor
