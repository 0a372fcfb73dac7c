/- DERIVED. The walk of the model's HostGet, and of the law. -/
import Derived.Test.YtahhjhhnjpbocaaDoorGet
import Derived.Deep.RegionWith
namespace Go.Proofs.YtahhjhhnjpbocaaDoor
open Go.RowKit

end Go.Proofs.YtahhjhhnjpbocaaDoor
