/- DERIVED. The walks: each function on the road of the law, by a contract of its own. -/
import Derived.Test.YtmafkelegjjnfacDoorRows
import Derived.Test.YtmafkelegjjnfacDoorPlain
import Derived.WalkKit
import Derived.WalkSpells
import Derived.WalkLawsBesides
namespace Go.Proofs.YtmafkelegjjnfacDoor
open Go.RowKit




theorem extract_all (s : ByteArray) : s.extract 0 s.size = s := by
  simp


end Go.Proofs.YtmafkelegjjnfacDoor
