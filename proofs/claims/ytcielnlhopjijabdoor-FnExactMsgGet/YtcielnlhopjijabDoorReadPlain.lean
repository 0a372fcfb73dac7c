/- DERIVED. What the model reads of a text: plain. -/
import Derived.Test.YtcielnlhopjijabDoorSpecList
import Derived.Test.YtcielnlhopjijabDoorPutSpec
namespace Go.Proofs.YtcielnlhopjijabDoor

/-- The words of a text, parted by blanks. -/
def hW (s : ByteArray) : List (List UInt8) := cutL 32 8 [] s.data.toList

/-- The number that a word says to the model. -/
def hP (s : ByteArray) (k : Nat) : Int := numOf ((hW s).getD k [])
def hV (s : ByteArray) : List Int := mVotes ((hW s).getD 5 [])
def hL (s : ByteArray) : List Ent := mList ((hW s).getD 6 [])

/-- Whether a text of eight words is a message to the model. -/
def hOkay (s : ByteArray) : Bool := msgOkP (hP s 0) (hP s 1) (hP s 2) (hP s 3) (hP s 4) (hV s) (hL s) && decide (putMsg (hP s 0) (hP s 1) (hP s 2) (hP s 3) (hP s 4) (hV s) (hL s) = s)

end Go.Proofs.YtcielnlhopjijabDoor
