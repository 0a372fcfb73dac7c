/- DERIVED. The walks of HostGet: the program's and the model's. -/
import Derived.Test.YtahhjhhnjpbocaaDoorNumImpl
import Derived.Deep.RegionWith
namespace Go.Proofs.YtahhjhhnjpbocaaDoor
open Go.RowKit

/-- What HostGet reads of a text: the name, the number, and whether they are a host. -/
def getName (s : ByteArray) : ByteArray := s.extract 0 (lead s.data.toList)
def getRest (s : ByteArray) : ByteArray := s.extract (lead s.data.toList) s.size
def getNum (s : ByteArray) : Int := numOf (getRest s).data.toList
def getOk (s : ByteArray) : Bool := okB (getName s) (getNum s)

def getVal (s : ByteArray) : Value := if getOk s = true then .tuple #[.agg #[.string (getName s), .int .i64 (getNum s)], .bool true] else .tuple #[.agg #[.string ByteArray.empty, .int .i64 0], .bool false]

theorem lead_le (l : List UInt8) : lead l ≤ l.length := by
  induction l with
  | nil => simp [lead]
  | cons a t ih => unfold lead; split <;> simp; exact ih

theorem getName_size (s : ByteArray) : (getName s).size = lead s.data.toList := by
  have := lead_le s.data.toList
  have hl : s.data.toList.length = s.size := by simp
  unfold getName; rw [ByteArray.size_extract]; omega

theorem number_val (s : ByteArray) (n : Int) (w : World) (h : isNum s.data.toList = true) (hn : n = numOf s.data.toList) :
    Calls Tryd.prog 62 #[.string s] w fun e w' => e = .returned (.tuple #[.int .i64 n, .bool true]) ∧ w' = w := by
  subst hn; exact number_yes s w h

end Go.Proofs.YtahhjhhnjpbocaaDoor
