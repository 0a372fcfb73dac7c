/- DERIVED. Lists of hosts, plain: nothing of the program. -/
import Derived.Test.YtahhjhhnjpbocacHsPlain
namespace Go.Proofs.Ytahhjhhnjpbocac

abbrev Hs := List (ByteArray × Int)

def Sof (o : Hs) (i : Nat) : ByteArray := (o.getD i (ByteArray.empty, 0)).1

def Mof (o : Hs) (i : Nat) : Int := (o.getD i (ByteArray.empty, 0)).2

def okH (o : Hs) : Bool := listOk (Sof o) (Mof o) o.length

theorem okUpto_each (S : Nat → ByteArray) (M : Nat → Int) (n i : Nat) (h : okUpto S M n = true) (hi : i < n) : okB (S i) (M i) = true := by
  cases e : okB (S i) (M i)
  · have := okUpto_le S M (k := i + 1) (n := n) (by omega) (by simp [okUpto, e])
    rw [h] at this; cases this
  · rfl

theorem okH_each (o : Hs) (h : okH o = true) : o.length ≤ 30 ∧ ∀ j, j < o.length → okB (Sof o j) (Mof o j) = true := by
  unfold okH listOk at h
  rw [Bool.and_eq_true, decide_eq_true_eq] at h
  exact ⟨by omega, fun j hj => okUpto_each _ _ _ _ h.1 hj⟩

theorem sof_at (o : Hs) (i : Nat) (hi : i < o.length) : o[i] = (Sof o i, Mof o i) := by
  simp [Sof, Mof, List.getD, List.getElem?_eq_getElem hi]

end Go.Proofs.Ytahhjhhnjpbocac
