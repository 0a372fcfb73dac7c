/- DERIVED. Plain: two lists of hosts, merged. Nothing of the program. -/
import Derived.Test.YtahhjhhnjpbocacHsCore
namespace Go.Proofs.Ytahhjhhnjpbocac

def lessH (x y : ByteArray × Int) : Bool := lessB x.1 x.2 y.1 y.2

/-- Two lists, merged: of two that are alike the first. -/
def mergeF : Nat → Hs → Hs → Hs
  | 0, _, _ => []
  | _ + 1, [], [] => []
  | f + 1, x :: a, [] => x :: mergeF f a []
  | f + 1, [], y :: b => y :: mergeF f [] b
  | f + 1, x :: a, y :: b => if lessH x y = true then x :: mergeF f a (y :: b) else if lessH y x = true then y :: mergeF f (x :: a) b else x :: mergeF f a b

theorem merge_end (f : Nat) : mergeF f [] [] = [] := by
  cases f <;> rfl

theorem merge_mem (f : Nat) (a b : Hs) (h : ByteArray × Int) (hm : h ∈ mergeF f a b) : h ∈ a ∨ h ∈ b := by
  induction f generalizing a b with
  | zero => cases hm
  | succ f ih =>
    cases a with
    | nil =>
      cases b with
      | nil => cases hm
      | cons y b =>
        rw [mergeF] at hm
        rcases List.mem_cons.1 hm with e | h1
        · exact Or.inr (by rw [e]; simp)
        · rcases ih _ _ h1 with h2 | h2
          · cases h2
          · exact Or.inr (by simp [h2])
    | cons x a =>
      cases b with
      | nil =>
        rw [mergeF] at hm
        rcases List.mem_cons.1 hm with e | h1
        · exact Or.inl (by rw [e]; simp)
        · rcases ih _ _ h1 with h2 | h2
          · exact Or.inl (by simp [h2])
          · cases h2
      | cons y b =>
        rw [mergeF] at hm
        split at hm
        · rcases List.mem_cons.1 hm with e | h1
          · exact Or.inl (by rw [e]; simp)
          · rcases ih _ _ h1 with h2 | h2
            · exact Or.inl (by simp [h2])
            · exact Or.inr h2
        · split at hm
          · rcases List.mem_cons.1 hm with e | h1
            · exact Or.inr (by rw [e]; simp)
            · rcases ih _ _ h1 with h2 | h2
              · exact Or.inl h2
              · exact Or.inr (by simp [h2])
          · rcases List.mem_cons.1 hm with e | h1
            · exact Or.inl (by rw [e]; simp)
            · rcases ih _ _ h1 with h2 | h2
              · exact Or.inl (by simp [h2])
              · exact Or.inr (by simp [h2])

/-- What HostsJoin comes to. -/
def joinH (A B : Hs) : Hs := if okH A = true ∧ okH B = true ∧ (mergeF (A.length + B.length) A B).length ≤ 30 then mergeF (A.length + B.length) A B else []

end Go.Proofs.Ytahhjhhnjpbocac
