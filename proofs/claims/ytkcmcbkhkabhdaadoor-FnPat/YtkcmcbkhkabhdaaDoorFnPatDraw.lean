/- DERIVED. The walk of what draws a pattern and a text. -/
import Derived.Test.YtkcmcbkhkabhdaaDoorDrawHost2
namespace Go.Proofs.YtkcmcbkhkabhdaaDoor
open Go.RowKit

set_option maxHeartbeats 800000 in
theorem drawPat_any (oa : Option Addr) (len cap : Nat) (w : World) (h : CodeAt w oa len) (hc : len ≤ cap) (hm : cap ≤ maxLen) :
    Calls Tryd.prog 4 #[.slice oa len cap] w fun e w' => ∃ p s : ByteArray, e = .returned (.tuple #[.string p, .string s]) ∧ p.size ≤ 5 ∧ s.size ≤ 25 ∧ Below w.heap.size w w' := by
  have HC := hid h
  clear h
  go_enter Tryd.func4, Tryd.ntmps4
  go_wp2_with fail
  refine (open_any oa len cap _ HC.out hc hm).mono ?_
  rintro e w1 ⟨rfl, ⟨l, c, hr⟩, hb⟩
  have HR := hid hr
  have HB := hid hb
  have hRo := hr.old
  clear hr hb
  go_wp2_with fail
  refine (of_any w.heap.size _ 12 5 oa l c 0 _ (HR.out.keep ((Below.refl _ _).alloc (Nat.le_refl _) _)) (by omega) (by decide) (by decide) ?_ ?_ ?_).mono ?_
  · simp
  · omega
  · exact strs_new _ _ _ 5 _ 12 (by simp) (by rfl) (by kernel_rfl)
  rintro e w2 ⟨⟨p, rfl, hp⟩, hd⟩
  have HD := hid hd
  have hz2 := hd.2.size
  simp at hz2
  clear hd
  go_wp2_with fail
  refine (of_any w.heap.size _ 11 25 oa l c 1 _ (HD.out.1.keep ((Below.refl _ _).alloc (Nat.le_refl _) _)) (by omega) (by decide) (by decide) ?_ ?_ ?_).mono ?_
  · simp
  · omega
  · exact strs_new _ _ _ 25 _ 11 (by simp) (by rfl) (by kernel_rfl)
  rintro e w3 ⟨⟨s, rfl, hs⟩, hd⟩
  have HD3 := hid hd
  clear hd
  go_wp2
  refine bodyPost_ret (v := .tuple #[.string p, .string s]) (by simp [results, Tryd.results4, go_sem]) rfl ⟨p, s, rfl, hp, hs, ?_⟩
  refine HD3.out.2.below _ _ (Nat.le_refl _) ?_
  refine Below.alloc ?_ (by omega) _
  refine HD.out.2.below _ _ (Nat.le_refl _) ?_
  exact HB.out.alloc (by omega) _

end Go.Proofs.YtkcmcbkhkabhdaaDoor
