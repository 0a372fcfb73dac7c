/- DERIVED. The walk of the law on HostsOk. -/
import Derived.Test.YtjjcpkobpcpdeadHsTo
import Derived.Test.YtjjcpkobpcpdeadHsImpl
namespace Go.Proofs.Ytjjcpkobpcpdead
open Go.RowKit

set_option maxHeartbeats 400000 in
theorem specHostsOk (b off len cap : Nat) (S : Nat → ByteArray) (M : Nat → Int) (w : World) (hc : len ≤ cap) (hm : cap ≤ maxLen) (R : RowAt w b off len S M) :
    Calls Try.prog 5 #[.slice (some ⟨b, off, none⟩) len cap] w fun e w' => e = .returned (.bool (listOk S M len)) ∧ Below w.heap.size w w' := by
  go_enter Try.func5, Try.ntmps5
  go_wp2_with fail
  refine (listOk_spec _ _ _ _ S M _ hc hm R).mono ?_
  rintro e w1 ⟨rfl, hb1⟩
  have HB1 := hid hb1
  clear hb1
  go_wp2
  go_ret
  exact ⟨rfl, HB1.out⟩

/-- What the law calls, at a list of hosts: how much room it takes, and its copies. -/
structure LawArg (oa : Option Addr) (len cap : Nat) (S : Nat → ByteArray) (M : Nat → Int) (w : World) : Prop where
  sz : ∀ w1, Below w.heap.size w w1 → Calls Try.prog 4 #[.slice oa len cap, .int .i64 1048576] w1 fun e w' => (∃ r : Int, e = .returned (.int .i64 r) ∧ (0 ≤ r → len ≤ 1048576)) ∧ Below w1.heap.size w1 w'
  to : ∀ w1, Below w.heap.size w w1 → len ≤ 1048576 → Calls Try.prog 6 #[.slice oa len cap] w1 fun e w' => (∃ B, e = .returned (.slice (some ⟨B, 0, none⟩) len len) ∧ w1.heap.size ≤ B ∧ RowAt w' B 0 len S M) ∧ Below w1.heap.size w1 w'

theorem LawArg.none (oa : Option Addr) (cap : Nat) (S : Nat → ByteArray) (M : Nat → Int) (w : World) : LawArg oa 0 cap S M w where
  sz := fun w1 _ => (szS_none oa cap w1).mono (by rintro e w' ⟨rfl, rfl⟩; exact ⟨⟨_, rfl, fun _ => by decide⟩, Below.refl _ _⟩)
  to := fun w1 _ _ => toS_none oa cap S M w1

theorem LawArg.row (b off len cap : Nat) (S : Nat → ByteArray) (M : Nat → Int) (w : World) (hc : len ≤ cap) (hm : cap ≤ maxLen) (R : RowAt w b off len S M) : LawArg (some ⟨b, off, Option.none⟩) len cap S M w where
  sz := fun w1 hb => szS_any b off len cap S M w1 hc hm (R.below hb)
  to := fun w1 hb hn => toS_any b off len cap S M w1 hn (R.below hb)

set_option maxHeartbeats 600000 in
theorem law_any (oa : Option Addr) (len cap : Nat) (S : Nat → ByteArray) (M : Nat → Int) (w : World) (L : LawArg oa len cap S M w) :
    Calls Try.prog 3 #[.slice oa len cap] w fun e w' => e = .returned (.bool true) ∧ Below w.heap.size w w' := by
  have HL := hid L
  clear L
  go_enter Try.func3, Try.ntmps3
  go_wp2_with fail
  refine (HL.out.sz _ (Below.refl _ _)).mono ?_
  rintro e w1 ⟨⟨r, rfl, hr⟩, hb1⟩
  have HB1 := hid hb1
  have HRR := hid hr
  clear hb1 hr
  by_cases hneg : r < 0
  · go_wp2
    go_ret
    exact ⟨rfl, HB1.out⟩
  · have HN : Hid (len ≤ 1048576) := HRR.out (by omega)
    have HM : Hid (len ≤ maxLen) := by show len ≤ maxLen; have := HN.out; unfold maxLen; omega
    go_wp2_with fail
    refine (HL.out.to _ HB1.out HN.out).mono ?_
    rintro e w2 ⟨⟨B2, rfl, hB2, R2⟩, hb2⟩
    have HR2 := hid R2
    have HB2 : Hid (Below w.heap.size w w2) := HB1.out.trans (hb2.mono HB1.out.size)
    clear hb2 R2 hB2
    go_wp2_with fail
    refine (specHostsOk _ _ _ _ S M _ (Nat.le_refl _) HM.out HR2.out).mono ?_
    rintro e w3 ⟨rfl, hb3⟩
    have HB3 : Hid (Below w.heap.size w w3) := HB2.out.trans (hb3.mono HB2.out.size)
    clear hb3
    go_wp2_with fail
    refine (HL.out.to _ HB3.out HN.out).mono ?_
    rintro e w4 ⟨⟨B4, rfl, hB4, R4⟩, hb4⟩
    have HR4 := hid R4
    have HB4 : Hid (Below w.heap.size w w4) := HB3.out.trans (hb4.mono HB3.out.size)
    clear hb4 R4 hB4
    go_wp2_with fail
    refine (hostsOk_impl _ _ _ _ S M _ (Nat.le_refl _) HM.out HR4.out).mono ?_
    rintro e w5 ⟨rfl, hb5⟩
    have HB5 : Hid (Below w.heap.size w w5) := HB4.out.trans (hb5.mono HB4.out.size)
    have HR5 : Hid (RowAt w5 B4 0 len S M) := HR4.out.below hb5
    clear hb5
    cases hk : listOk S M len
    all_goals
      go_wp2_with fail
      refine (HL.out.to _ HB5.out HN.out).mono ?_
      rintro e w6 ⟨⟨B6, rfl, hB6, R6⟩, hb6⟩
      have HR6 := hid R6
      have HB6 : Hid (Below w.heap.size w w6) := HB5.out.trans (hb6.mono HB5.out.size)
      have HR56 : Hid (RowAt w6 B4 0 len S M) := HR5.out.below hb6
      clear hb6 R6 hB6
      go_wp2_with fail
      refine (eqS_same _ _ _ S M _ HN.out HR56.out HR6.out).mono ?_
      rintro e w7 ⟨rfl, hb7⟩
      have HB7 : Hid (Below w.heap.size w w7) := HB6.out.trans (hb7.mono HB6.out.size)
      clear hb7
      go_wp2
      go_ret
      exact ⟨rfl, HB7.out⟩

end Go.Proofs.Ytjjcpkobpcpdead
