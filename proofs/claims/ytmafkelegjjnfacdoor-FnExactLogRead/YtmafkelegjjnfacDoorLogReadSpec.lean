/- DERIVED. The walk of the model's reading of a log. -/
import Derived.Test.YtmafkelegjjnfacDoorLogOneWalks
import Derived.Deep.LoopGhost
namespace Go.Proofs.YtmafkelegjjnfacDoor
open Go.RowKit

/-- What reading a log answers: its records in a row of the call's own, and how many bytes they take. -/
def ReadOut (w : World) (s : ByteArray) (v : Value) (w' : World) : Prop := w'.ownsRow w.heap.size 9 1 v (readS s).length ((readS s).map Value.string) ∧ Below w.heap.size w w'

theorem ext_ext (s : ByteArray) (p z : Nat) : (s.extract p s.size).extract z (s.extract p s.size).size = s.extract (p + z) s.size := by
  rw [ByteArray.extract_extract]
  congr 1
  rw [ByteArray.size_extract]
  omega

theorem one_ext {s r : ByteArray} {P : List ByteArray} (hp : sizeR P ≤ s.size) (hr : P ++ readS (s.extract (sizeR P) s.size) = readS s) (h : oneR (s.extract (sizeR P) s.size) = some r) :
    (P ++ [r]) ++ readS (s.extract (sizeR P + (putR r).size) s.size) = readS s ∧ sizeR (P ++ [r]) = sizeR P + (putR r).size ∧ sizeR P + (putR r).size ≤ s.size := by
  have h1 := one_size h
  rw [ByteArray.size_extract] at h1
  refine ⟨?_, by rw [sizeR_append]; simp [sizeR], by omega⟩
  rw [← hr, readS_some h, ext_ext s]
  simp

theorem cell_one' (w : World) (u : Value) (e : TypeId) : ∀ (j : Nat) x, [u][j]? = some x → (w.alloc (.cells #[u] e)).cell? ((⟨w.heap.size, 0, none⟩ : Addr).add j) = some x := cell_new1 w u e

theorem oneOut_none {s x : ByteArray} {m : Int} (h : OneOut s x m) (hm : ¬ 0 < m) : oneR s = none := by
  rcases h with ⟨h, _, _⟩ | ⟨r, _, _, e⟩
  · exact h
  · have := putR_pos r
    omega

theorem oneOut_some {s x : ByteArray} {m : Int} (h : OneOut s x m) (hm : 0 < m) : oneR s = some x ∧ m = ((putR x).size : Int) := by
  rcases h with ⟨_, _, e⟩ | ⟨r, h, rfl, e⟩
  · omega
  · exact ⟨h, e⟩

set_option maxRecDepth 100000 in
set_option maxHeartbeats 1600000 in
theorem l10Read_any (s : ByteArray) (w : World) (hs : s.size ≤ 6000) :
    Calls Tryd.prog 9 #[.string s] w fun e w' => ∃ v, e = .returned (.tuple #[v, .int .i64 (sizeR (readS s) : Nat)]) ∧ Hid (ReadOut w s v w') := by
  obtain ⟨i0, hi, hz0, hz1, hz2⟩ := info_parts infoString
  have C1 : Hid (∀ (t : ByteArray) (w : World), t.size ≤ 6000 → Calls Tryd.prog 13 #[.string t] w fun e w' => (∃ x m, e = .returned (.tuple #[.string x, .int .i64 m]) ∧ Hid (OneOut t x m)) ∧ Below w.heap.size w w') := fun t w h => l10One_any t w h
  go_enter Tryd.func9, Tryd.ntmps9
  go_wp2_with fail
  refine (C1.out s _ hs).mono ?_
  rintro e w1 ⟨⟨x, m, rfl, ho⟩, hb⟩
  have HB1 : Hid (Below w.heap.size w w1) := ((Below.refl _ w).alloc (Nat.le_refl _) _).trans (hb.mono (by simp))
  have HROW : Hid (w1.ownsRow w.heap.size 9 1 (.slice (some ⟨w.heap.size, 0, none⟩) 0 0) 0 []) := by
    have h0 : (w.alloc (.cells #[] 9)).ownsRow w.heap.size 9 1 (.slice (some ⟨w.heap.size, 0, none⟩) 0 0) 0 [] := World.ownsRow_made _ #[] 0 (Nat.le_refl _) (by decide) rfl
    exact row_ownBelow h0 (hb.mono (by simp))
  clear hb
  go_wp2
  go_loopg [4, 5, 6, 7] s.size (fun gh v4 v5 v6 v7 wr => ∃ (P : List ByteArray) (x : ByteArray) (m : Int), v5 = .int .i64 (sizeR P : Nat) ∧ v6 = .string x ∧ v7 = .int .i64 m ∧ Hid (OneOut (s.extract (sizeR P) s.size) x m) ∧ Aside (P ++ readS (s.extract (sizeR P) s.size) = readS s) ∧ sizeR P ≤ s.size ∧ s.size - sizeR P ≤ gh ∧ wr.ownsRow w.heap.size 9 1 v4 P.length (P.map Value.string) ∧ Below w.heap.size w wr ∧ P.length ≤ sizeR P)
  case atStart => exact ⟨[], x, m, rfl, rfl, rfl, by simpa [sizeR] using ho, by show _ = _; simp [sizeR], Nat.zero_le _, by simp [sizeR], HROW.out, HB1.out, by simp [sizeR]⟩
  case round =>
    obtain ⟨P, x, m, rfl, rfl, rfl, HO, HP, hps, hpg, hown, hB, hpl⟩ := hrel
    have HB := hid hB
    have HS := hid hB.size
    clear hB HB1 HROW ho
    obtain ⟨oa, cp, rfl⟩ := row_shape hown
    have HOWN := hid hown
    by_cases hm : 0 < m
    · obtain ⟨h1, h2⟩ := oneOut_some HO.out hm
      obtain ⟨hq1, hq2, hq3⟩ := one_ext hps HP.out h1
      have hpos := putR_pos x
      obtain ⟨z, hz⟩ : ∃ z, z = (putR x).size := ⟨_, rfl⟩
      obtain ⟨p, hp⟩ : ∃ p, p = sizeR P := ⟨_, rfl⟩
      rw [← hz] at h2 hq1 hq2 hq3 hpos
      rw [← hp] at hps hpg hpl hq1 hq2 hq3 ⊢
      subst h2
      have HQ1 : Aside ((P ++ [x]) ++ readS (s.extract (p + z) s.size) = readS s) := hq1
      have HQ2 : Aside (sizeR (P ++ [x]) = p + z) := hq2
      obtain ⟨q, hq⟩ : ∃ q, q = p + z := ⟨_, rfl⟩
      have hqI : (p : Int) + (z : Int) = (q : Int) := by omega
      rw [← hq] at HQ1 HQ2 hq3
      have HQ := hid hq
      have hqs : (q : Int) ≤ (s.size : Int) := by omega
      have hpl2 : P.length ≤ 6000 := by omega
      have hex : (s.extract q s.size).size ≤ 6000 := by rw [ByteArray.size_extract]; omega
      clear hp hz hq hq1 hq2 h1 HO HP
      go_wp2_with (at_builtin; refine wpList_append_own _ rfl _ _ 22 rfl w.heap.size 9 i0 (.string ⟨#[]⟩) 1 16 Tryd.underlying22 hi hz0 hz1 hz2 rfl (by decide) _ _ _ rfl (hown.alloc _) ⟨wr.heap.size, 0, none⟩ 1 1 [.string x] rfl rfl (cell_new1 _ _ _) (by simp [Value.oneCell']) (by unfold maxLen; omega) (by omega) (by have := HS.out; simp; omega) ?_)
      intro v' w2 hown' hgrow _
      have HB2 : Hid (Below w.heap.size w w2) := (HB.out.alloc HS.out _).trans (below_grown (hown.alloc _) (by have := HS.out; simp; omega) hgrow)
      have HOWN' := hid hown'
      clear hown' hgrow hown HOWN
      go_wp2_with fail
      refine (C1.out (s.extract q s.size) _ hex).mono ?_
      rintro e w3 ⟨⟨y, m2, rfl, ho2⟩, hb⟩
      have HB3 : Hid (Below w.heap.size w w3) := HB2.out.trans (hb.mono HB2.out.size)
      have HR3 : Hid (w3.ownsRow w.heap.size 9 1 v' (P.length + 1) (P.map Value.string ++ [.string x])) := hid (row_ownBelow HOWN'.out hb)
      clear hb HOWN'
      go_wp2
      go_roundg (s.size - q)
      case measure => have := HQ.out; omega
      case rel =>
        refine ⟨P ++ [x], y, m2, by rw [HQ2.out], rfl, rfl, by rw [HQ2.out]; exact ho2, by rw [HQ2.out]; exact HQ1, by rw [HQ2.out]; exact hq3, by rw [HQ2.out]; exact Nat.le_refl _, ?_, HB3.out, ?_⟩
        · have := HR3.out
          simpa using this
        · rw [HQ2.out]; have := HQ.out; simp; omega
    · have h1 := oneOut_none HO.out hm
      have hE : readS s = P := by rw [← HP.out, readS_none h1, List.append_nil]
      have HE := hid hE
      have hm' : ¬ m > 0 := hm
      clear hE h1 HP
      go_wp2
      go_ret2
      refine ⟨.slice oa P.length cp, by rw [HE.out]; rfl, ?_⟩
      show ReadOut w s _ _
      unfold ReadOut
      rw [HE.out]
      exact ⟨HOWN.out, HB.out⟩

set_option maxRecDepth 100000 in
set_option maxHeartbeats 800000 in
theorem specRead_any (s : ByteArray) (w : World) (hs : s.size ≤ maxLen) :
    Calls Tryd.prog 4 #[.string s] w fun e w' => ∃ v, e = .returned (.tuple #[v, .int .i64 (sizeR (logS s) : Nat)]) ∧ w'.ownsRow w.heap.size 9 1 v (logS s).length ((logS s).map Value.string) ∧ Below w.heap.size w w' := by
  have hs' : s.size ≤ 2 ^ 63 - 1 := hs
  by_cases h6 : (s.size : Int) > 6000
  · have HE : Hid (logS s = []) := if_neg (by omega)
    go_enter Tryd.func4, Tryd.ntmps4
    go_wp2
    go_ret2
    refine ⟨_, by rw [HE.out]; rfl, ?_, Below.refl _ _⟩
    rw [HE.out]
    exact World.ownsRow_nil _ _ _ _
  · have HE : Hid (logS s = readS s) := if_pos (by omega)
    have CR : Hid (∀ w, Calls Tryd.prog 9 #[.string s] w fun e w' => ∃ v, e = .returned (.tuple #[v, .int .i64 (sizeR (readS s) : Nat)]) ∧ Hid (ReadOut w s v w')) := fun w => l10Read_any s w (by omega)
    go_enter Tryd.func4, Tryd.ntmps4
    go_wp2_with fail
    refine (CR.out _).mono ?_
    rintro e w1 ⟨v, rfl, hr⟩
    go_wp2
    go_ret2
    refine ⟨v, by rw [HE.out]; rfl, ?_⟩
    rw [HE.out]
    exact hr.out

end Go.Proofs.YtmafkelegjjnfacDoor
