/- DERIVED. How much a message is: szIntS, szEntry, szEntryS, szMsg. -/
import Derived.Test.YtcmefjicogicladDoorEntAt
namespace Go.Proofs.YtcmefjicogicladDoor
open Go.RowKit

/-- Entries that came in: nothing is known yet of how many votes each has. -/
def EntsRaw (w : World) (oa : Option Addr) (L : List Ent) : Prop := ∀ i, i < L.length → ∃ b off, oa = some ⟨b, off, none⟩ ∧ b < w.heap.size ∧
  w.cell? ⟨b, off + i * 3, none⟩ = some (.int .i64 (L.getD i (0, 0, [])).1) ∧ w.cell? ⟨b, off + i * 3 + 1, none⟩ = some (.int .i64 (L.getD i (0, 0, [])).2.1) ∧
  ∃ (ov : Option Addr) (n cv : Nat), w.cell? ⟨b, off + i * 3 + 2, none⟩ = some (.slice ov n cv) ∧ n = (L.getD i (0, 0, [])).2.2.length ∧ n ≤ maxLen ∧ NumsAt w ov (L.getD i (0, 0, [])).2.2

theorem EntsRaw.below {w w' : World} {oa : Option Addr} {L : List Ent} (h : EntsRaw w oa L) (hb : Below w.heap.size w w') : EntsRaw w' oa L := by
  intro i hi
  obtain ⟨b, off, e, h1, h2, h3, ov, n, cv, h4, h5, h6, h7⟩ := h i hi
  exact ⟨b, off, e, Nat.lt_of_lt_of_le h1 hb.size, by rw [hb.cell h1]; exact h2, by rw [hb.cell h1]; exact h3, ov, n, cv, by rw [hb.cell h1]; exact h4, h5, h6, h7.below hb⟩

theorem EntsRaw.known {w : World} {oa : Option Addr} {L : List Ent} (h : EntsRaw w oa L) (hs : ∀ i, i < L.length → (L.getD i (0, 0, [])).2.2.length ≤ 1048576) : EntsAt w oa L := by
  intro i hi
  obtain ⟨b, off, e, h1, h2, h3, ov, n, cv, h4, h5, _, h7⟩ := h i hi
  exact ⟨b, off, e, h1, h2, h3, ov, n, cv, h4, h5, by rw [h5]; exact hs i hi, h7⟩

theorem szS_any (oa : Option Addr) (n cv : Nat) (l : Int) (w : World) (hn : n ≤ maxLen) (h0 : 0 ≤ l) (h1 : l ≤ 1048576) :
    Calls Tryd.prog 9 #[.slice oa n cv, .int .i64 l] w fun e w' => e = .returned (.int .i64 (if l - n < 0 then -1 else l - n)) ∧ w' = w := by
  have hn' : n ≤ 2 ^ 63 - 1 := hn
  have hw : IntKind.i64.wrap (l - n) = l - n := by rw [IntKind.wrap_i64]; omega
  by_cases h : l - n < 0
  all_goals
    go_enter Tryd.func9, Tryd.ntmps9
    go_wp2
    go_ret
    exact ⟨rfl, rfl⟩

theorem szE_any (x y : Int) (oa : Option Addr) (n cv : Nat) (l : Int) (w : World) (hn : n ≤ maxLen) (h0 : 0 ≤ l) (h1 : l ≤ 1048576) :
    Calls Tryd.prog 22 #[.agg #[.int .i64 x, .int .i64 y, .slice oa n cv], .int .i64 l] w fun e w' => e = .returned (.int .i64 (if l - n < 0 then -1 else l - n)) ∧ Below w.heap.size w w' := by
  obtain ⟨r, hr⟩ : ∃ r : Int, r = if l - n < 0 then -1 else l - n := ⟨_, rfl⟩
  have C : Hid (∀ w', Calls Tryd.prog 9 #[.slice oa n cv, .int .i64 l] w' fun e w2 => e = .returned (.int .i64 r) ∧ w2 = w') := fun w' => by rw [hr]; exact szS_any oa n cv l w' hn h0 h1
  have hrr : r < 0 → r = -1 := by
    intro h
    rw [hr] at h ⊢
    split at h
    · rename_i h2; rw [if_pos h2]
    · omega
  rw [← hr]
  clear hr
  by_cases h : r < 0
  · obtain rfl := hrr h
    clear h hrr
    go_enter Tryd.func22, Tryd.ntmps22
    go_wp2_with fail
    refine (C.out _).mono ?_
    rintro e w' ⟨rfl, rfl⟩
    go_wp2
    go_ret
    exact ⟨rfl, (Below.refl _ _).alloc (Nat.le_refl _) _⟩
  · clear hrr
    go_enter Tryd.func22, Tryd.ntmps22
    go_wp2_with fail
    refine (C.out _).mono ?_
    rintro e w' ⟨rfl, rfl⟩
    go_wp2
    go_ret
    exact ⟨rfl, (Below.refl _ _).alloc (Nat.le_refl _) _⟩

set_option maxRecDepth 100000 in
set_option maxHeartbeats 1600000 in
theorem szES_any (oa : Option Addr) (m cap : Nat) (L : List Ent) (l : Int) (w : World) (hm : m = L.length) (hmm : m ≤ maxLen) (h0 : 0 ≤ l) (h1 : l ≤ 1048576) (hL : EntsRaw w oa L) :
    Calls Tryd.prog 10 #[.slice oa m cap, .int .i64 l] w fun e w' => (∃ r : Int, e = .returned (.int .i64 r) ∧ (0 ≤ r → m ≤ 1048576 ∧ ∀ i, i < L.length → (L.getD i (0, 0, [])).2.2.length ≤ 1048576)) ∧ Below w.heap.size w w' := by
  have hm' : m ≤ 2 ^ 63 - 1 := hmm
  have hw : IntKind.i64.wrap (l - m) = l - m := by rw [IntKind.wrap_i64]; omega
  have HM := hid hm
  have HL := hid hL
  clear hm hL
  by_cases hbig : l - (m : Int) < 0
  · go_enter Tryd.func10, Tryd.ntmps10
    go_wp2
    go_ret
    exact ⟨⟨-1, rfl, by omega⟩, Below.refl _ _⟩
  have hbd : decide (l - (m : Int) < 0) = false := decide_eq_false hbig
  go_enter Tryd.func10, Tryd.ntmps10
  go_wp2
  go_loopw [1, 5] (fun v i w' => Below w.heap.size w w' ∧ ∃ (k : Nat) (x : Int), k ≤ m ∧ i = .int .i64 k ∧ v = .int .i64 x ∧ 0 ≤ x ∧ x ≤ 1048576 ∧ Hid (∀ i, i < k → (L.getD i (0, 0, [])).2.2.length ≤ 1048576)) (fun _ i _ => m - (intOf i).toNat)
  case atStart => exact ⟨Below.refl _ _, 0, l - m, Nat.zero_le _, rfl, rfl, by omega, by omega, fun i hi => absurd hi (Nat.not_lt_zero _)⟩
  case round =>
    obtain ⟨hB, k, x, hk, rfl, rfl, x0, x1, HK⟩ := hrel
    have HB := hid hB
    clear hB
    by_cases hlt : k < m
    · have hltI : (k : Int) < (m : Int) := by omega
      have hkv : k < L.length := by rw [← HM.out]; exact hlt
      obtain ⟨b, off, rfl, _, c0, c1, ov, n, cv, c2, hn, hn2, _⟩ := (HL.out.below HB.out) k hkv
      have HN := hid hn
      obtain ⟨u, hu⟩ : ∃ u, u = (L.getD k (0, 0, [])).1 := ⟨_, rfl⟩
      obtain ⟨y, hy⟩ : ∃ y, y = (L.getD k (0, 0, [])).2.1 := ⟨_, rfl⟩
      rw [← hu] at c0
      rw [← hy] at c1
      obtain ⟨r, hr⟩ : ∃ r : Int, r = if x - n < 0 then -1 else x - n := ⟨_, rfl⟩
      have C : Hid (∀ w', Calls Tryd.prog 22 #[.agg #[.int .i64 u, .int .i64 y, .slice ov n cv], .int .i64 x] w' fun e w2 => e = .returned (.int .i64 r) ∧ Below w'.heap.size w' w2) := fun w' => by rw [hr]; exact szE_any u y ov n cv x w' hn2 x0 x1
      have hrr : 0 ≤ r → r ≤ 1048576 ∧ n ≤ 1048576 := by
        intro h
        rw [hr] at h ⊢
        split at h
        · omega
        · rename_i h2; rw [if_neg h2]; omega
      clear hr hu hy hn hkv
      by_cases hr0 : r < 0
      · go_wp2_with fail
        refine (C.out _).mono ?_
        rintro e w1 ⟨rfl, hb⟩
        have HB1 : Hid (Below w.heap.size w w1) := HB.out.trans (hb.mono HB.out.size)
        clear hb
        go_wp2
        go_ret
        exact ⟨⟨-1, rfl, by omega⟩, HB1.out⟩
      · have hr2 := hrr (by omega)
        go_wp2_with fail
        refine (C.out _).mono ?_
        rintro e w1 ⟨rfl, hb⟩
        have HB1 : Hid (Below w.heap.size w w1) := HB.out.trans (hb.mono HB.out.size)
        clear hb
        go_wp2
        go_roundw
        case rel =>
          refine ⟨HB1.out, k + 1, r, by omega, by go_num, rfl, by omega, hr2.1, fun i hi => ?_⟩
          by_cases e : i = k
          · subst e; rw [← HN.out]; exact hr2.2
          · exact HK.out i (by omega)
        case measure => simp [intOf]; omega
    · have hltI : ¬ (k : Int) < (m : Int) := by omega
      have hkm : k = m := by omega
      have HA : Hid (m ≤ 1048576 ∧ ∀ i, i < L.length → (L.getD i (0, 0, [])).2.2.length ≤ 1048576) := ⟨by omega, fun i hi => HK.out i (by rw [hkm, HM.out]; exact hi)⟩
      clear hkm
      go_wp2
      go_ret
      exact ⟨⟨x, rfl, fun _ => HA.out⟩, HB.out⟩

set_option maxRecDepth 100000 in
set_option maxHeartbeats 1600000 in
theorem szMsg_any (kd fr tt bl ins : Int) (va la : Option Addr) (n vc m lc : Nat) (L : List Ent) (w : World) (hn2 : n ≤ maxLen) (hm : m = L.length) (hm2 : m ≤ maxLen) (hL : EntsRaw w la L) :
    Calls Tryd.prog 4 #[.agg #[.int .i64 kd, .int .i64 fr, .int .i64 tt, .int .i64 bl, .int .i64 ins, .slice va n vc, .slice la m lc], .int .i64 1048576] w fun e w' => (∃ r : Int, e = .returned (.int .i64 r) ∧ (0 ≤ r → n ≤ 1048576 ∧ m ≤ 1048576 ∧ ∀ i, i < L.length → (L.getD i (0, 0, [])).2.2.length ≤ 1048576)) ∧ Below w.heap.size w w' := by
  obtain ⟨r, hr⟩ : ∃ r : Int, r = (if (1048576 : Int) - (n : Int) < 0 then (-1 : Int) else (1048576 : Int) - (n : Int)) := ⟨_, rfl⟩
  have C : Hid (∀ w', Calls Tryd.prog 9 #[.slice va n vc, .int .i64 1048576] w' fun e w2 => e = .returned (.int .i64 r) ∧ w2 = w') := fun w' => by rw [hr]; exact szS_any va n vc 1048576 w' hn2 (by decide) (by decide)
  have hrr : 0 ≤ r → r ≤ 1048576 ∧ n ≤ 1048576 := by
    intro h
    rw [hr] at h ⊢
    split at h
    · omega
    · rename_i h2; rw [if_neg h2]; omega
  clear hr
  by_cases hr0 : r < 0
  · clear hm hL hrr
    go_enter Tryd.func4, Tryd.ntmps4
    go_wp2_with fail
    refine (C.out _).mono ?_
    rintro e w' ⟨rfl, rfl⟩
    go_wp2
    go_ret
    exact ⟨⟨-1, rfl, by omega⟩, (Below.refl _ _).alloc (Nat.le_refl _) _⟩
  have hr2 := hrr (by omega)
  have hr00 : 0 ≤ r := by omega
  have HN := hid hr2.2
  have CS : Hid (∀ w', Below w.heap.size w w' → Calls Tryd.prog 10 #[.slice la m lc, .int .i64 r] w' fun e w2 => (∃ q : Int, e = .returned (.int .i64 q) ∧ (0 ≤ q → m ≤ 1048576 ∧ ∀ i, i < L.length → (L.getD i (0, 0, [])).2.2.length ≤ 1048576)) ∧ Below w'.heap.size w' w2) := fun w' hb => szES_any la m lc L r w' hm hm2 hr00 hr2.1 (hL.below hb)
  clear hm hL hrr hr2
  go_enter Tryd.func4, Tryd.ntmps4
  go_wp2_with fail
  refine (C.out _).mono ?_
  rintro e w' ⟨rfl, rfl⟩
  go_wp2_with fail
  refine (CS.out _ ((Below.refl _ _).alloc (Nat.le_refl _) _)).mono ?_
  rintro e w2 ⟨⟨q, rfl, hq⟩, hb⟩
  have HB : Hid (Below w.heap.size w w2) := ((Below.refl _ _).alloc (Nat.le_refl _) _ : Below w.heap.size w _).trans (hb.mono (by simp))
  have HQ := hid hq
  clear hb hq
  by_cases hq0 : q < 0
  · go_wp2
    go_ret
    exact ⟨⟨-1, rfl, by omega⟩, HB.out⟩
  · go_wp2
    go_ret
    exact ⟨⟨q, rfl, fun h => ⟨HN.out, HQ.out h⟩⟩, HB.out⟩

end Go.Proofs.YtcmefjicogicladDoor
