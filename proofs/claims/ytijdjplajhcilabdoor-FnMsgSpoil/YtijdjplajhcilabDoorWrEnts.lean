/- DERIVED. The writer's method entries. -/
import Derived.Test.YtijdjplajhcilabDoorWrMsg
import Derived.Test.YtijdjplajhcilabDoorEntText
namespace Go.Proofs.YtijdjplajhcilabDoor
open Go.RowKit

/-- The first k entries behind what parts them from what is ahead. -/
def xText (c : UInt8) (L : List Ent) (k : Nat) : ByteArray := if k = 0 then ⟨#[]⟩ else ⟨#[c]⟩ ++ lText L k

theorem xText_next (c : UInt8) (L : List Ent) (k : Nat) : xText c L (k + 1) = (((((xText c L k ++ ⟨#[partC c 59 k]⟩) ++ decI (L.getD k (0, 0, [])).1) ++ ⟨#[58]⟩) ++ decI (L.getD k (0, 0, [])).2.1)) ++ (⟨#[58]⟩ ++ putV (L.getD k (0, 0, [])).2.2) := by
  unfold xText partC
  rw [if_neg (by omega), lText_next]
  by_cases h : k = 0
  · subst h
    rw [if_pos rfl, if_pos rfl, if_neg (by omega)]
    show ⟨#[c]⟩ ++ ((((((⟨#[]⟩ : ByteArray) ++ decI _) ++ ⟨#[58]⟩) ++ decI _) ++ ⟨#[58]⟩) ++ putV _) = _
    rw [empty_app, empty_app]
    simp only [ByteArray.append_assoc]
  · rw [if_neg h, if_neg h, if_pos (by omega)]
    simp only [ByteArray.append_assoc]

theorem xText_size {c : UInt8} {L : List Ent} (h : ∀ i, i < L.length → entOk (L.getD i (0, 0, [])) = true) (k : Nat) (hk : k ≤ L.length) : (xText c L k).size ≤ 20000 * k + 1 := by
  unfold xText
  split
  · show (0 : Nat) ≤ _
    omega
  · rw [ByteArray.size_append, size_one]
    have := lText_size h k hk
    omega

theorem neEnt : ∀ (c : Array Value) (fz : Nat × Nat) (cur : Array Value) (f : Nat × Nat), Obj.cells cur 53 f ≠ Obj.cells c 5 fz := by
  intro c fz cur f h
  injection h with h1 h2 h3
  exact absurd h2 (by decide)

/-- A block of an entry's own stays, whatever is written. -/
theorem ent_kept {W0 w w' : World} {b k : Nat} {t : ByteArray} {cur : Array Value} (h : Wrs W0 b t w w') (hk : w.heap[k]? = some (.cells cur 53 (0, 0))) (hb : k ≠ b) : w'.heap[k]? = some (.cells cur 53 (0, 0)) :=
  h.2.2.2 k _ hk (fun e => hb (by injection e)) (fun c fz => neEnt c fz cur (0, 0))

theorem cell_in {w : World} {b : Nat} {cur : Array Value} {t : TypeId} (h : w.heap[b]? = some (.cells cur t (0, 0))) (i : Nat) : w.cell? ⟨b, i, none⟩ = cur[i]? := by
  simp [World.cell?, h]

theorem new_block (w : World) (x : Obj) : (w.alloc x).heap[w.heap.size]? = some x := by
  show (w.heap.push x)[w.heap.size]? = _
  simp

set_option maxRecDepth 100000 in
set_option maxHeartbeats 3200000 in
theorem wents_any (W0 w : World) (b : Nat) (t : ByteArray) (c : UInt8) (ci : Int) (oa : Option Addr) (cap len : Nat) (L : List Ent) (ht : Tab W0) (h : WrUsed W0.heap.size b t w) (hb : Below W0.heap.size W0 w) (hsz : t.size ≤ 80000000000) (hc : ci = (c.toNat : Int)) (hl : len = L.length) (h12 : len ≤ 12) (hok : ∀ i, i < L.length → entOk (L.getD i (0, 0, [])) = true) (hL : EntsAt W0 oa L) :
    Calls Tryd.prog 30 #[.pointer (some ⟨b, 0, none⟩), .int .u8 ci, .slice oa len cap] w fun e w' => e = .returned (.tuple #[]) ∧ Wrs W0 b (t ++ (⟨#[c]⟩ ++ putL L)) w w' := by
  have HW0 : Hid (Wrs W0 b t w w) := ⟨h, hb, WrFrame.refl _ _ _⟩
  have HL := hid hl
  by_cases h0 : len = 0
  · have e : putL L = ⟨#[45]⟩ := by
      unfold putL
      rw [if_pos (List.eq_nil_of_length_eq_zero (by omega))]
    rw [e, ← ByteArray.append_assoc]
    have CN : Hid (Calls Tryd.prog 55 #[.pointer (some ⟨b, 0, none⟩), .int .u8 ci] w fun e w' => e = .returned (.tuple #[]) ∧ Wrs W0 b ((t ++ ⟨#[c]⟩) ++ ⟨#[45]⟩) w w') := none_any W0 w b t c ci h.at hb (by omega) hc
    obtain ⟨u, hu⟩ : ∃ u, u = (t ++ (⟨#[c]⟩ : ByteArray)) ++ (⟨#[45]⟩ : ByteArray) := ⟨_, rfl⟩
    rw [← hu] at CN ⊢
    subst h0
    clear hu e h hb hsz hc hl h12 hok hL ht
    go_enter Tryd.func30, Tryd.ntmps30
    go_wp2_with fail
    refine CN.out.mono ?_
    rintro e w1 ⟨rfl, hw⟩
    have HW1 := hid hw
    clear hw
    go_wp2
    go_loopw [16] (fun i wr => i = .int .i64 0 ∧ wr = w1) (fun _ _ => 0)
    case atStart => exact ⟨rfl, rfl⟩
    case round =>
      obtain ⟨rfl, rfl⟩ := hrel
      go_wp2
      go_end0
      exact ⟨rfl, HW1.out⟩
  · have e : putL L = lText L L.length := by
      unfold putL
      rw [if_neg]
      intro e
      rw [e] at hl
      exact h0 hl
    rw [e, ← hl]
    have HT := hid ht
    have HOK := hid hok
    have HV := hid hL
    have HWS : Hid (∀ k, k ≤ len → (t ++ xText c L k).size ≤ 80000300000) := fun k hk => by
      have := xText_size (c := c) hok k (by omega)
      rw [ByteArray.size_append]
      omega
    have HFIN : Hid (xText c L len = ⟨#[c]⟩ ++ lText L len) := by
      show xText c L len = _
      unfold xText
      rw [if_neg h0]
    have HST : Hid (t ++ xText c L 0 = t) := by
      show t ++ xText c L 0 = t
      unfold xText
      rw [if_pos rfl, app_empty]
    have h0I : ((len : Int) == 0) = false := by rw [beq_eq_false_iff_ne]; omega
    have h0N : (len == 0) = false := by rw [beq_eq_false_iff_ne]; exact h0
    have hcI : Hid (ci = ((partC c 59 0).toNat : Int)) := by
      show ci = _
      unfold partC
      rw [if_pos rfl]
      exact hc
    rw [← HFIN.out]
    clear e h hb hsz hl hok hL ht hc HFIN
    go_enter Tryd.func30, Tryd.ntmps30
    go_wp2
    go_loopw [1, 16] (fun p i wr => ∃ k : Nat, k ≤ len ∧ i = .int .i64 k ∧ (∃ pi : Int, p = .int .u8 pi ∧ Hid (pi = ((partC c 59 k).toNat : Int))) ∧ Hid (Wrs W0 b (t ++ xText c L k) w wr)) (fun _ i _ => len - (intOf i).toNat)
    case atStart => exact ⟨0, Nat.zero_le _, rfl, ⟨ci, rfl, hcI⟩, by rw [HST.out]; exact HW0⟩
    case round =>
      obtain ⟨k, hk, rfl, ⟨pi, rfl, HP⟩, HW⟩ := hrel
      by_cases hlt : k < len
      · have hltI : (k : Int) < (len : Int) := by omega
        have hk0I : (0 : Int) ≤ (k : Int) := by omega
        have hkv : k < L.length := by rw [← HL.out]; exact hlt
        obtain ⟨g, off, rfl, hgw, c0, c1, ov, n, cv, c2, hn, hn2, _⟩ := (HV.out.below HW.out.2.1) k hkv
        obtain ⟨_, _, hoa, _, _, _, ov0, n0, cv0, c2', hn0, _, hN⟩ := HV.out k hkv
        obtain ⟨rfl, rfl, rfl⟩ : ov0 = ov ∧ n0 = n ∧ cv0 = cv := by
          injection hoa with hoa
          injection hoa with e1 e2 e3
          subst e1
          subst e2
          have hg0 : g < W0.heap.size := World.block_lt_of_cell? W0 _ c2'
          rw [HW.out.2.1.cell (p := ⟨g, off + k * 3 + 2, none⟩) hg0, c2'] at c2
          injection c2 with c2
          injection c2 with a1 a2 a3
          exact ⟨a1, a2, a3⟩
        obtain ⟨f1, f2, f3, f4⟩ := ent_facts (HOK.out k hkv)
        have HNX := hid (xText_next c L k)
        obtain ⟨x, hx⟩ : ∃ x, x = (L.getD k (0, 0, [])).1 := ⟨_, rfl⟩
        obtain ⟨y, hy⟩ : ∃ y, y = (L.getD k (0, 0, [])).2.1 := ⟨_, rfl⟩
        obtain ⟨U, hU⟩ : ∃ U, U = (L.getD k (0, 0, [])).2.2 := ⟨_, rfl⟩
        rw [← hx] at c0 f1 HNX
        rw [← hy] at c1 f2 HNX
        rw [← hU] at hn f3 f4 HNX hN
        obtain ⟨s0, hs0⟩ : ∃ s0, s0 = t ++ xText c L k := ⟨_, rfl⟩
        have z0 : s0.size ≤ 80000300000 := by rw [hs0]; exact HWS.out k (by omega)
        obtain ⟨s1, hs1⟩ : ∃ s1, s1 = (s0 ++ (⟨#[partC c 59 k]⟩ : ByteArray)) ++ decI x := ⟨_, rfl⟩
        have z1 : s1.size ≤ 80000300100 := by
          have := decI_size x
          rw [hs1, ByteArray.size_append, ByteArray.size_append, size_one]
          omega
        obtain ⟨s2, hs2⟩ : ∃ s2, s2 = (s1 ++ (⟨#[58]⟩ : ByteArray)) ++ decI y := ⟨_, rfl⟩
        have z2 : s2.size ≤ 80000400100 := by
          have := decI_size y
          rw [hs2, ByteArray.size_append, ByteArray.size_append, size_one]
          omega
        have HE : Hid (s2 ++ (⟨#[58]⟩ ++ putV U) = t ++ xText c L (k + 1)) := by
          show _ = _
          rw [HNX.out, hs2, hs1, hs0]
          simp only [ByteArray.append_assoc]
        have hal : Below wr.heap.size wr (wr.alloc (.cells #[.int .i64 x, .int .i64 y, .slice ov0 n0 cv0] 53)) := (Below.refl _ _).alloc (Nat.le_refl _) _
        rw [← hs0] at HW
        have HWA : Hid (Wrs W0 b s0 w (wr.alloc (.cells #[.int .i64 x, .int .i64 y, .slice ov0 n0 cv0] 53))) := HW.out.below hal
        have HEB : Hid ((wr.alloc (.cells #[.int .i64 x, .int .i64 y, .slice ov0 n0 cv0] 53)).heap[wr.heap.size]? = some (.cells #[.int .i64 x, .int .i64 y, .slice ov0 n0 cv0] 53 (0, 0))) := new_block _ _
        have HNB : Hid (wr.heap.size ≠ b) := by
          have := HW.out.1.lt
          show wr.heap.size ≠ b
          omega
        have C1 : Hid (∀ W, Wrs W0 b s0 w W → Calls Tryd.prog 12 #[.pointer (some ⟨b, 0, none⟩), .int .u8 pi, .int .i64 x] W fun e w' => e = .returned (.tuple #[]) ∧ Wrs W0 b s1 W w') := fun W hW => by rw [hs1]; exact number_any W0 W b _ (partC c 59 k) pi x HT.out hW.at hW.2.1 (by omega) HP.out (by omega) (by omega)
        have C2 : Hid (∀ W, Wrs W0 b s1 w W → Calls Tryd.prog 12 #[.pointer (some ⟨b, 0, none⟩), .int .u8 58, .int .i64 y] W fun e w' => e = .returned (.tuple #[]) ∧ Wrs W0 b s2 W w') := fun W hW => by rw [hs2]; exact number_any W0 W b _ 58 58 y HT.out hW.at hW.2.1 (by omega) rfl (by omega) (by omega)
        have C3 : Hid (∀ W, Wrs W0 b s2 w W → Calls Tryd.prog 29 #[.pointer (some ⟨b, 0, none⟩), .int .u8 58, .slice ov0 n0 cv0] W fun e w' => e = .returned (.tuple #[]) ∧ Wrs W0 b (t ++ xText c L (k + 1)) W w') := fun W hW => by rw [← HE.out]; exact wvotes_any W0 W b _ 58 58 ov0 cv0 n0 U HT.out hW.1 hW.2.1 (by omega) rfl hn (by omega) f4 hN
        clear hx hy hU hs0 hs1 hs2 z0 z1 z2 HE HNX hkv hal f1 f2 f3 f4 hN hn hn0 hn2 c2' hoa
        go_wp2_with fail
        refine (C1.out _ HWA.out).mono ?_
        rintro e w1 ⟨rfl, hw⟩
        have HW1 := hid (HWA.out.next hw)
        have HEB1 := hid (ent_kept hw HEB.out HNB.out)
        have k1 := cell_in HEB1.out 1
        simp at k1
        clear hw
        go_wp2_with fail
        refine (C2.out _ HW1.out).mono ?_
        rintro e w2 ⟨rfl, hw⟩
        have HW2 := hid (HW1.out.next hw)
        have HEB2 := hid (ent_kept hw HEB1.out HNB.out)
        have k2 := cell_in HEB2.out 2
        simp at k2
        clear hw
        go_wp2_with fail
        refine (C3.out _ HW2.out).mono ?_
        rintro e w3 ⟨rfl, hw⟩
        have HW3 := hid (HW2.out.next hw)
        clear hw
        go_wp2
        go_roundw
        case rel => exact ⟨k + 1, by omega, by go_num, ⟨59, rfl, by show (59 : Int) = _; unfold partC; rw [if_neg (by omega)]; rfl⟩, HW3⟩
        case measure => simp [intOf]; omega
      · have hltI : ¬ (k : Int) < (len : Int) := by omega
        have hkl : k = len := by omega
        subst hkl
        go_wp2
        go_end0
        exact ⟨rfl, HW.out⟩

end Go.Proofs.YtijdjplajhcilabDoor
