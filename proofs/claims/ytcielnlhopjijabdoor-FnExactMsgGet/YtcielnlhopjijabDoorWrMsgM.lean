/- DERIVED. The writer's methods: a number, none, votes. The writer's method entries. The writer's method message, and MsgPut of the program. -/
import Derived.Test.YtcielnlhopjijabDoorWr
import Derived.Test.YtcielnlhopjijabDoorItoa
import Derived.Test.YtcielnlhopjijabDoorMsgText
import Derived.Test.YtcielnlhopjijabDoorReg
import Derived.Test.YtcielnlhopjijabDoorEntText
import Derived.Test.YtcielnlhopjijabDoorPutSpec
namespace Go.Proofs.YtcielnlhopjijabDoor
open Go.RowKit

/-- The writer holds a text, and what lay in W0 lies there still; and what was written since w touched nothing else. -/
def Wrs (W0 : World) (b : Nat) (t : ByteArray) (w w' : World) : Prop := WrUsed W0.heap.size b t w' ∧ Below W0.heap.size W0 w' ∧ WrFrame W0.heap.size b w w'

theorem at_below {base b : Nat} {t : ByteArray} {w w' : World} (h : WrUsed base b t w) (hb : Below w.heap.size w w') : WrUsed base b t w' := by
  have hl := h.lt
  obtain ⟨hB, v, hbk, hown, hne⟩ := h
  exact ⟨hB, v, (hb.block b hl).trans hbk, hown.kept (row := none) ⟨hb.os, hb.tape, hb.output, hb.size, fun k hk _ => hb.block k hk⟩ (by cases hv : v.ownBlock <;> simp), hne⟩

theorem frame_below {base b : Nat} {w w' : World} (hw : base ≤ w.heap.size) (hb : Below w.heap.size w w') : WrFrame base b w w' :=
  ⟨hb.mono hw, fun k _ hk _ _ => (hb.block k (Array.getElem?_eq_some_iff.1 hk).1).trans hk⟩

theorem Wrs.below {W0 : World} {b : Nat} {t : ByteArray} {w w1 w2 : World} (h : Wrs W0 b t w w1) (hb : Below w1.heap.size w1 w2) : Wrs W0 b t w w2 :=
  ⟨at_below h.1 hb, h.2.1.trans (hb.mono h.2.1.size), h.2.2.trans (frame_below h.2.1.size hb)⟩

theorem Wrs.drew {W0 : World} {b : Nat} {t : ByteArray} {w w1 : World} (h : Wrs W0 b t w w1) : Wrs W0 b t w w1.drew := h.below (Below.refl _ _).drew

theorem Wrs.next {W0 : World} {b : Nat} {t u : ByteArray} {w w1 w2 : World} (h : Wrs W0 b t w w1) (k : Wrs W0 b u w1 w2) : Wrs W0 b u w w2 := ⟨k.1, k.2.1, h.2.2.trans k.2.2⟩

theorem Wrs.at {W0 : World} {b : Nat} {t : ByteArray} {w w1 : World} (h : Wrs W0 b t w w1) : WrAt W0.heap.size b t w1 := h.1.at

/-- What a method of the builder hands over. -/
theorem Wrs.of {W0 : World} {b : Nat} {t : ByteArray} {w w1 : World} (hb : Below W0.heap.size W0 w) (h : WrUsed W0.heap.size b t w1 ∧ WrFrame W0.heap.size b w w1) : Wrs W0 b t w w1 := ⟨h.1, hb.trans h.2.1, h.2⟩

theorem itoa_dec (n : Int) : (⟨(Lib.itoa n).toArray⟩ : ByteArray) = decI n := by
  unfold Lib.itoa decI decS
  split
  · apply Go.WideShapes.bytes_inj
    simp
  · rfl

theorem itoaI_any (n : Int) (w : World) (h1 : -1 ≤ n) (h2 : n ≤ 9999999999) (ht : Tab w) :
    Calls Tryd.prog 60 #[.int .i64 n] w fun e w' => e = .returned (.string (decI n)) ∧ Below w.heap.size w w' := by
  refine (Go.Proofs.Tryd.strconv_Itoa n (by omega) (by omega) w ht).mono ?_
  rintro e w' ⟨rfl, k, os, rfl⟩
  exact ⟨by rw [itoa_dec], below_grow w k os⟩

theorem decI_bd {n : Int} (h1 : -1 ≤ n) (h2 : n ≤ 9999999999) : (decI n).size ≤ 10000000001 := by
  have := decI_size n
  omega

theorem size_one (c : UInt8) : (⟨#[c]⟩ : ByteArray).size = 1 := rfl

set_option maxRecDepth 100000 in
set_option maxHeartbeats 1600000 in
theorem number_any (W0 w : World) (b : Nat) (t : ByteArray) (c : UInt8) (ci n : Int) (ht : Tab W0) (h : WrAt W0.heap.size b t w) (hb : Below W0.heap.size W0 w) (hsz : t.size ≤ 100000000000) (hc : ci = (c.toNat : Int)) (h1 : -1 ≤ n) (h2 : n ≤ 9999999999) :
    Calls Tryd.prog 36 #[.pointer (some ⟨b, 0, none⟩), .int .u8 ci, .int .i64 n] w fun e w' => e = .returned (.tuple #[]) ∧ Wrs W0 b ((t ++ ⟨#[c]⟩) ++ decI n) w w' := by
  have CB := hid (byte_any W0.heap.size b t c ci w h hb.size (by omega) hc)
  have CI : Hid (∀ w', Below W0.heap.size W0 w' → Calls Tryd.prog 60 #[.int .i64 n] w' fun e w2 => e = .returned (.string (decI n)) ∧ Below w'.heap.size w' w2) := fun w' hb' => itoaI_any n w' h1 h2 (ht.below hb')
  obtain ⟨u, hu⟩ : ∃ u, u = t ++ (⟨#[c]⟩ : ByteArray) := ⟨_, rfl⟩
  have hus : u.size ≤ 100000000001 := by rw [hu, ByteArray.size_append, size_one]; omega
  have hds := decI_bd h1 h2
  rw [← hu] at CB ⊢
  obtain ⟨d, hd⟩ : ∃ d, d = decI n := ⟨_, rfl⟩
  rw [← hd] at CI hds ⊢
  have CW : Hid (∀ w1, Wrs W0 b u w w1 → Calls Tryd.prog 59 #[.pointer (some ⟨b, 0, none⟩), .string d] w1 fun e w' => (∃ v, e = .returned v) ∧ Wrs W0 b (u ++ d) w w') := fun w1 h1 => (string_any W0.heap.size b u d w1 h1.at h1.2.1.size (by omega) (by omega)).mono fun e w' he => ⟨he.1, h1.next (Wrs.of h1.2.1 he.2)⟩
  have HB := hid hb
  clear hu hd h hb hus hds hsz hc h1 h2 ht
  go_enter Tryd.func36, Tryd.ntmps36
  go_wp2_with fail
  refine CB.out.mono ?_
  rintro e w1 ⟨rfl, hw⟩
  have HW1 := hid (Wrs.of HB.out hw)
  clear hw
  go_wp2_with fail
  refine wp_region_any (by kernel_rfl) ?_
  change wpAny _ _ _ _ _ _ _ (World.drew _)
  refine take_on 0 (v := ?_) rfl rfl (by kernel_rfl) (by kernel_rfl) (by kernel_rfl) (fun _ _ _ h => h) (by rfl) (fun w => ?_) ?_
  rotate_left
  · (go_simp; try with_reducible rfl)
  simp only [List.setIfInBounds_toArray, List.set_cons_zero, List.set_cons_succ]
  refine take_on 1 (v := ?_) rfl rfl (by kernel_rfl) (by kernel_rfl) (by kernel_rfl) (fun _ _ _ h => h) (by rfl) (fun w => ?_) ?_
  rotate_left
  · (go_simp; try with_reducible rfl)
  simp only [List.setIfInBounds_toArray, List.set_cons_zero, List.set_cons_succ]
  refine take_on 2 (v := ?_) rfl rfl (by kernel_rfl) (by kernel_rfl) (by kernel_rfl) (fun _ _ _ h => h) (by rfl) (fun w => ?_) ?_
  rotate_left
  · (go_simp; try with_reducible rfl)
  simp only [List.setIfInBounds_toArray, List.set_cons_zero, List.set_cons_succ]
  refine take_on 3 (v := ?_) rfl rfl (by kernel_rfl) (by kernel_rfl) (by kernel_rfl) (fun _ _ _ h => h) (by rfl) (fun w => ?_) ?_
  rotate_left
  · (go_simp; try with_reducible rfl)
  simp only [List.setIfInBounds_toArray, List.set_cons_zero, List.set_cons_succ]
  refine wpAny_ready (rs := [4]) (by kernel_rfl) (by simp) (AllReady.cons rfl (fun K hK => ?_) AllReady.nil)
  go_simp
  go_wp2_with fail
  refine (CI.out _ HW1.out.drew.2.1).mono ?_
  rintro e w2 ⟨rfl, hb2⟩
  have HW2 := hid (HW1.out.drew.below hb2)
  clear hb2
  refine hK _ _ ?_
  clear hK K
  refine wpAny_ready (rs := [5]) (by kernel_rfl) (by simp) (AllReady.cons rfl (fun K hK => ?_) AllReady.nil)
  go_simp
  go_wp2_with fail
  refine (CW.out _ HW2.out).mono ?_
  rintro e w3 ⟨⟨v, rfl⟩, hw3⟩
  have HW3 := hid hw3
  clear hw3
  refine hK _ _ ?_
  clear hK K
  refine wpAny_done (by kernel_rfl) ?_ _
  go_wp2
  go_end0
  exact ⟨rfl, HW3.out⟩

set_option maxRecDepth 100000 in
set_option maxHeartbeats 1600000 in
theorem none_any (W0 w : World) (b : Nat) (t : ByteArray) (c : UInt8) (ci : Int) (h : WrAt W0.heap.size b t w) (hb : Below W0.heap.size W0 w) (hsz : t.size ≤ 100000000000) (hc : ci = (c.toNat : Int)) :
    Calls Tryd.prog 72 #[.pointer (some ⟨b, 0, none⟩), .int .u8 ci] w fun e w' => e = .returned (.tuple #[]) ∧ Wrs W0 b ((t ++ ⟨#[c]⟩) ++ ⟨#[45]⟩) w w' := by
  have CB := hid (byte_any W0.heap.size b t c ci w h hb.size (by omega) hc)
  obtain ⟨u, hu⟩ : ∃ u, u = t ++ (⟨#[c]⟩ : ByteArray) := ⟨_, rfl⟩
  have hus : u.size ≤ 100000000001 := by rw [hu, ByteArray.size_append, size_one]; omega
  rw [← hu] at CB ⊢
  have CW : Hid (∀ w1, Wrs W0 b u w w1 → Calls Tryd.prog 63 #[.pointer (some ⟨b, 0, none⟩), .int .u8 45] w1 fun e w' => e = .returned .nilIface ∧ Wrs W0 b (u ++ ⟨#[45]⟩) w w') := fun w1 h1 => (byte_any W0.heap.size b u 45 45 w1 h1.at h1.2.1.size (by omega) rfl).mono fun e w' he => ⟨he.1, h1.next (Wrs.of h1.2.1 he.2)⟩
  have HB := hid hb
  clear hu h hb hus hsz hc
  go_enter Tryd.func72, Tryd.ntmps72
  go_wp2_with fail
  refine CB.out.mono ?_
  rintro e w1 ⟨rfl, hw⟩
  have HW1 := hid (Wrs.of HB.out hw)
  clear hw
  go_wp2_with fail
  refine (CW.out _ HW1.out).mono ?_
  rintro e w2 ⟨rfl, hw⟩
  have HW2 := hid hw
  clear hw
  go_wp2
  go_end0
  exact ⟨rfl, HW2.out⟩

/-- The first k votes behind what parts them from what is ahead. -/
def wText (c : UInt8) (V : List Int) (k : Nat) : ByteArray := if k = 0 then ⟨#[]⟩ else ⟨#[c]⟩ ++ vText V k

/-- What parts the next one from what is ahead. -/
def partC (c p : UInt8) (k : Nat) : UInt8 := if k = 0 then c else p

theorem empty_app (x : ByteArray) : (⟨#[]⟩ : ByteArray) ++ x = x := by
  apply Go.WideShapes.bytes_inj
  simp

theorem app_empty (x : ByteArray) : x ++ (⟨#[]⟩ : ByteArray) = x := by
  apply Go.WideShapes.bytes_inj
  simp

theorem wText_next (c : UInt8) (V : List Int) (k : Nat) : wText c V (k + 1) = (wText c V k ++ ⟨#[partC c 44 k]⟩) ++ decI (V.getD k 0) := by
  unfold wText partC
  rw [if_neg (by omega), vText_next]
  by_cases h : k = 0
  · subst h
    rw [if_pos rfl, if_pos rfl, if_neg (by omega)]
    show ⟨#[c]⟩ ++ ((⟨#[]⟩ : ByteArray) ++ decI (V.getD 0 0)) = (⟨#[]⟩ ++ ⟨#[c]⟩) ++ decI (V.getD 0 0)
    rw [empty_app, empty_app]
  · rw [if_neg h, if_neg h, if_pos (by omega)]
    rw [ByteArray.append_assoc, ByteArray.append_assoc, ByteArray.append_assoc]

theorem wText_size {c : UInt8} {V : List Int} (h : ∀ n ∈ V, -1 ≤ n ∧ n ≤ 127) (k : Nat) (hk : k ≤ V.length) : (wText c V k).size ≤ 130 * k + 1 := by
  unfold wText
  split
  · show (0 : Nat) ≤ _
    omega
  · rw [ByteArray.size_append, size_one]
    have := vText_size h k hk
    omega

set_option maxRecDepth 100000 in
set_option maxHeartbeats 1600000 in
theorem wvotes_any (W0 w : World) (b : Nat) (t : ByteArray) (c : UInt8) (ci : Int) (oa : Option Addr) (cap len : Nat) (V : List Int) (ht : Tab W0) (h : WrUsed W0.heap.size b t w) (hb : Below W0.heap.size W0 w) (hsz : t.size ≤ 90000000000) (hc : ci = (c.toNat : Int)) (hl : len = V.length) (h3 : len ≤ 3) (hv : ∀ n ∈ V, -1 ≤ n ∧ n ≤ 127) (hV : NumsAt W0 oa V) :
    Calls Tryd.prog 61 #[.pointer (some ⟨b, 0, none⟩), .int .u8 ci, .slice oa len cap] w fun e w' => e = .returned (.tuple #[]) ∧ Wrs W0 b (t ++ (⟨#[c]⟩ ++ putV V)) w w' := by
  have HW0 : Hid (Wrs W0 b t w w) := ⟨h, hb, WrFrame.refl _ _ _⟩
  have HL := hid hl
  by_cases h0 : len = 0
  · have e : putV V = ⟨#[45]⟩ := by
      unfold putV
      rw [if_pos (List.eq_nil_of_length_eq_zero (by omega))]
    rw [e, ← ByteArray.append_assoc]
    have CN : Hid (Calls Tryd.prog 72 #[.pointer (some ⟨b, 0, none⟩), .int .u8 ci] w fun e w' => e = .returned (.tuple #[]) ∧ Wrs W0 b ((t ++ ⟨#[c]⟩) ++ ⟨#[45]⟩) w w') := none_any W0 w b t c ci h.at hb (by omega) hc
    obtain ⟨u, hu⟩ : ∃ u, u = (t ++ (⟨#[c]⟩ : ByteArray)) ++ (⟨#[45]⟩ : ByteArray) := ⟨_, rfl⟩
    rw [← hu] at CN ⊢
    subst h0
    clear hu e h hb hsz hc hl h3 hv hV ht
    go_enter Tryd.func61, Tryd.ntmps61
    go_wp2_with fail
    refine CN.out.mono ?_
    rintro e w1 ⟨rfl, hw⟩
    have HW1 := hid hw
    clear hw
    go_wp2
    go_loopw [16] (fun i wr => i = .int .i64 0 ∧ wr = w1) (fun _ _ => 0)
    case atStart => exact ⟨rfl, rfl⟩
    case round =>
      obtain ⟨rfl, rfl⟩ := hrel
      go_wp2
      go_end0
      exact ⟨rfl, HW1.out⟩
  · have e : putV V = vText V V.length := by
      unfold putV
      rw [if_neg]
      intro e
      rw [e] at hl
      exact h0 hl
    rw [e, ← hl]
    have HT := hid ht
    have HBD := hid hv
    have HV := hid hV
    have HSZ := hid hsz
    have HWS : Hid (∀ k, k ≤ len → (t ++ wText c V k).size ≤ 90000001000) := fun k hk => by
      have := wText_size (c := c) hv k (by omega)
      rw [ByteArray.size_append]
      omega
    have HFIN : Hid (wText c V len = ⟨#[c]⟩ ++ vText V len) := by
      show wText c V len = _
      unfold wText
      rw [if_neg h0]
    have HST : Hid (t ++ wText c V 0 = t) := by
      show t ++ wText c V 0 = t
      unfold wText
      rw [if_pos rfl, app_empty]
    have h0I : ((len : Int) == 0) = false := by rw [beq_eq_false_iff_ne]; omega
    have h0N : (len == 0) = false := by rw [beq_eq_false_iff_ne]; exact h0
    have hcI : Hid (ci = ((partC c 44 0).toNat : Int)) := by
      show ci = _
      unfold partC
      rw [if_pos rfl]
      exact hc
    rw [← HFIN.out]
    clear e h hb hsz hl hv hV ht hc HFIN
    go_enter Tryd.func61, Tryd.ntmps61
    go_wp2
    go_loopw [1, 16] (fun p i wr => ∃ k : Nat, k ≤ len ∧ i = .int .i64 k ∧ (∃ pi : Int, p = .int .u8 pi ∧ Hid (pi = ((partC c 44 k).toNat : Int))) ∧ Hid (Wrs W0 b (t ++ wText c V k) w wr)) (fun _ i _ => len - (intOf i).toNat)
    case atStart => exact ⟨0, Nat.zero_le _, rfl, ⟨ci, rfl, hcI⟩, by rw [HST.out]; exact HW0⟩
    case round =>
      obtain ⟨k, hk, rfl, ⟨pi, rfl, HP⟩, HW⟩ := hrel
      by_cases hlt : k < len
      · have hltI : (k : Int) < (len : Int) := by omega
        have hkv : k < V.length := by rw [← HL.out]; exact hlt
        obtain ⟨g, off, rfl, _, hcell⟩ := (HV.out.below HW.out.2.1) k hkv
        have hz := HBD.out (V.getD k 0) (by rw [List.getD_eq_getElem?_getD, List.getElem?_eq_getElem hkv]; exact List.getElem_mem _)
        have HX : Hid (V[k] = V.getD k 0) := by show _ = _; rw [List.getD_eq_getElem?_getD, List.getElem?_eq_getElem hkv]; rfl
        rw [HX.out] at hcell
        have HNX := hid (wText_next c V k)
        obtain ⟨x, hx⟩ : ∃ x, x = V.getD k 0 := ⟨_, rfl⟩
        rw [← hx] at hcell hz HNX
        have CN : Hid (Calls Tryd.prog 36 #[.pointer (some ⟨b, 0, none⟩), .int .u8 pi, .int .i64 x] wr fun e w' => e = .returned (.tuple #[]) ∧ Wrs W0 b (((t ++ wText c V k) ++ ⟨#[partC c 44 k]⟩) ++ decI x) wr w') := number_any W0 wr b _ (partC c 44 k) pi x HT.out HW.out.at HW.out.2.1 (by have := HWS.out k (by omega); omega) HP.out hz.1 (by omega)
        have HE : Hid (((t ++ wText c V k) ++ ⟨#[partC c 44 k]⟩) ++ decI x = t ++ wText c V (k + 1)) := by
          show _ = _
          rw [HNX.out, ByteArray.append_assoc, ByteArray.append_assoc, ByteArray.append_assoc]
        rw [HE.out] at CN
        clear hx hz HX hkv HNX HE
        go_wp2_with fail
        refine CN.out.mono ?_
        rintro e w1 ⟨rfl, hw⟩
        have HW1 := hid (HW.out.next hw)
        clear hw
        go_wp2
        go_roundw
        case rel => exact ⟨k + 1, by omega, by go_num, ⟨44, rfl, by show (44 : Int) = _; unfold partC; rw [if_neg (by omega)]; rfl⟩, HW1⟩
        case measure => simp [intOf]; omega
      · have hltI : ¬ (k : Int) < (len : Int) := by omega
        have hkl : k = len := by omega
        subst hkl
        go_wp2
        go_end0
        exact ⟨rfl, HW.out⟩

end Go.Proofs.YtcielnlhopjijabDoor

namespace Go.Proofs.YtcielnlhopjijabDoor
open Go.RowKit

/-- The first k entries behind what parts them from what is ahead. -/
def xText (c : UInt8) (L : List Ent) (k : Nat) : ByteArray := if k = 0 then ⟨#[]⟩ else ⟨#[c]⟩ ++ lText L k

theorem xText_next (c : UInt8) (L : List Ent) (k : Nat) : xText c L (k + 1) = (((((xText c L k ++ ⟨#[partC c 59 k]⟩) ++ decI (L.getD k (0, 0, [])).1) ++ ⟨#[58]⟩) ++ decI (L.getD k (0, 0, [])).2.1)) ++ (⟨#[58]⟩ ++ putV (L.getD k (0, 0, [])).2.2) := by
  unfold xText partC
  rw [if_neg (by omega), lText_next]
  by_cases h : k = 0
  · subst h
    rw [if_pos rfl, if_pos rfl, if_neg (by omega)]
    show ⟨#[c]⟩ ++ ((((((⟨#[]⟩ : ByteArray) ++ decI _) ++ ⟨#[58]⟩) ++ decI _) ++ ⟨#[58]⟩) ++ putV _) = _
    rw [empty_app, empty_app]
    simp only [ByteArray.append_assoc]
  · rw [if_neg h, if_neg h, if_pos (by omega)]
    simp only [ByteArray.append_assoc]

theorem xText_size {c : UInt8} {L : List Ent} (h : ∀ i, i < L.length → entOk (L.getD i (0, 0, [])) = true) (k : Nat) (hk : k ≤ L.length) : (xText c L k).size ≤ 20000 * k + 1 := by
  unfold xText
  split
  · show (0 : Nat) ≤ _
    omega
  · rw [ByteArray.size_append, size_one]
    have := lText_size h k hk
    omega

theorem neEnt : ∀ (c : Array Value) (fz : Nat × Nat) (cur : Array Value) (f : Nat × Nat), Obj.cells cur 71 f ≠ Obj.cells c 5 fz := by
  intro c fz cur f h
  injection h with h1 h2 h3
  exact absurd h2 (by decide)

/-- A block of an entry's own stays, whatever is written. -/
theorem ent_kept {W0 w w' : World} {b k : Nat} {t : ByteArray} {cur : Array Value} (h : Wrs W0 b t w w') (hk : w.heap[k]? = some (.cells cur 71 (0, 0))) (hb : k ≠ b) : w'.heap[k]? = some (.cells cur 71 (0, 0)) :=
  h.2.2.2 k _ hk (fun e => hb (by injection e)) (fun c fz => neEnt c fz cur (0, 0))

theorem cell_in {w : World} {b : Nat} {cur : Array Value} {t : TypeId} (h : w.heap[b]? = some (.cells cur t (0, 0))) (i : Nat) : w.cell? ⟨b, i, none⟩ = cur[i]? := by
  simp [World.cell?, h]

theorem new_block (w : World) (x : Obj) : (w.alloc x).heap[w.heap.size]? = some x := by
  show (w.heap.push x)[w.heap.size]? = _
  simp

set_option maxRecDepth 100000 in
set_option maxHeartbeats 3200000 in
theorem wents_any (W0 w : World) (b : Nat) (t : ByteArray) (c : UInt8) (ci : Int) (oa : Option Addr) (cap len : Nat) (L : List Ent) (ht : Tab W0) (h : WrUsed W0.heap.size b t w) (hb : Below W0.heap.size W0 w) (hsz : t.size ≤ 80000000000) (hc : ci = (c.toNat : Int)) (hl : len = L.length) (h12 : len ≤ 12) (hok : ∀ i, i < L.length → entOk (L.getD i (0, 0, [])) = true) (hL : EntsAt W0 oa L) :
    Calls Tryd.prog 62 #[.pointer (some ⟨b, 0, none⟩), .int .u8 ci, .slice oa len cap] w fun e w' => e = .returned (.tuple #[]) ∧ Wrs W0 b (t ++ (⟨#[c]⟩ ++ putL L)) w w' := by
  have HW0 : Hid (Wrs W0 b t w w) := ⟨h, hb, WrFrame.refl _ _ _⟩
  have HL := hid hl
  by_cases h0 : len = 0
  · have e : putL L = ⟨#[45]⟩ := by
      unfold putL
      rw [if_pos (List.eq_nil_of_length_eq_zero (by omega))]
    rw [e, ← ByteArray.append_assoc]
    have CN : Hid (Calls Tryd.prog 72 #[.pointer (some ⟨b, 0, none⟩), .int .u8 ci] w fun e w' => e = .returned (.tuple #[]) ∧ Wrs W0 b ((t ++ ⟨#[c]⟩) ++ ⟨#[45]⟩) w w') := none_any W0 w b t c ci h.at hb (by omega) hc
    obtain ⟨u, hu⟩ : ∃ u, u = (t ++ (⟨#[c]⟩ : ByteArray)) ++ (⟨#[45]⟩ : ByteArray) := ⟨_, rfl⟩
    rw [← hu] at CN ⊢
    subst h0
    clear hu e h hb hsz hc hl h12 hok hL ht
    go_enter Tryd.func62, Tryd.ntmps62
    go_wp2_with fail
    refine CN.out.mono ?_
    rintro e w1 ⟨rfl, hw⟩
    have HW1 := hid hw
    clear hw
    go_wp2
    go_loopw [16] (fun i wr => i = .int .i64 0 ∧ wr = w1) (fun _ _ => 0)
    case atStart => exact ⟨rfl, rfl⟩
    case round =>
      obtain ⟨rfl, rfl⟩ := hrel
      go_wp2
      go_end0
      exact ⟨rfl, HW1.out⟩
  · have e : putL L = lText L L.length := by
      unfold putL
      rw [if_neg]
      intro e
      rw [e] at hl
      exact h0 hl
    rw [e, ← hl]
    have HT := hid ht
    have HOK := hid hok
    have HV := hid hL
    have HWS : Hid (∀ k, k ≤ len → (t ++ xText c L k).size ≤ 80000300000) := fun k hk => by
      have := xText_size (c := c) hok k (by omega)
      rw [ByteArray.size_append]
      omega
    have HFIN : Hid (xText c L len = ⟨#[c]⟩ ++ lText L len) := by
      show xText c L len = _
      unfold xText
      rw [if_neg h0]
    have HST : Hid (t ++ xText c L 0 = t) := by
      show t ++ xText c L 0 = t
      unfold xText
      rw [if_pos rfl, app_empty]
    have h0I : ((len : Int) == 0) = false := by rw [beq_eq_false_iff_ne]; omega
    have h0N : (len == 0) = false := by rw [beq_eq_false_iff_ne]; exact h0
    have hcI : Hid (ci = ((partC c 59 0).toNat : Int)) := by
      show ci = _
      unfold partC
      rw [if_pos rfl]
      exact hc
    rw [← HFIN.out]
    clear e h hb hsz hl hok hL ht hc HFIN
    go_enter Tryd.func62, Tryd.ntmps62
    go_wp2
    go_loopw [1, 16] (fun p i wr => ∃ k : Nat, k ≤ len ∧ i = .int .i64 k ∧ (∃ pi : Int, p = .int .u8 pi ∧ Hid (pi = ((partC c 59 k).toNat : Int))) ∧ Hid (Wrs W0 b (t ++ xText c L k) w wr)) (fun _ i _ => len - (intOf i).toNat)
    case atStart => exact ⟨0, Nat.zero_le _, rfl, ⟨ci, rfl, hcI⟩, by rw [HST.out]; exact HW0⟩
    case round =>
      obtain ⟨k, hk, rfl, ⟨pi, rfl, HP⟩, HW⟩ := hrel
      by_cases hlt : k < len
      · have hltI : (k : Int) < (len : Int) := by omega
        have hk0I : (0 : Int) ≤ (k : Int) := by omega
        have hkv : k < L.length := by rw [← HL.out]; exact hlt
        obtain ⟨g, off, rfl, hgw, c0, c1, ov, n, cv, c2, hn, hn2, _⟩ := (HV.out.below HW.out.2.1) k hkv
        obtain ⟨_, _, hoa, _, _, _, ov0, n0, cv0, c2', hn0, _, hN⟩ := HV.out k hkv
        obtain ⟨rfl, rfl, rfl⟩ : ov0 = ov ∧ n0 = n ∧ cv0 = cv := by
          injection hoa with hoa
          injection hoa with e1 e2 e3
          subst e1
          subst e2
          have hg0 : g < W0.heap.size := World.block_lt_of_cell? W0 _ c2'
          rw [HW.out.2.1.cell (p := ⟨g, off + k * 3 + 2, none⟩) hg0, c2'] at c2
          injection c2 with c2
          injection c2 with a1 a2 a3
          exact ⟨a1, a2, a3⟩
        obtain ⟨f1, f2, f3, f4⟩ := ent_facts (HOK.out k hkv)
        have HNX := hid (xText_next c L k)
        obtain ⟨x, hx⟩ : ∃ x, x = (L.getD k (0, 0, [])).1 := ⟨_, rfl⟩
        obtain ⟨y, hy⟩ : ∃ y, y = (L.getD k (0, 0, [])).2.1 := ⟨_, rfl⟩
        obtain ⟨U, hU⟩ : ∃ U, U = (L.getD k (0, 0, [])).2.2 := ⟨_, rfl⟩
        rw [← hx] at c0 f1 HNX
        rw [← hy] at c1 f2 HNX
        rw [← hU] at hn f3 f4 HNX hN
        obtain ⟨s0, hs0⟩ : ∃ s0, s0 = t ++ xText c L k := ⟨_, rfl⟩
        have z0 : s0.size ≤ 80000300000 := by rw [hs0]; exact HWS.out k (by omega)
        obtain ⟨s1, hs1⟩ : ∃ s1, s1 = (s0 ++ (⟨#[partC c 59 k]⟩ : ByteArray)) ++ decI x := ⟨_, rfl⟩
        have z1 : s1.size ≤ 80000300100 := by
          have := decI_size x
          rw [hs1, ByteArray.size_append, ByteArray.size_append, size_one]
          omega
        obtain ⟨s2, hs2⟩ : ∃ s2, s2 = (s1 ++ (⟨#[58]⟩ : ByteArray)) ++ decI y := ⟨_, rfl⟩
        have z2 : s2.size ≤ 80000400100 := by
          have := decI_size y
          rw [hs2, ByteArray.size_append, ByteArray.size_append, size_one]
          omega
        have HE : Hid (s2 ++ (⟨#[58]⟩ ++ putV U) = t ++ xText c L (k + 1)) := by
          show _ = _
          rw [HNX.out, hs2, hs1, hs0]
          simp only [ByteArray.append_assoc]
        have hal : Below wr.heap.size wr (wr.alloc (.cells #[.int .i64 x, .int .i64 y, .slice ov0 n0 cv0] 71)) := (Below.refl _ _).alloc (Nat.le_refl _) _
        rw [← hs0] at HW
        have HWA : Hid (Wrs W0 b s0 w (wr.alloc (.cells #[.int .i64 x, .int .i64 y, .slice ov0 n0 cv0] 71))) := HW.out.below hal
        have HEB : Hid ((wr.alloc (.cells #[.int .i64 x, .int .i64 y, .slice ov0 n0 cv0] 71)).heap[wr.heap.size]? = some (.cells #[.int .i64 x, .int .i64 y, .slice ov0 n0 cv0] 71 (0, 0))) := new_block _ _
        have HNB : Hid (wr.heap.size ≠ b) := by
          have := HW.out.1.lt
          show wr.heap.size ≠ b
          omega
        have C1 : Hid (∀ W, Wrs W0 b s0 w W → Calls Tryd.prog 36 #[.pointer (some ⟨b, 0, none⟩), .int .u8 pi, .int .i64 x] W fun e w' => e = .returned (.tuple #[]) ∧ Wrs W0 b s1 W w') := fun W hW => by rw [hs1]; exact number_any W0 W b _ (partC c 59 k) pi x HT.out hW.at hW.2.1 (by omega) HP.out (by omega) (by omega)
        have C2 : Hid (∀ W, Wrs W0 b s1 w W → Calls Tryd.prog 36 #[.pointer (some ⟨b, 0, none⟩), .int .u8 58, .int .i64 y] W fun e w' => e = .returned (.tuple #[]) ∧ Wrs W0 b s2 W w') := fun W hW => by rw [hs2]; exact number_any W0 W b _ 58 58 y HT.out hW.at hW.2.1 (by omega) rfl (by omega) (by omega)
        have C3 : Hid (∀ W, Wrs W0 b s2 w W → Calls Tryd.prog 61 #[.pointer (some ⟨b, 0, none⟩), .int .u8 58, .slice ov0 n0 cv0] W fun e w' => e = .returned (.tuple #[]) ∧ Wrs W0 b (t ++ xText c L (k + 1)) W w') := fun W hW => by rw [← HE.out]; exact wvotes_any W0 W b _ 58 58 ov0 cv0 n0 U HT.out hW.1 hW.2.1 (by omega) rfl hn (by omega) f4 hN
        clear hx hy hU hs0 hs1 hs2 z0 z1 z2 HE HNX hkv hal f1 f2 f3 f4 hN hn hn0 hn2 c2' hoa
        go_wp2_with fail
        refine (C1.out _ HWA.out).mono ?_
        rintro e w1 ⟨rfl, hw⟩
        have HW1 := hid (HWA.out.next hw)
        have HEB1 := hid (ent_kept hw HEB.out HNB.out)
        have k1 := cell_in HEB1.out 1
        simp at k1
        clear hw
        go_wp2_with fail
        refine (C2.out _ HW1.out).mono ?_
        rintro e w2 ⟨rfl, hw⟩
        have HW2 := hid (HW1.out.next hw)
        have HEB2 := hid (ent_kept hw HEB1.out HNB.out)
        have k2 := cell_in HEB2.out 2
        simp at k2
        clear hw
        go_wp2_with fail
        refine (C3.out _ HW2.out).mono ?_
        rintro e w3 ⟨rfl, hw⟩
        have HW3 := hid (HW2.out.next hw)
        clear hw
        go_wp2
        go_roundw
        case rel => exact ⟨k + 1, by omega, by go_num, ⟨59, rfl, by show (59 : Int) = _; unfold partC; rw [if_neg (by omega)]; rfl⟩, HW3⟩
        case measure => simp [intOf]; omega
      · have hltI : ¬ (k : Int) < (len : Int) := by omega
        have hkl : k = len := by omega
        subst hkl
        go_wp2
        go_end0
        exact ⟨rfl, HW.out⟩

end Go.Proofs.YtcielnlhopjijabDoor

namespace Go.Proofs.YtcielnlhopjijabDoor
open Go.RowKit

theorem atF_below {base b : Nat} {p : Value} {bs : List Value} {w w' : World} (h : Lib.BuilderAtF 65 5 base b p bs w) (hb : Below w.heap.size w w') : Lib.BuilderAtF 65 5 base b p bs w' := by
  have hl := h.lt
  obtain ⟨hB, v, hbk, hown, hne⟩ := h
  exact ⟨hB, v, (hb.block b hl).trans hbk, hown.kept (row := none) ⟨hb.os, hb.tape, hb.output, hb.size, fun k hk _ => hb.block k hk⟩ (by cases hv : v.ownBlock <;> simp), hne⟩

theorem wr_below {base b : Nat} {t : ByteArray} {w w' : World} (h : WrAt base b t w) (hb : Below w.heap.size w w') : WrAt base b t w' :=
  h.elim (fun x => Or.inl (atF_below x hb)) (fun x => Or.inr (atF_below x hb))

theorem wr_lt {base b : Nat} {t : ByteArray} {w : World} (h : WrAt base b t w) : b < w.heap.size := h.elim (fun x => x.lt) (fun x => x.lt)

/-- A block that is no row of bytes, and not the writer's, stays whatever is written. -/
theorem other_kept {W0 w w' : World} {b k : Nat} {t : ByteArray} {cur : Array Value} {e : TypeId} (h : Wrs W0 b t w w') (he : e ≠ 5) (hk : w.heap[k]? = some (.cells cur e (0, 0))) (hb : k ≠ b) : w'.heap[k]? = some (.cells cur e (0, 0)) :=
  h.2.2.2 k _ hk (fun e => hb (by injection e)) (fun c fz h => by injection h with _ h2 _; exact he h2)

theorem below_other {w w' : World} {k : Nat} {x : Obj} (h : w.heap[k]? = some x) (hb : Below w.heap.size w w') : w'.heap[k]? = some x := by
  rw [hb.block k (Array.getElem?_eq_some_iff.1 h).1]
  exact h

/-- A text and the first k numbers behind it, each behind a blank. -/
def numsT (d : ByteArray) (N : List Int) : Nat → ByteArray
  | 0 => d
  | k + 1 => (numsT d N k ++ ⟨#[32]⟩) ++ decI (N.getD k 0)

theorem numsT_size (d : ByteArray) (N : List Int) (hd : d.size ≤ 100) (h : ∀ k, k < 4 → 0 ≤ N.getD k 0 ∧ N.getD k 0 ≤ 9999) : ∀ k, k ≤ 4 → (numsT d N k).size ≤ 100 + 20000 * k
  | 0, _ => hd
  | k + 1, hk => by
    have ih := numsT_size d N hd h k (by omega)
    have := decI_size (N.getD k 0)
    have := h k (by omega)
    rw [numsT, ByteArray.size_append, ByteArray.size_append, size_one]
    omega

set_option maxRecDepth 100000 in
set_option maxHeartbeats 4000000 in
theorem wmsg_any (W0 w : World) (b : Nat) (kd fr tt bl ins : Int) (va la : Option Addr) (n vc m lc : Nat) (V : List Int) (L : List Ent) (ht : Tab W0) (h : WrAt W0.heap.size b ⟨#[]⟩ w) (hb : Below W0.heap.size W0 w) (hn : n = V.length) (hV : NumsAt W0 va V) (hm : m = L.length) (hL : EntsAt W0 la L) (hok : msgOkP kd fr tt bl ins V L = true) :
    Calls Tryd.prog 35 #[.pointer (some ⟨b, 0, none⟩), .agg #[.int .i64 kd, .int .i64 fr, .int .i64 tt, .int .i64 bl, .int .i64 ins, .slice va n vc, .slice la m lc]] w fun e w' => e = .returned (.tuple #[]) ∧ WrUsed W0.heap.size b (msgT kd fr tt bl ins V L) w' ∧ Below W0.heap.size W0 w' := by
  simp only [msgOkP, Bool.and_eq_true] at hok
  obtain ⟨⟨⟨⟨⟨⟨g1, g2⟩, g3⟩, g4⟩, g5⟩, g6⟩, g7⟩ := hok
  have r1 : 1 ≤ kd ∧ kd ≤ 9 := by simpa [inB] using g1
  have r2 := party_range g2
  have r3 := party_range g3
  have r4 : 0 ≤ bl ∧ bl ≤ 9999 := by simpa [inB] using g4
  have r5 : 0 ≤ ins ∧ ins ≤ 12 := by simpa [inB] using g5
  have r6 := okV_all g6
  have r7 := list_short g7
  have r8 := okTo_each L L.length g7
  have HNR : Hid (∀ k, k < 4 → 0 ≤ [fr, tt, bl, ins].getD k 0 ∧ [fr, tt, bl, ins].getD k 0 ≤ 9999) := fun k hk => by
    match k, hk with
    | 0, _ => exact ⟨by show 0 ≤ fr; omega, by show fr ≤ 9999; omega⟩
    | 1, _ => exact ⟨by show 0 ≤ tt; omega, by show tt ≤ 9999; omega⟩
    | 2, _ => exact ⟨by show 0 ≤ bl; omega, by show bl ≤ 9999; omega⟩
    | 3, _ => exact ⟨by show 0 ≤ ins; omega, by show ins ≤ 9999; omega⟩
  have HNS : Hid (∀ k, k ≤ 4 → (numsT (decI kd) [fr, tt, bl, ins] k).size ≤ 100000) := fun k hk => by
    have := numsT_size (decI kd) [fr, tt, bl, ins] (by have := decI_size kd; omega) HNR.out k hk
    omega
  have s6 := putV_size r6.1 r6.2
  have HT0 := hid ht
  have HMS : Hid (msgT kd fr tt bl ins V L = (numsT (decI kd) [fr, tt, bl, ins] 4 ++ (⟨#[32]⟩ ++ putV V)) ++ (⟨#[32]⟩ ++ putL L)) := by
    have e : numsT (decI kd) [fr, tt, bl, ins] 4 = (((((((decI kd ++ ⟨#[32]⟩) ++ decI fr) ++ ⟨#[32]⟩) ++ decI tt) ++ ⟨#[32]⟩) ++ decI bl) ++ ⟨#[32]⟩) ++ decI ins := rfl
    show msgT kd fr tt bl ins V L = _
    rw [e]
    unfold msgT
    simp only [ByteArray.append_assoc]
  have hal : Below w.heap.size w (w.alloc (.cells #[.int .i64 kd, .int .i64 fr, .int .i64 tt, .int .i64 bl, .int .i64 ins, .slice va n vc, .slice la m lc] 25)) := (Below.refl _ _).alloc (Nat.le_refl _) _
  have HX0 : Hid ((w.alloc (.cells #[.int .i64 kd, .int .i64 fr, .int .i64 tt, .int .i64 bl, .int .i64 ins, .slice va n vc, .slice la m lc] 25)).heap[w.heap.size]? = some (.cells #[.int .i64 kd, .int .i64 fr, .int .i64 tt, .int .i64 bl, .int .i64 ins, .slice va n vc, .slice la m lc] 25 (0, 0))) := new_block _ _
  have HB0 : Hid (Below W0.heap.size W0 (w.alloc (.cells #[.int .i64 kd, .int .i64 fr, .int .i64 tt, .int .i64 bl, .int .i64 ins, .slice va n vc, .slice la m lc] 25))) := hb.trans (hal.mono hb.size)
  have HA0 : Hid (WrAt W0.heap.size b ⟨#[]⟩ (w.alloc (.cells #[.int .i64 kd, .int .i64 fr, .int .i64 tt, .int .i64 bl, .int .i64 ins, .slice va n vc, .slice la m lc] 25))) := wr_below h hal
  have HNB : Hid (w.heap.size ≠ b) := by have := wr_lt h; show _ ≠ _; omega
  have CI : Hid (∀ w', Below W0.heap.size W0 w' → Calls Tryd.prog 60 #[.int .i64 kd] w' fun e w2 => e = .returned (.string (decI kd)) ∧ Below w'.heap.size w' w2) := fun w' hb' => itoaI_any kd w' (by omega) (by omega) (ht.below hb')
  have CW : Hid (∀ w', WrAt W0.heap.size b ⟨#[]⟩ w' → Below W0.heap.size W0 w' → Calls Tryd.prog 59 #[.pointer (some ⟨b, 0, none⟩), .string (decI kd)] w' fun e w2 => (∃ v, e = .returned v) ∧ Wrs W0 b (decI kd) w' w2) := fun w' ha hb' => (string_any W0.heap.size b ⟨#[]⟩ (decI kd) w' ha hb'.size (by show (0 : Nat) ≤ _; omega) (by have := decI_size kd; omega)).mono fun e w2 he => ⟨he.1, by have := Wrs.of hb' he.2; rw [empty_app] at this; exact this⟩
  have CV : Hid (∀ w' t, WrUsed W0.heap.size b t w' → Below W0.heap.size W0 w' → t.size ≤ 100000 → Calls Tryd.prog 61 #[.pointer (some ⟨b, 0, none⟩), .int .u8 32, .slice va n vc] w' fun e w2 => e = .returned (.tuple #[]) ∧ Wrs W0 b (t ++ (⟨#[32]⟩ ++ putV V)) w' w2) := fun w' t ha hb' hs => wvotes_any W0 w' b t 32 32 va vc n V ht ha hb' (by omega) rfl hn (by omega) r6.2 hV
  have CL : Hid (∀ w' t, WrUsed W0.heap.size b t w' → Below W0.heap.size W0 w' → t.size ≤ 200000 → Calls Tryd.prog 62 #[.pointer (some ⟨b, 0, none⟩), .int .u8 32, .slice la m lc] w' fun e w2 => e = .returned (.tuple #[]) ∧ Wrs W0 b (t ++ (⟨#[32]⟩ ++ putL L)) w' w2) := fun w' t ha hb' hs => wents_any W0 w' b t 32 32 la lc m L ht ha hb' (by omega) rfl hm (by omega) r8 hL
  have HS4 : Hid ((numsT (decI kd) [fr, tt, bl, ins] 4 ++ (⟨#[32]⟩ ++ putV V)).size ≤ 200000) := by
    show _ ≤ _
    have := HNS.out 4 (by omega)
    rw [ByteArray.size_append, ByteArray.size_append, size_one]
    omega
  obtain ⟨d, hd⟩ : ∃ d, d = decI kd := ⟨_, rfl⟩
  rw [← hd] at HNS HMS CI CW HS4
  rw [HMS.out]
  clear hal h hb hn hV hm hL g1 g2 g3 g4 g5 g6 g7 r1 r2 r3 r4 r5 r6 r7 r8 s6 hd ht HMS
  go_enter Tryd.func35, Tryd.ntmps35
  have b0 := cell_in HX0.out 0
  simp at b0
  go_wp2_with fail
  refine wp_region_any (by kernel_rfl) ?_
  change wpAny _ _ _ _ _ _ _ (World.drew _)
  refine take_on 0 (v := ?_) rfl rfl (by kernel_rfl) (by kernel_rfl) (by kernel_rfl) (fun _ _ _ h => h) (by rfl) (fun w => ?_) ?_
  rotate_left
  · (go_simp; try with_reducible rfl)
  simp only [List.setIfInBounds_toArray, List.set_cons_zero, List.set_cons_succ]
  refine take_on 1 (v := ?_) rfl rfl (by kernel_rfl) (by kernel_rfl) (by kernel_rfl) (fun _ _ _ h => h) (by rfl) (fun w => ?_) ?_
  rotate_left
  · (go_simp; try with_reducible rfl)
  simp only [List.setIfInBounds_toArray, List.set_cons_zero, List.set_cons_succ]
  refine take_on 2 (v := ?_) rfl rfl (by kernel_rfl) (by kernel_rfl) (by kernel_rfl) (fun _ _ _ h => h) (by rfl) (fun w => ?_) ?_
  rotate_left
  · (go_simp; try with_reducible rfl)
  simp only [List.setIfInBounds_toArray, List.set_cons_zero, List.set_cons_succ]
  refine take_on 3 (v := ?_) rfl rfl (by kernel_rfl) (by kernel_rfl) (by kernel_rfl) (fun _ _ _ h => h) (by rfl) (fun w => ?_) ?_
  rotate_left
  · (go_simp; try with_reducible rfl)
  simp only [List.setIfInBounds_toArray, List.set_cons_zero, List.set_cons_succ]
  refine wpAny_ready (rs := [4]) (by kernel_rfl) (by simp) (AllReady.cons rfl (fun K hK => ?_) AllReady.nil)
  go_simp
  refine hK _ _ ?_
  clear hK K
  refine wpAny_ready (rs := [5]) (by kernel_rfl) (by simp) (AllReady.cons rfl (fun K hK => ?_) AllReady.nil)
  go_simp
  go_wp2_with fail
  refine (CI.out _ HB0.out.drew).mono ?_
  rintro e w2 ⟨rfl, hb2⟩
  have HB2 := hid (HB0.out.drew.trans (hb2.mono HB0.out.size))
  have HA2 := hid (wr_below (wr_below HA0.out (Below.refl _ _).drew) hb2)
  have HX2 := hid (below_other (below_other HX0.out (Below.refl _ _).drew) hb2)
  clear hb2
  refine hK _ _ ?_
  clear hK K
  refine wpAny_ready (rs := [6]) (by kernel_rfl) (by simp) (AllReady.cons rfl (fun K hK => ?_) AllReady.nil)
  go_simp
  go_wp2_with fail
  refine (CW.out _ HA2.out HB2.out).mono ?_
  rintro e w3 ⟨⟨v, rfl⟩, hw⟩
  have HW3 : Hid (Wrs W0 b d w3 w3) := ⟨hw.1, hw.2.1, WrFrame.refl _ _ _⟩
  have HX3 := hid (other_kept hw (by decide) HX2.out HNB.out)
  clear hw
  refine hK _ _ ?_
  clear hK K
  refine wpAny_done (by kernel_rfl) ?_ _
  have x0 := cell_in HX3.out 0
  have x1 := cell_in HX3.out 1
  have x2 := cell_in HX3.out 2
  have x3 := cell_in HX3.out 3
  have x4 := cell_in HX3.out 4
  have x5 := cell_in HX3.out 5
  have x6 := cell_in HX3.out 6
  simp at x0 x1 x2 x3 x4 x5 x6
  have hal : Below w3.heap.size w3 (w3.alloc (.cells #[.int .i64 fr, .int .i64 tt, .int .i64 bl, .int .i64 ins] 3)) := (Below.refl _ _).alloc (Nat.le_refl _) _
  have HWA : Hid (Wrs W0 b d (w3.alloc (.cells #[.int .i64 fr, .int .i64 tt, .int .i64 bl, .int .i64 ins] 3)) (w3.alloc (.cells #[.int .i64 fr, .int .i64 tt, .int .i64 bl, .int .i64 ins] 3))) := ⟨(HW3.out.below hal).1, (HW3.out.below hal).2.1, WrFrame.refl _ _ _⟩
  have HXA := hid (below_other HX3.out hal)
  have HYA : Hid ((w3.alloc (.cells #[.int .i64 fr, .int .i64 tt, .int .i64 bl, .int .i64 ins] 3)).heap[w3.heap.size]? = some (.cells #[.int .i64 fr, .int .i64 tt, .int .i64 bl, .int .i64 ins] 3 (0, 0))) := new_block _ _
  have HNY : Hid (w3.heap.size ≠ b) := by have := HW3.out.1.lt; show _ ≠ _; omega
  clear hal HB0 HA0 HX0 b0
  go_wp2
  clear x0 x1 x2 x3 x4 x5 x6
  go_loopw [23] (fun i wr => ∃ k : Nat, k ≤ 4 ∧ i = .int .i64 k ∧ Hid (WrUsed W0.heap.size b (numsT d [fr, tt, bl, ins] k) wr) ∧ Hid (Below W0.heap.size W0 wr) ∧ Hid (wr.heap[w.heap.size]? = some (.cells #[.int .i64 kd, .int .i64 fr, .int .i64 tt, .int .i64 bl, .int .i64 ins, .slice va n vc, .slice la m lc] 25 (0, 0))) ∧ Hid (wr.heap[w3.heap.size]? = some (.cells #[.int .i64 fr, .int .i64 tt, .int .i64 bl, .int .i64 ins] 3 (0, 0)))) (fun i _ => 4 - (intOf i).toNat)
  case atStart => exact ⟨0, Nat.zero_le _, rfl, HWA.out.1, HWA.out.2.1, HXA, HYA⟩
  case round =>
    obtain ⟨k, hk, rfl, HU, HBR, HX, HY⟩ := hrel
    by_cases hlt : k < 4
    · have hltI : (k : Int) < 4 := by omega
      have hk0I : (0 : Int) ≤ (k : Int) := by omega
      have hr := HNR.out k hlt
      have hs := HNS.out k hk
      have hc : wr.cell? ⟨w3.heap.size, k, none⟩ = some (.int .i64 ([fr, tt, bl, ins].getD k 0)) := by
        rw [cell_in HY.out k]
        match k, hlt with
        | 0, _ => rfl
        | 1, _ => rfl
        | 2, _ => rfl
        | 3, _ => rfl
      have HNX : Hid (numsT d [fr, tt, bl, ins] (k + 1) = (numsT d [fr, tt, bl, ins] k ++ ⟨#[32]⟩) ++ decI ([fr, tt, bl, ins].getD k 0)) := rfl
      obtain ⟨x, hx⟩ : ∃ x, x = [fr, tt, bl, ins].getD k 0 := ⟨_, rfl⟩
      rw [← hx] at hc hr HNX
      have CN : Hid (Calls Tryd.prog 36 #[.pointer (some ⟨b, 0, none⟩), .int .u8 32, .int .i64 x] wr fun e w' => e = .returned (.tuple #[]) ∧ Wrs W0 b (numsT d [fr, tt, bl, ins] (k + 1)) wr w') := by rw [HNX.out]; exact number_any W0 wr b _ 32 32 x HT0.out HU.out.at HBR.out (by omega) rfl (by omega) (by omega)
      clear hx hr hs HNX
      go_wp2_with fail
      refine CN.out.mono ?_
      rintro e w4 ⟨rfl, hw⟩
      have HU4 := hid hw.1
      have HB4 := hid hw.2.1
      have HX4 := hid (other_kept hw (by decide) HX.out HNB.out)
      have HY4 := hid (other_kept hw (by decide) HY.out HNY.out)
      clear hw
      go_wp2
      go_roundw
      case rel => exact ⟨k + 1, by omega, by go_num, HU4, HB4, HX4, HY4⟩
      case measure => simp [intOf]; omega
    · have hltI : ¬ (k : Int) < 4 := by omega
      have hk4 : k = 4 := by omega
      subst hk4
      have x5 := cell_in HX.out 5
      simp at x5
      go_wp2_with fail
      refine (CV.out _ _ HU.out HBR.out (HNS.out 4 hk)).mono ?_
      rintro e w4 ⟨rfl, hw⟩
      have HU4 := hid hw.1
      have HB4 := hid hw.2.1
      have HX4 := hid (other_kept hw (by decide) HX.out HNB.out)
      have x6 := cell_in HX4.out 6
      simp at x6
      clear hw
      go_wp2_with fail
      refine (CL.out _ _ HU4.out HB4.out HS4.out).mono ?_
      rintro e w5 ⟨rfl, hw⟩
      have HU5 := hid hw.1
      have HB5 := hid hw.2.1
      clear hw
      go_wp2
      go_end0
      exact ⟨rfl, HU5.out, HB5.out⟩

theorem wr_new (W : World) : WrAt W.heap.size W.heap.size ⟨#[]⟩ (W.alloc (.cells #[.pointer none, .slice none 0 0] 65)) :=
  Or.inl ⟨Nat.le_refl _, .slice none 0 0, new_block _ _, ⟨rfl, Or.inl ⟨rfl, rfl⟩⟩, by simp [Value.ownBlock]⟩

theorem msgT_size {kd fr tt bl ins : Int} {V : List Int} {L : List Ent} (hok : msgOkP kd fr tt bl ins V L = true) : 0 < (msgT kd fr tt bl ins V L).size ∧ (msgT kd fr tt bl ins V L).size ≤ 1000000 := by
  simp only [msgOkP, Bool.and_eq_true] at hok
  obtain ⟨⟨⟨⟨⟨⟨g1, g2⟩, g3⟩, g4⟩, g5⟩, g6⟩, g7⟩ := hok
  have r1 : 1 ≤ kd ∧ kd ≤ 9 := by simpa [inB] using g1
  have r2 := party_range g2
  have r3 := party_range g3
  have r4 : 0 ≤ bl ∧ bl ≤ 9999 := by simpa [inB] using g4
  have r5 : 0 ≤ ins ∧ ins ≤ 12 := by simpa [inB] using g5
  have r6 := okV_all g6
  have s1 := decI_size kd
  have s2 := decI_size fr
  have s3 := decI_size tt
  have s4 := decI_size bl
  have s5 := decI_size ins
  have s6 := putV_size r6.1 r6.2
  have s7 := putL_size (list_short g7) (okTo_each L L.length g7)
  have s0 := decI_pos kd
  unfold msgT
  simp only [ByteArray.size_append, size_one]
  omega

set_option maxRecDepth 100000 in
set_option maxHeartbeats 3200000 in
theorem implMsgPut_any (kd fr tt bl ins : Int) (va la : Option Addr) (n vc m lc : Nat) (V : List Int) (L : List Ent) (w : World) (ht : Tab w) (hn : n = V.length) (hn2 : n ≤ 1048576) (hV : NumsAt w va V) (hm : m = L.length) (hm2 : m ≤ 1048576) (hL : EntsAt w la L) :
    Calls Tryd.prog 13 #[.agg #[.int .i64 kd, .int .i64 fr, .int .i64 tt, .int .i64 bl, .int .i64 ins, .slice va n vc, .slice la m lc]] w fun e w' => e = .returned (.string (putText kd fr tt bl ins V L)) ∧ Below w.heap.size w w' := by
  obtain ⟨c, hc⟩ : ∃ c, c = msgOkP kd fr tt bl ins V L := ⟨_, rfl⟩
  have HB0 : Hid (Below w.heap.size w (w.alloc (.cells #[.int .i64 kd, .int .i64 fr, .int .i64 tt, .int .i64 bl, .int .i64 ins, .slice va n vc, .slice la m lc] 25))) := (Below.refl _ _).alloc (Nat.le_refl _) _
  have CO : Hid (∀ w', Below w.heap.size w w' → Calls Tryd.prog 12 #[.agg #[.int .i64 kd, .int .i64 fr, .int .i64 tt, .int .i64 bl, .int .i64 ins, .slice va n vc, .slice la m lc]] w' fun e w2 => e = .returned (.bool c) ∧ Below w'.heap.size w' w2) := fun w' hb => by rw [hc]; exact implMsgOk_any kd fr tt bl ins va la n vc m lc V L w' hn hn2 (hV.below hb) hm hm2 (hL.below hb)
  cases c
  · have HE : Hid (putText kd fr tt bl ins V L = (⟨#[]⟩ : ByteArray)) := by show _ = _; unfold putText; rw [← hc]; rfl
    clear hc hn hV hm hL ht
    go_enter Tryd.func13, Tryd.ntmps13
    go_wp2_with fail
    refine (CO.out _ HB0.out).mono ?_
    rintro e w1 ⟨rfl, hb⟩
    have HB1 : Hid (Below w.heap.size w w1) := HB0.out.trans (hb.mono HB0.out.size)
    clear hb
    go_wp2
    go_ret
    exact ⟨by rw [HE.out]; rfl, HB1.out⟩
  · have HOK := hid hc.symm
    have hms := msgT_size hc.symm
    have HP : Hid (putText kd fr tt bl ins V L = (msgT kd fr tt bl ins V L ++ ⟨#[32]⟩) ++ decI (crcP (msgT kd fr tt bl ins V L) : Nat)) := by show _ = _; unfold putText; rw [← hc]; rfl
    have CM : Hid (∀ W, Below w.heap.size w W → Calls Tryd.prog 35 #[.pointer (some ⟨W.heap.size, 0, none⟩), .agg #[.int .i64 kd, .int .i64 fr, .int .i64 tt, .int .i64 bl, .int .i64 ins, .slice va n vc, .slice la m lc]] (W.alloc (.cells #[.pointer none, .slice none 0 0] 65)) fun e w' => e = .returned (.tuple #[]) ∧ WrUsed W.heap.size W.heap.size (msgT kd fr tt bl ins V L) w' ∧ Below W.heap.size W w') := fun W hb => wmsg_any W _ W.heap.size kd fr tt bl ins va la n vc m lc V L (ht.below hb) (wr_new W) ((Below.refl _ _).alloc (Nat.le_refl _) _) hn (hV.below hb) hm (hL.below hb) HOK.out
    have HT := hid ht
    obtain ⟨p, hp⟩ : ∃ p, p = msgT kd fr tt bl ins V L := ⟨_, rfl⟩
    rw [← hp] at hms HP CM
    have hcl := crcP_lt p
    have CC := hid (fun W => implCrc_any p W (by unfold maxLen; omega))
    obtain ⟨s, hs⟩ : ∃ s, s = crcP p := ⟨_, rfl⟩
    rw [← hs] at hcl CC HP
    obtain ⟨q, hq⟩ : ∃ q, q = (p ++ (⟨#[32]⟩ : ByteArray)) ++ decI (s : Nat) := ⟨_, rfl⟩
    have CN : Hid (∀ W W' b, Below w.heap.size w W → WrUsed W.heap.size b p W' → Below W.heap.size W W' → Calls Tryd.prog 36 #[.pointer (some ⟨b, 0, none⟩), .int .u8 32, .int .i64 (s : Nat)] W' fun e w' => e = .returned (.tuple #[]) ∧ Wrs W b q W' w') := fun W W' b h1 h2 h3 => by rw [hq]; exact number_any W W' b p 32 32 (s : Nat) (HT.out.below h1) h2.at h3 (by omega) rfl (by omega) (by omega)
    have hqs : 0 < q.size := by rw [hq, ByteArray.size_append, ByteArray.size_append]; omega
    rw [← hq] at HP
    have hps : 0 < p.size := hms.1
    clear hc hn hV hm hL hms hp hs hq hcl ht HOK
    go_enter Tryd.func13, Tryd.ntmps13
    go_wp2_with fail
    refine (CO.out _ HB0.out).mono ?_
    rintro e w1 ⟨rfl, hb⟩
    have HB1 : Hid (Below w.heap.size w w1) := HB0.out.trans (hb.mono HB0.out.size)
    have HX1 := hid (below_other (new_block w (.cells #[.int .i64 kd, .int .i64 fr, .int .i64 tt, .int .i64 bl, .int .i64 ins, .slice va n vc, .slice la m lc] 25)) hb)
    have hlt : w.heap.size < w1.heap.size := (Array.getElem?_eq_some_iff.1 HX1.out).1
    have x0 := cell_in HX1.out 0
    have x1 := cell_in HX1.out 1
    have x2 := cell_in HX1.out 2
    have x3 := cell_in HX1.out 3
    have x4 := cell_in HX1.out 4
    have x5 := cell_in HX1.out 5
    have x6 := cell_in HX1.out 6
    simp at x0 x1 x2 x3 x4 x5 x6
    clear hb
    go_wp2_with fail
    refine (CM.out _ HB1.out).mono ?_
    rintro e w2 ⟨rfl, hu, hb⟩
    have HU2 := hid hu
    have HB2 := hid hb
    clear hu hb x0 x1 x2 x3 x4 x5 x6
    go_wp2_with fail
    refine (text_any _ _ p _ HU2.out hps).mono ?_
    rintro e w3 ⟨rfl, hu, hf⟩
    have HU3 := hid hu
    have HB3 := hid (HB2.out.trans hf.1)
    clear hu hf
    go_wp2_with fail
    refine (CC.out _).mono ?_
    rintro e w4 ⟨rfl, hw4⟩
    rw [hw4]
    clear hw4
    clear w4
    go_wp2_with fail
    refine (CN.out _ _ _ HB1.out HU3.out HB3.out).mono ?_
    rintro e w5 ⟨rfl, hw⟩
    have HU5 := hid hw.1
    have HB5 := hid hw.2.1
    clear hw
    go_wp2_with fail
    refine (text_any _ _ q _ HU5.out hqs).mono ?_
    rintro e w6 ⟨rfl, hu, hf⟩
    have HB6 : Hid (Below w.heap.size w w6) := HB1.out.trans ((HB5.out.trans hf.1).mono HB1.out.size)
    clear hu hf
    go_wp2
    go_ret
    exact ⟨by rw [HP.out]; rfl, HB6.out⟩

end Go.Proofs.YtcielnlhopjijabDoor

