/- DERIVED. The writer's methods: a number, none, votes. -/
import Derived.Test.YtijdjplajhcilabDoorWr
import Derived.Test.YtijdjplajhcilabDoorItoa
import Derived.Test.YtijdjplajhcilabDoorMsgText
import Derived.Test.YtijdjplajhcilabDoorReg
namespace Go.Proofs.YtijdjplajhcilabDoor
open Go.RowKit

/-- The writer holds a text, and what lay in W0 lies there still; and what was written since w touched nothing else. -/
def Wrs (W0 : World) (b : Nat) (t : ByteArray) (w w' : World) : Prop := WrUsed W0.heap.size b t w' ∧ Below W0.heap.size W0 w' ∧ WrFrame W0.heap.size b w w'

theorem at_below {base b : Nat} {t : ByteArray} {w w' : World} (h : WrUsed base b t w) (hb : Below w.heap.size w w') : WrUsed base b t w' := by
  have hl := h.lt
  obtain ⟨hB, v, hbk, hown, hne⟩ := h
  exact ⟨hB, v, (hb.block b hl).trans hbk, hown.kept (row := none) ⟨hb.os, hb.tape, hb.output, hb.size, fun k hk _ => hb.block k hk⟩ (by cases hv : v.ownBlock <;> simp), hne⟩

theorem frame_below {base b : Nat} {w w' : World} (hw : base ≤ w.heap.size) (hb : Below w.heap.size w w') : WrFrame base b w w' :=
  ⟨hb.mono hw, fun k _ hk _ _ => (hb.block k (Array.getElem?_eq_some_iff.1 hk).1).trans hk⟩

theorem Wrs.below {W0 : World} {b : Nat} {t : ByteArray} {w w1 w2 : World} (h : Wrs W0 b t w w1) (hb : Below w1.heap.size w1 w2) : Wrs W0 b t w w2 :=
  ⟨at_below h.1 hb, h.2.1.trans (hb.mono h.2.1.size), h.2.2.trans (frame_below h.2.1.size hb)⟩

theorem Wrs.drew {W0 : World} {b : Nat} {t : ByteArray} {w w1 : World} (h : Wrs W0 b t w w1) : Wrs W0 b t w w1.drew := h.below (Below.refl _ _).drew

theorem Wrs.next {W0 : World} {b : Nat} {t u : ByteArray} {w w1 w2 : World} (h : Wrs W0 b t w w1) (k : Wrs W0 b u w1 w2) : Wrs W0 b u w w2 := ⟨k.1, k.2.1, h.2.2.trans k.2.2⟩

theorem Wrs.at {W0 : World} {b : Nat} {t : ByteArray} {w w1 : World} (h : Wrs W0 b t w w1) : WrAt W0.heap.size b t w1 := h.1.at

/-- What a method of the builder hands over. -/
theorem Wrs.of {W0 : World} {b : Nat} {t : ByteArray} {w w1 : World} (hb : Below W0.heap.size W0 w) (h : WrUsed W0.heap.size b t w1 ∧ WrFrame W0.heap.size b w w1) : Wrs W0 b t w w1 := ⟨h.1, hb.trans h.2.1, h.2⟩

theorem itoa_dec (n : Int) : (⟨(Lib.itoa n).toArray⟩ : ByteArray) = decI n := by
  unfold Lib.itoa decI decS
  split
  · apply Go.WideShapes.bytes_inj
    simp
  · rfl

theorem itoaI_any (n : Int) (w : World) (h1 : -1 ≤ n) (h2 : n ≤ 9999999999) (ht : Tab w) :
    Calls Tryd.prog 28 #[.int .i64 n] w fun e w' => e = .returned (.string (decI n)) ∧ Below w.heap.size w w' := by
  refine (Go.Proofs.Tryd.strconv_Itoa n (by omega) (by omega) w ht).mono ?_
  rintro e w' ⟨rfl, k, os, rfl⟩
  exact ⟨by rw [itoa_dec], below_grow w k os⟩

theorem decI_bd {n : Int} (h1 : -1 ≤ n) (h2 : n ≤ 9999999999) : (decI n).size ≤ 10000000001 := by
  have := decI_size n
  omega

theorem size_one (c : UInt8) : (⟨#[c]⟩ : ByteArray).size = 1 := rfl

set_option maxRecDepth 100000 in
set_option maxHeartbeats 1600000 in
theorem number_any (W0 w : World) (b : Nat) (t : ByteArray) (c : UInt8) (ci n : Int) (ht : Tab W0) (h : WrAt W0.heap.size b t w) (hb : Below W0.heap.size W0 w) (hsz : t.size ≤ 100000000000) (hc : ci = (c.toNat : Int)) (h1 : -1 ≤ n) (h2 : n ≤ 9999999999) :
    Calls Tryd.prog 12 #[.pointer (some ⟨b, 0, none⟩), .int .u8 ci, .int .i64 n] w fun e w' => e = .returned (.tuple #[]) ∧ Wrs W0 b ((t ++ ⟨#[c]⟩) ++ decI n) w w' := by
  have CB := hid (byte_any W0.heap.size b t c ci w h hb.size (by omega) hc)
  have CI : Hid (∀ w', Below W0.heap.size W0 w' → Calls Tryd.prog 28 #[.int .i64 n] w' fun e w2 => e = .returned (.string (decI n)) ∧ Below w'.heap.size w' w2) := fun w' hb' => itoaI_any n w' h1 h2 (ht.below hb')
  obtain ⟨u, hu⟩ : ∃ u, u = t ++ (⟨#[c]⟩ : ByteArray) := ⟨_, rfl⟩
  have hus : u.size ≤ 100000000001 := by rw [hu, ByteArray.size_append, size_one]; omega
  have hds := decI_bd h1 h2
  rw [← hu] at CB ⊢
  obtain ⟨d, hd⟩ : ∃ d, d = decI n := ⟨_, rfl⟩
  rw [← hd] at CI hds ⊢
  have CW : Hid (∀ w1, Wrs W0 b u w w1 → Calls Tryd.prog 27 #[.pointer (some ⟨b, 0, none⟩), .string d] w1 fun e w' => (∃ v, e = .returned v) ∧ Wrs W0 b (u ++ d) w w') := fun w1 h1 => (string_any W0.heap.size b u d w1 h1.at h1.2.1.size (by omega) (by omega)).mono fun e w' he => ⟨he.1, h1.next (Wrs.of h1.2.1 he.2)⟩
  have HB := hid hb
  clear hu hd h hb hus hds hsz hc h1 h2 ht
  go_enter Tryd.func12, Tryd.ntmps12
  go_wp2_with fail
  refine CB.out.mono ?_
  rintro e w1 ⟨rfl, hw⟩
  have HW1 := hid (Wrs.of HB.out hw)
  clear hw
  go_wp2_with fail
  refine wp_region_any (by kernel_rfl) ?_
  change wpAny _ _ _ _ _ _ _ (World.drew _)
  refine take_on 0 (v := ?_) rfl rfl (by kernel_rfl) (by kernel_rfl) (by kernel_rfl) (fun _ _ _ h => h) (by rfl) (fun w => ?_) ?_
  rotate_left
  · (go_simp; try with_reducible rfl)
  simp only [List.setIfInBounds_toArray, List.set_cons_zero, List.set_cons_succ]
  refine take_on 1 (v := ?_) rfl rfl (by kernel_rfl) (by kernel_rfl) (by kernel_rfl) (fun _ _ _ h => h) (by rfl) (fun w => ?_) ?_
  rotate_left
  · (go_simp; try with_reducible rfl)
  simp only [List.setIfInBounds_toArray, List.set_cons_zero, List.set_cons_succ]
  refine take_on 2 (v := ?_) rfl rfl (by kernel_rfl) (by kernel_rfl) (by kernel_rfl) (fun _ _ _ h => h) (by rfl) (fun w => ?_) ?_
  rotate_left
  · (go_simp; try with_reducible rfl)
  simp only [List.setIfInBounds_toArray, List.set_cons_zero, List.set_cons_succ]
  refine take_on 3 (v := ?_) rfl rfl (by kernel_rfl) (by kernel_rfl) (by kernel_rfl) (fun _ _ _ h => h) (by rfl) (fun w => ?_) ?_
  rotate_left
  · (go_simp; try with_reducible rfl)
  simp only [List.setIfInBounds_toArray, List.set_cons_zero, List.set_cons_succ]
  refine wpAny_ready (rs := [4]) (by kernel_rfl) (by simp) (AllReady.cons rfl (fun K hK => ?_) AllReady.nil)
  go_simp
  go_wp2_with fail
  refine (CI.out _ HW1.out.drew.2.1).mono ?_
  rintro e w2 ⟨rfl, hb2⟩
  have HW2 := hid (HW1.out.drew.below hb2)
  clear hb2
  refine hK _ _ ?_
  clear hK K
  refine wpAny_ready (rs := [5]) (by kernel_rfl) (by simp) (AllReady.cons rfl (fun K hK => ?_) AllReady.nil)
  go_simp
  go_wp2_with fail
  refine (CW.out _ HW2.out).mono ?_
  rintro e w3 ⟨⟨v, rfl⟩, hw3⟩
  have HW3 := hid hw3
  clear hw3
  refine hK _ _ ?_
  clear hK K
  refine wpAny_done (by kernel_rfl) ?_ _
  go_wp2
  go_end0
  exact ⟨rfl, HW3.out⟩

set_option maxRecDepth 100000 in
set_option maxHeartbeats 1600000 in
theorem none_any (W0 w : World) (b : Nat) (t : ByteArray) (c : UInt8) (ci : Int) (h : WrAt W0.heap.size b t w) (hb : Below W0.heap.size W0 w) (hsz : t.size ≤ 100000000000) (hc : ci = (c.toNat : Int)) :
    Calls Tryd.prog 55 #[.pointer (some ⟨b, 0, none⟩), .int .u8 ci] w fun e w' => e = .returned (.tuple #[]) ∧ Wrs W0 b ((t ++ ⟨#[c]⟩) ++ ⟨#[45]⟩) w w' := by
  have CB := hid (byte_any W0.heap.size b t c ci w h hb.size (by omega) hc)
  obtain ⟨u, hu⟩ : ∃ u, u = t ++ (⟨#[c]⟩ : ByteArray) := ⟨_, rfl⟩
  have hus : u.size ≤ 100000000001 := by rw [hu, ByteArray.size_append, size_one]; omega
  rw [← hu] at CB ⊢
  have CW : Hid (∀ w1, Wrs W0 b u w w1 → Calls Tryd.prog 31 #[.pointer (some ⟨b, 0, none⟩), .int .u8 45] w1 fun e w' => e = .returned .nilIface ∧ Wrs W0 b (u ++ ⟨#[45]⟩) w w') := fun w1 h1 => (byte_any W0.heap.size b u 45 45 w1 h1.at h1.2.1.size (by omega) rfl).mono fun e w' he => ⟨he.1, h1.next (Wrs.of h1.2.1 he.2)⟩
  have HB := hid hb
  clear hu h hb hus hsz hc
  go_enter Tryd.func55, Tryd.ntmps55
  go_wp2_with fail
  refine CB.out.mono ?_
  rintro e w1 ⟨rfl, hw⟩
  have HW1 := hid (Wrs.of HB.out hw)
  clear hw
  go_wp2_with fail
  refine (CW.out _ HW1.out).mono ?_
  rintro e w2 ⟨rfl, hw⟩
  have HW2 := hid hw
  clear hw
  go_wp2
  go_end0
  exact ⟨rfl, HW2.out⟩

/-- The first k votes behind what parts them from what is ahead. -/
def wText (c : UInt8) (V : List Int) (k : Nat) : ByteArray := if k = 0 then ⟨#[]⟩ else ⟨#[c]⟩ ++ vText V k

/-- What parts the next one from what is ahead. -/
def partC (c p : UInt8) (k : Nat) : UInt8 := if k = 0 then c else p

theorem empty_app (x : ByteArray) : (⟨#[]⟩ : ByteArray) ++ x = x := by
  apply Go.WideShapes.bytes_inj
  simp

theorem app_empty (x : ByteArray) : x ++ (⟨#[]⟩ : ByteArray) = x := by
  apply Go.WideShapes.bytes_inj
  simp

theorem wText_next (c : UInt8) (V : List Int) (k : Nat) : wText c V (k + 1) = (wText c V k ++ ⟨#[partC c 44 k]⟩) ++ decI (V.getD k 0) := by
  unfold wText partC
  rw [if_neg (by omega), vText_next]
  by_cases h : k = 0
  · subst h
    rw [if_pos rfl, if_pos rfl, if_neg (by omega)]
    show ⟨#[c]⟩ ++ ((⟨#[]⟩ : ByteArray) ++ decI (V.getD 0 0)) = (⟨#[]⟩ ++ ⟨#[c]⟩) ++ decI (V.getD 0 0)
    rw [empty_app, empty_app]
  · rw [if_neg h, if_neg h, if_pos (by omega)]
    rw [ByteArray.append_assoc, ByteArray.append_assoc, ByteArray.append_assoc]

theorem wText_size {c : UInt8} {V : List Int} (h : ∀ n ∈ V, -1 ≤ n ∧ n ≤ 127) (k : Nat) (hk : k ≤ V.length) : (wText c V k).size ≤ 130 * k + 1 := by
  unfold wText
  split
  · show (0 : Nat) ≤ _
    omega
  · rw [ByteArray.size_append, size_one]
    have := vText_size h k hk
    omega

set_option maxRecDepth 100000 in
set_option maxHeartbeats 1600000 in
theorem wvotes_any (W0 w : World) (b : Nat) (t : ByteArray) (c : UInt8) (ci : Int) (oa : Option Addr) (cap len : Nat) (V : List Int) (ht : Tab W0) (h : WrUsed W0.heap.size b t w) (hb : Below W0.heap.size W0 w) (hsz : t.size ≤ 90000000000) (hc : ci = (c.toNat : Int)) (hl : len = V.length) (h3 : len ≤ 3) (hv : ∀ n ∈ V, -1 ≤ n ∧ n ≤ 127) (hV : NumsAt W0 oa V) :
    Calls Tryd.prog 29 #[.pointer (some ⟨b, 0, none⟩), .int .u8 ci, .slice oa len cap] w fun e w' => e = .returned (.tuple #[]) ∧ Wrs W0 b (t ++ (⟨#[c]⟩ ++ putV V)) w w' := by
  have HW0 : Hid (Wrs W0 b t w w) := ⟨h, hb, WrFrame.refl _ _ _⟩
  have HL := hid hl
  by_cases h0 : len = 0
  · have e : putV V = ⟨#[45]⟩ := by
      unfold putV
      rw [if_pos (List.eq_nil_of_length_eq_zero (by omega))]
    rw [e, ← ByteArray.append_assoc]
    have CN : Hid (Calls Tryd.prog 55 #[.pointer (some ⟨b, 0, none⟩), .int .u8 ci] w fun e w' => e = .returned (.tuple #[]) ∧ Wrs W0 b ((t ++ ⟨#[c]⟩) ++ ⟨#[45]⟩) w w') := none_any W0 w b t c ci h.at hb (by omega) hc
    obtain ⟨u, hu⟩ : ∃ u, u = (t ++ (⟨#[c]⟩ : ByteArray)) ++ (⟨#[45]⟩ : ByteArray) := ⟨_, rfl⟩
    rw [← hu] at CN ⊢
    subst h0
    clear hu e h hb hsz hc hl h3 hv hV ht
    go_enter Tryd.func29, Tryd.ntmps29
    go_wp2_with fail
    refine CN.out.mono ?_
    rintro e w1 ⟨rfl, hw⟩
    have HW1 := hid hw
    clear hw
    go_wp2
    go_loopw [16] (fun i wr => i = .int .i64 0 ∧ wr = w1) (fun _ _ => 0)
    case atStart => exact ⟨rfl, rfl⟩
    case round =>
      obtain ⟨rfl, rfl⟩ := hrel
      go_wp2
      go_end0
      exact ⟨rfl, HW1.out⟩
  · have e : putV V = vText V V.length := by
      unfold putV
      rw [if_neg]
      intro e
      rw [e] at hl
      exact h0 hl
    rw [e, ← hl]
    have HT := hid ht
    have HBD := hid hv
    have HV := hid hV
    have HSZ := hid hsz
    have HWS : Hid (∀ k, k ≤ len → (t ++ wText c V k).size ≤ 90000001000) := fun k hk => by
      have := wText_size (c := c) hv k (by omega)
      rw [ByteArray.size_append]
      omega
    have HFIN : Hid (wText c V len = ⟨#[c]⟩ ++ vText V len) := by
      show wText c V len = _
      unfold wText
      rw [if_neg h0]
    have HST : Hid (t ++ wText c V 0 = t) := by
      show t ++ wText c V 0 = t
      unfold wText
      rw [if_pos rfl, app_empty]
    have h0I : ((len : Int) == 0) = false := by rw [beq_eq_false_iff_ne]; omega
    have h0N : (len == 0) = false := by rw [beq_eq_false_iff_ne]; exact h0
    have hcI : Hid (ci = ((partC c 44 0).toNat : Int)) := by
      show ci = _
      unfold partC
      rw [if_pos rfl]
      exact hc
    rw [← HFIN.out]
    clear e h hb hsz hl hv hV ht hc HFIN
    go_enter Tryd.func29, Tryd.ntmps29
    go_wp2
    go_loopw [1, 16] (fun p i wr => ∃ k : Nat, k ≤ len ∧ i = .int .i64 k ∧ (∃ pi : Int, p = .int .u8 pi ∧ Hid (pi = ((partC c 44 k).toNat : Int))) ∧ Hid (Wrs W0 b (t ++ wText c V k) w wr)) (fun _ i _ => len - (intOf i).toNat)
    case atStart => exact ⟨0, Nat.zero_le _, rfl, ⟨ci, rfl, hcI⟩, by rw [HST.out]; exact HW0⟩
    case round =>
      obtain ⟨k, hk, rfl, ⟨pi, rfl, HP⟩, HW⟩ := hrel
      by_cases hlt : k < len
      · have hltI : (k : Int) < (len : Int) := by omega
        have hkv : k < V.length := by rw [← HL.out]; exact hlt
        obtain ⟨g, off, rfl, _, hcell⟩ := (HV.out.below HW.out.2.1) k hkv
        have hz := HBD.out (V.getD k 0) (by rw [List.getD_eq_getElem?_getD, List.getElem?_eq_getElem hkv]; exact List.getElem_mem _)
        have HX : Hid (V[k] = V.getD k 0) := by show _ = _; rw [List.getD_eq_getElem?_getD, List.getElem?_eq_getElem hkv]; rfl
        rw [HX.out] at hcell
        have HNX := hid (wText_next c V k)
        obtain ⟨x, hx⟩ : ∃ x, x = V.getD k 0 := ⟨_, rfl⟩
        rw [← hx] at hcell hz HNX
        have CN : Hid (Calls Tryd.prog 12 #[.pointer (some ⟨b, 0, none⟩), .int .u8 pi, .int .i64 x] wr fun e w' => e = .returned (.tuple #[]) ∧ Wrs W0 b (((t ++ wText c V k) ++ ⟨#[partC c 44 k]⟩) ++ decI x) wr w') := number_any W0 wr b _ (partC c 44 k) pi x HT.out HW.out.at HW.out.2.1 (by have := HWS.out k (by omega); omega) HP.out hz.1 (by omega)
        have HE : Hid (((t ++ wText c V k) ++ ⟨#[partC c 44 k]⟩) ++ decI x = t ++ wText c V (k + 1)) := by
          show _ = _
          rw [HNX.out, ByteArray.append_assoc, ByteArray.append_assoc, ByteArray.append_assoc]
        rw [HE.out] at CN
        clear hx hz HX hkv HNX HE
        go_wp2_with fail
        refine CN.out.mono ?_
        rintro e w1 ⟨rfl, hw⟩
        have HW1 := hid (HW.out.next hw)
        clear hw
        go_wp2
        go_roundw
        case rel => exact ⟨k + 1, by omega, by go_num, ⟨44, rfl, by show (44 : Int) = _; unfold partC; rw [if_neg (by omega)]; rfl⟩, HW1⟩
        case measure => simp [intOf]; omega
      · have hltI : ¬ (k : Int) < (len : Int) := by omega
        have hkl : k = len := by omega
        subst hkl
        go_wp2
        go_end0
        exact ⟨rfl, HW.out⟩

end Go.Proofs.YtijdjplajhcilabDoor
