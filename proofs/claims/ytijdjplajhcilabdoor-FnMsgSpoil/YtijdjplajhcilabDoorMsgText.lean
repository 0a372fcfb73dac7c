/- DERIVED. Votes as they are written: plain, and the model's walk. -/
import Derived.Test.YtijdjplajhcilabDoorVoteWalks
import Derived.Test.YtijdjplajhcilabDoorDec
namespace Go.Proofs.YtijdjplajhcilabDoor
open Go.RowKit

/-- A number as it is written, -1 included. -/
def decI (n : Int) : ByteArray := if n < 0 then ⟨#[45]⟩ ++ decS n.natAbs else decS n.toNat

theorem decI_size (n : Int) : (decI n).size ≤ n.natAbs + 2 := by
  unfold decI
  split
  · have := decS_size n.natAbs
    rw [ByteArray.size_append]
    show 1 + _ ≤ _
    omega
  · have := decS_size n.toNat
    omega

theorem decS_pos (u : Nat) : 0 < (decS u).size := by
  by_cases h : u < 10
  · rw [decS_small u h]; exact Nat.one_pos
  · rw [decS_more u h, ByteArray.size_append]
    show 0 < _ + 1
    omega

theorem decI_pos (n : Int) : 0 < (decI n).size := by
  unfold decI
  split
  · rw [ByteArray.size_append]
    have := decS_pos n.natAbs
    omega
  · exact decS_pos _

/-- The first k votes, as they are written. -/
def vText (V : List Int) : Nat → ByteArray
  | 0 => ⟨#[]⟩
  | k + 1 => (if 0 < k then vText V k ++ ⟨#[44]⟩ else vText V k) ++ decI (V.getD k 0)

def putV (V : List Int) : ByteArray := if V = [] then ⟨#[45]⟩ else vText V V.length

theorem vText_size {V : List Int} (h : ∀ n ∈ V, -1 ≤ n ∧ n ≤ 127) : ∀ k, k ≤ V.length → (vText V k).size ≤ 130 * k
  | 0, _ => Nat.le_refl _
  | k + 1, hk => by
    have ih := vText_size h k (by omega)
    have hn := h (V.getD k 0) (by rw [List.getD_eq_getElem?_getD, List.getElem?_eq_getElem (by omega)]; exact List.getElem_mem _)
    have hd := decI_size (V.getD k 0)
    rw [vText, ByteArray.size_append]
    split
    · rw [ByteArray.size_append]
      show _ + 1 + _ ≤ _
      omega
    · omega

theorem vText_pos (V : List Int) (k : Nat) (hk : 0 < k) : 0 < (vText V k).size := by
  obtain ⟨j, rfl⟩ : ∃ j, k = j + 1 := ⟨k - 1, by omega⟩
  rw [vText, ByteArray.size_append]
  have := decI_pos (V.getD j 0)
  omega

set_option maxRecDepth 100000 in
set_option maxHeartbeats 800000 in
theorem decI_any (n : Int) (w : World) (h1 : -1 ≤ n) (h2 : n ≤ 9999999999) :
    Calls Tryd.prog 37 #[.int .i64 n] w fun e w' => e = .returned (.string (decI n)) ∧ Below w.heap.size w w' := by
  by_cases h : n < 0
  · have hn : n = -1 := by omega
    subst hn
    have C : Hid (∀ w', Calls Tryd.prog 37 #[.int .i64 1] w' fun e w2 => e = .returned (.string (decS 1)) ∧ Below w'.heap.size w' w2) := fun w' => dec_any 1 w' (by decide)
    have HD : Hid (decI (-1) = ⟨#[45]⟩ ++ decS 1) := rfl
    have hs := decS_size 1
    obtain ⟨d, hd⟩ : ∃ d, d = decS 1 := ⟨_, rfl⟩
    rw [← hd] at C HD hs
    obtain ⟨m, hm⟩ : ∃ m : ByteArray, m = ⟨#[45]⟩ := ⟨_, rfl⟩
    have hms : m.size = 1 := by rw [hm]; rfl
    have hadd := fun W => run_string_add_sum (P := Tryd.prog) (w := W) ⟨#[45]⟩ d (by show 1 + d.size ≤ _; omega)
    have HM : Hid ((⟨#[45]⟩ : ByteArray) ++ d = decI (-1)) := HD.out.symm
    obtain ⟨u, hu⟩ : ∃ u, u = (⟨#[45]⟩ : ByteArray) ++ d := ⟨_, rfl⟩
    rw [← hu] at hadd HM
    clear hd hs hms hm hu h1 h2 HD
    go_enter Tryd.func37, Tryd.ntmps37
    go_wp2_with fail
    refine (C.out _).mono ?_
    rintro e w' ⟨rfl, hb⟩
    have HB := hid hb
    clear hb
    go_wp2
    go_ret
    exact ⟨by rw [← HM.out]; rfl, HB.out⟩
  · obtain ⟨k, rfl⟩ : ∃ k : Nat, n = (k : Int) := ⟨n.toNat, by omega⟩
    have e : decI (k : Int) = decS k := by unfold decI; rw [if_neg h]; rfl
    rw [e]
    exact dec_any k w (by omega)

theorem vText_next (V : List Int) (k : Nat) : vText V (k + 1) = (if 0 < k then vText V k ++ ⟨#[44]⟩ else vText V k) ++ decI (V.getD k 0) := rfl

set_option maxRecDepth 100000 in
set_option maxHeartbeats 1600000 in
theorem l9Votes_any (oa : Option Addr) (cap len : Nat) (V : List Int) (w : World) (hl : len = V.length) (h3 : len ≤ 3) (hb : ∀ n ∈ V, -1 ≤ n ∧ n ≤ 127) (h : NumsAt w oa V) :
    Calls Tryd.prog 38 #[.slice oa len cap] w fun e w' => e = .returned (.string (putV V)) ∧ Below w.heap.size w w' := by
  have HV := hid h
  have HL := hid hl
  have HSZ : Hid (∀ k, k ≤ V.length → (vText V k).size ≤ 130 * k) := vText_size hb
  have HBD := hid hb
  clear h hl hb
  go_enter Tryd.func38, Tryd.ntmps38
  go_wp2
  go_loopw [3, 4] (fun o i wr => ∃ k : Nat, k ≤ len ∧ i = .int .i64 k ∧ o = .string (vText V k) ∧ Below w.heap.size w wr) (fun _ i _ => len - (intOf i).toNat)
  case atStart => exact ⟨0, Nat.zero_le _, rfl, rfl, Below.refl _ _⟩
  case round =>
    obtain ⟨k, hk, rfl, rfl, hb⟩ := hrel
    have HB := hid hb
    clear hb
    by_cases hlt : k < len
    · have hltI : (k : Int) < (len : Int) := by omega
      have hkv : k < V.length := by rw [← HL.out]; exact hlt
      obtain ⟨b, off, rfl, _, hc⟩ := (HV.out.below HB.out) k hkv
      have hz := HBD.out (V.getD k 0) (by rw [List.getD_eq_getElem?_getD, List.getElem?_eq_getElem hkv]; exact List.getElem_mem _)
      have HX : Hid (V[k] = V.getD k 0) := by show _ = _; rw [List.getD_eq_getElem?_getD, List.getElem?_eq_getElem hkv]; rfl
      rw [HX.out] at hc
      have hs1 := HSZ.out k (by omega)
      have hs2 := decI_size (V.getD k 0)
      have HNX := hid (vText_next V k)
      obtain ⟨x, hx⟩ : ∃ x, x = V.getD k 0 := ⟨_, rfl⟩
      rw [← hx] at hc hz hs2 HNX
      obtain ⟨d, hd⟩ : ∃ d, d = decI x := ⟨_, rfl⟩
      obtain ⟨t, ht⟩ : ∃ t, t = vText V k := ⟨_, rfl⟩
      have C : Hid (∀ w', Calls Tryd.prog 37 #[.int .i64 x] w' fun e w2 => e = .returned (.string d) ∧ Below w'.heap.size w' w2) := fun w' => by rw [hd]; exact decI_any x w' hz.1 (by omega)
      rw [← hd] at hs2 HNX
      rw [← ht] at hs1 HNX ⊢
      clear hx hd ht HX hkv
      by_cases hk0 : 0 < k
      · have hkI : (0 : Int) < (k : Int) := by omega
        have hdk : decide (0 < k) = true := decide_eq_true hk0
        have hz1 : (t ++ ⟨#[44]⟩ : ByteArray).size = t.size + 1 := by rw [ByteArray.size_append]; rfl
        have hadd1 := fun W => run_string_add_sum (P := Tryd.prog) (w := W) t ⟨#[44]⟩ (by show t.size + 1 ≤ _; omega)
        rw [if_pos hk0] at HNX
        obtain ⟨u, hu⟩ : ∃ u, u = t ++ (⟨#[44]⟩ : ByteArray) := ⟨_, rfl⟩
        rw [← hu] at hadd1 hz1 HNX
        have hadd2 := fun W => run_string_add_sum (P := Tryd.prog) (w := W) u d (by omega)
        obtain ⟨q, hq⟩ : ∃ q, q = u ++ d := ⟨_, rfl⟩
        rw [← hq] at hadd2 HNX
        clear hu hq hz1 hs1 hs2
        go_wp2_with fail
        refine (C.out _).mono ?_
        rintro e w1 ⟨rfl, hb⟩
        have HB1 : Hid (Below w.heap.size w w1) := HB.out.trans (hb.mono HB.out.size)
        clear hb
        go_wp2
        go_roundw
        case rel => exact ⟨k + 1, by omega, by go_num, by rw [HNX.out], HB1.out⟩
        case measure => simp [intOf]; omega
      · have hkz : k = 0 := by omega
        have hkI : ¬ (0 : Int) < (k : Int) := by omega
        have hdk : decide (0 < k) = false := decide_eq_false hk0
        rw [if_neg hk0] at HNX
        have hadd2 := fun W => run_string_add_sum (P := Tryd.prog) (w := W) t d (by omega)
        obtain ⟨q, hq⟩ : ∃ q, q = t ++ d := ⟨_, rfl⟩
        rw [← hq] at hadd2 HNX
        clear hq hs1 hs2 hkz
        go_wp2_with fail
        refine (C.out _).mono ?_
        rintro e w1 ⟨rfl, hb⟩
        have HB1 : Hid (Below w.heap.size w w1) := HB.out.trans (hb.mono HB.out.size)
        clear hb
        go_wp2
        go_roundw
        case rel => exact ⟨k + 1, by omega, by go_num, by rw [HNX.out], HB1.out⟩
        case measure => simp [intOf]; omega
    · have hltI : ¬ (k : Int) < (len : Int) := by omega
      have hkl : k = V.length := by rw [← HL.out]; omega
      by_cases h0 : V = []
      · have HP : Hid (putV V = ⟨#[45]⟩) := if_pos h0
        have ht : vText V k = ⟨#[]⟩ := by rw [hkl, h0]; rfl
        rw [ht]
        clear ht hkl h0
        go_wp2
        go_ret
        exact ⟨by rw [HP.out]; rfl, HB.out⟩
      · have HP : Hid (putV V = vText V k) := by show _ = _; rw [hkl]; exact if_neg h0
        have hpos := vText_pos V k (by rw [hkl]; exact List.length_pos_iff.2 h0)
        obtain ⟨t, ht⟩ : ∃ t, t = vText V k := ⟨_, rfl⟩
        rw [← ht] at HP hpos ⊢
        have htl : t.toList ≠ [] := by
          intro e
          have := congrArg List.length e
          rw [len_toList, List.length_nil] at this
          omega
        have hne : (t.toList == []) = false := by rw [beq_eq_false_iff_ne]; exact htl
        clear ht hkl h0
        go_wp2
        go_ret
        exact ⟨by rw [HP.out]; rfl, HB.out⟩

end Go.Proofs.YtijdjplajhcilabDoor
