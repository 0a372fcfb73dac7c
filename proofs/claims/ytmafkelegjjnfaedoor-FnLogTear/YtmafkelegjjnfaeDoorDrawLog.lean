/- DERIVED. The walks of what draws logs. -/
import Derived.Test.YtmafkelegjjnfaeDoorDrawHost2
import Derived.Test.YtmafkelegjjnfaeDoorLogAdd
import Derived.Deep.LoopGhost
namespace Go.Proofs.YtmafkelegjjnfaeDoor
open Go.RowKit

theorem Drawn.trans2' {R : Nat} {oa : Option Addr} {len cap q q' : Nat} {w w1 w2 : World} (h : Drawn R oa len cap q w w1) (k : Drawn R oa len cap q' w1 w2) : Drawn R oa len cap q' w w2 := ⟨k.1, h.2.trans k.2⟩

set_option maxHeartbeats 600000 in
theorem many_any (s : ByteArray) (n : Nat) (w : World) (hs : s.size ≤ 20) (hn : n ≤ 500) :
    Calls Tryd.prog 19 #[.string s, .int .i64 (n : Int)] w fun e w' => (∃ t : ByteArray, e = .returned (.string t) ∧ t.size ≤ 20 * n) ∧ w' = w := by
  go_enter Tryd.func19, Tryd.ntmps19
  go_wp2
  go_loopg [1, 5] n (fun gh v1 v5 wr => ∃ t : ByteArray, v1 = .int .i64 (gh : Int) ∧ v5 = .string t ∧ t.size + 20 * gh ≤ 20 * n ∧ gh ≤ n ∧ wr = w)
  case atStart => exact ⟨⟨#[]⟩, rfl, rfl, by simp [ByteArray.size], Nat.le_refl _, rfl⟩
  case round =>
    obtain ⟨t, rfl, rfl, ht, hg, rfl⟩ := hrel
    cases gk with
    | zero =>
      go_wp2
      go_ret
      exact ⟨⟨t, rfl, by omega⟩, rfl⟩
    | succ g =>
      have hpos : ((g : Int) + 1) > 0 := by omega
      have hadd := fun W => run_string_add_sum (P := Tryd.prog) (w := W) t s (by omega)
      have hsz : (t ++ s).size = t.size + s.size := by rw [ByteArray.size_append]
      obtain ⟨u, hu⟩ : ∃ u, u = t ++ s := ⟨_, rfl⟩
      rw [← hu] at hadd hsz
      clear hu
      go_wp2
      go_roundg g
      case measure => omega
      case rel => exact ⟨u, by go_num, rfl, by omega, by omega, rfl⟩

theorem putR_short {r : ByteArray} {K : Nat} (h : r.size ≤ K) : (putR r).size ≤ 2 * K + 3 := by
  have := decS_size r.size
  rw [putR_size]; omega

theorem addS_size {log r : ByteArray} {K : Nat} (h : r.size ≤ K) : (addS log r).size ≤ log.size + 2 * K + 3 := by
  have := putR_short h
  unfold addS
  split
  · rw [ByteArray.size_append]; omega
  · omega

set_option maxRecDepth 100000 in
set_option maxHeartbeats 1600000 in
theorem log_any (R : Nat) (oa : Option Addr) (len cap p : Nat) (w : World) (h : RdAt w R oa len cap p) (hp : p ≤ 900000) :
    Calls Tryd.prog 18 #[.pointer (some ⟨R, 0, none⟩)] w fun e w' => (∃ s : ByteArray, e = .returned (.string s) ∧ s.size ≤ 200) ∧ (∃ q, q ≤ p + 6 ∧ Drawn R oa len cap q w w') := by
  have HR := hid h
  have hRo := h.old
  clear h
  go_enter Tryd.func18, Tryd.ntmps18
  go_wp2_with fail
  refine (pick_any R oa len cap p 6 _ HR.out (by omega) (by decide)).mono ?_
  rintro e w1 ⟨⟨x, rfl, hx0, hx1⟩, hd⟩
  obtain ⟨n, rfl⟩ : ∃ n : Nat, x = (n : Int) := ⟨x.toNat, by omega⟩
  have HD1 := hid hd
  clear hd
  go_wp2
  go_loopg [3, 4] n (fun gh v3 v4 wr => ∃ (s : ByteArray) (q : Nat), v4 = .int .i64 (gh : Int) ∧ v3 = .string s ∧ gh ≤ n ∧ s.size + 23 * gh ≤ 120 ∧ q + gh ≤ p + 6 ∧ Drawn R oa len cap q w wr)
  case atStart => exact ⟨⟨#[]⟩, p + 1, rfl, rfl, Nat.le_refl _, by simp [ByteArray.size]; omega, by omega, HD1.out⟩
  case round =>
    obtain ⟨s, q, rfl, rfl, hg, hs, hq, hd⟩ := hrel
    have HD := hid hd
    have hRw := hd.1.old
    clear hd HD1
    cases gk with
    | zero =>
      go_wp2
      go_ret
      exact ⟨⟨s, rfl, by omega⟩, q, by omega, HD.out⟩
    | succ g =>
      have hpos : ((g : Int) + 1) > 0 := by omega
      go_wp2_with fail
      refine (of_any R _ 9 9 oa len cap q _ (HD.out.1.keep ((Below.refl _ _).alloc (Nat.le_refl _) _)) (by omega) (by decide) (by decide) ?_ ?_ ?_).mono ?_
      · simp
      · omega
      · exact strs_new _ _ _ 9 _ 9 (by simp) (by rfl) (by kernel_rfl)
      rintro e w2 ⟨⟨r, rfl, hr⟩, hd⟩
      have HD2 : Hid (Drawn R oa len cap (q + 1) w w2) := ⟨hd.1, HD.out.2.trans ((Keeps.of_below ((Below.refl _ _).alloc (Nat.le_refl _) _) hRw).trans hd.2)⟩
      have hRw2 := hd.1.old
      have HA := hid (addS_size (log := s) hr)
      clear hd HD
      go_wp2_with fail
      refine (specAdd_any s r _ (by omega) (by omega)).mono ?_
      rintro e w3 ⟨rfl, hb⟩
      have HD3 : Hid (Drawn R oa len cap (q + 1) w w3) := ⟨HD2.out.1.keep hb, HD2.out.2.trans (Keeps.of_below hb hRw2)⟩
      obtain ⟨u, hu⟩ : ∃ u, u = addS s r := ⟨_, rfl⟩
      have hus : u.size ≤ s.size + 21 := by have := HA.out; rw [hu]; omega
      obtain ⟨b, hb2⟩ : ∃ b, b = addOk s r := ⟨_, rfl⟩
      rw [← hu, ← hb2]
      clear hb hu hb2 HD2
      go_wp2
      go_roundg g
      case measure => omega
      case rel => exact ⟨u, q + 1, by go_num, rfl, by omega, by omega, by omega, HD3.out⟩

theorem strs_eight (W : World) (a b : ByteArray) (t : Nat) (ha : a.size ≤ 1220) (hb : b.size ≤ 1220) : StrsAt (W.alloc (.cells #[.string ⟨#[]⟩, .string ⟨#[97]⟩, .string ⟨#[105, 32, 48]⟩, .string ⟨#[97, 10]⟩, .string ⟨#[59, 59]⟩, .string a, .string b, .string ⟨#[53, 58, 120, 59]⟩] t)) W.heap.size 8 1220 := by
  refine strs_new W _ t 1220 _ 8 rfl (by rfl) ?_
  have ea : strOk 1220 (.string a) = true := decide_eq_true ha
  have eb : strOk 1220 (.string b) = true := decide_eq_true hb
  rw [← Array.all_toList]
  simp only [List.all_cons, ea, eb, List.all_nil, Bool.and_true, Bool.true_and]
  rfl

set_option maxRecDepth 100000 in
set_option maxHeartbeats 1600000 in
theorem drawLogAdd_any (oa : Option Addr) (len cap : Nat) (w : World) (h : CodeAt w oa len) (hc : len ≤ cap) (hm : cap ≤ maxLen) :
    Calls Tryd.prog 11 #[.slice oa len cap] w fun e w' => (∃ s r : ByteArray, e = .returned (.tuple #[.string s, .string r]) ∧ s.size ≤ 9000 ∧ r.size ≤ 1220) ∧ Below w.heap.size w w' := by
  have HC := hid h
  clear h
  go_enter Tryd.func11, Tryd.ntmps11
  go_wp2_with fail
  refine (open_any oa len cap _ HC.out hc hm).mono ?_
  rintro e w1 ⟨rfl, ⟨l, c, hr⟩, hb⟩
  have HR := hid hr
  have HB := hid hb
  have hRo := hr.old
  clear hr hb
  go_wp2_with fail
  refine (log_any w.heap.size oa l c 0 _ HR.out (by omega)).mono ?_
  rintro e w2 ⟨⟨s, rfl, hs⟩, q, hq, hd⟩
  have HD2 := hid hd
  clear hd
  go_wp2_with fail
  refine (pick_any w.heap.size oa l c q 12 _ HD2.out.1 (by omega) (by decide)).mono ?_
  rintro e w3 ⟨⟨x, rfl, hx0, hx1⟩, hd⟩
  have HD3 : Hid (Drawn w.heap.size oa l c (q + 1) w1 w3) := HD2.out.trans2' hd
  clear hd HD2
  have M60 : Hid (∀ w, Calls Tryd.prog 19 #[.string ⟨#[114]⟩, .int .i64 60] w fun e w' => (∃ t : ByteArray, e = .returned (.string t) ∧ t.size ≤ 1220) ∧ w' = w) := fun w => (many_any ⟨#[114]⟩ 60 w (by decide) (by omega)).mono (by rintro e w' ⟨⟨t, h1, h2⟩, h3⟩; exact ⟨⟨t, h1, by omega⟩, h3⟩)
  have M61 : Hid (∀ w, Calls Tryd.prog 19 #[.string ⟨#[114]⟩, .int .i64 61] w fun e w' => (∃ t : ByteArray, e = .returned (.string t) ∧ t.size ≤ 1220) ∧ w' = w) := fun w => (many_any ⟨#[114]⟩ 61 w (by decide) (by omega)).mono (by rintro e w' ⟨⟨t, h1, h2⟩, h3⟩; exact ⟨⟨t, h1, by omega⟩, h3⟩)
  by_cases h0 : x = 0
  · subst h0
    go_wp2_with fail
    refine (pick_any w.heap.size oa l c (q + 1) 6 _ HD3.out.1 (by omega) (by decide)).mono ?_
    rintro e w4 ⟨⟨y, rfl, hy0, hy1⟩, hd⟩
    obtain ⟨k, hk⟩ : ∃ k : Nat, 425 + y = (k : Int) := ⟨(425 + y).toNat, by omega⟩
    have HD4 : Hid (Drawn w.heap.size oa l c (q + 2) w1 w4) := HD3.out.trans2' hd
    have hkk : k ≤ 430 := by omega
    clear hd HD3
    go_wp2_with fail
    refine (many_any ⟨#[49, 48, 58, 97, 98, 99, 100, 101, 102, 103, 104, 105, 106, 59]⟩ k _ (by decide) (by omega)).mono ?_
    rintro e w5 ⟨⟨t, rfl, ht⟩, rfl⟩
    go_wp2_with fail
    refine (M60.out _).mono ?_
    rintro e w5 ⟨⟨a, rfl, ha⟩, rfl⟩
    go_wp2_with fail
    refine (M61.out _).mono ?_
    rintro e w5 ⟨⟨b, rfl, hb⟩, rfl⟩
    have hz4 := HD4.out.1.old
    go_wp2_with fail
    refine (of_any w.heap.size _ 8 1220 oa l c (q + 2) _ (HD4.out.1.keep ((Below.refl _ _).alloc (Nat.le_refl _) _)) (by omega) (by decide) (by decide) ?_ ?_ (strs_eight _ a b _ ha hb)).mono ?_
    · simp
    · omega
    rintro e w6 ⟨⟨r, rfl, hr⟩, hd⟩
    have HD6 := hid hd
    clear hd
    go_wp2
    go_ret2
    refine ⟨⟨t, r, rfl, by omega, hr⟩, ?_⟩
    refine HD6.out.2.below _ _ (Nat.le_refl _) ?_
    refine Below.alloc ?_ (by omega) _
    exact HD4.out.2.below _ _ (Nat.le_refl _) HB.out
  · have h0' : (x == 0) = false := by rw [beq_eq_false_iff_ne]; exact h0
    clear h0
    go_wp2_with fail
    refine (M60.out _).mono ?_
    rintro e w5 ⟨⟨a, rfl, ha⟩, rfl⟩
    go_wp2_with fail
    refine (M61.out _).mono ?_
    rintro e w5 ⟨⟨b, rfl, hb⟩, rfl⟩
    have hz4 := HD3.out.1.old
    go_wp2_with fail
    refine (of_any w.heap.size _ 8 1220 oa l c (q + 1) _ (HD3.out.1.keep ((Below.refl _ _).alloc (Nat.le_refl _) _)) (by omega) (by decide) (by decide) ?_ ?_ (strs_eight _ a b _ ha hb)).mono ?_
    · simp
    · omega
    rintro e w6 ⟨⟨r, rfl, hr⟩, hd⟩
    have HD6 := hid hd
    clear hd
    go_wp2
    go_ret2
    refine ⟨⟨s, r, rfl, by omega, hr⟩, ?_⟩
    refine HD6.out.2.below _ _ (Nat.le_refl _) ?_
    refine Below.alloc ?_ (by omega) _
    exact HD3.out.2.below _ _ (Nat.le_refl _) HB.out

set_option maxRecDepth 100000 in
set_option maxHeartbeats 1600000 in
theorem drawLogTear_any (oa : Option Addr) (len cap : Nat) (w : World) (h : CodeAt w oa len) (hc : len ≤ cap) (hm : cap ≤ maxLen) :
    Calls Tryd.prog 4 #[.slice oa len cap] w fun e w' => (∃ (s r : ByteArray) (n : Int), e = .returned (.tuple #[.string s, .string r, .int .i64 n]) ∧ s.size ≤ 9000 ∧ r.size ≤ 1220) ∧ Below w.heap.size w w' := by
  have HC := hid h
  clear h
  go_enter Tryd.func4, Tryd.ntmps4
  go_wp2_with fail
  refine (open_any oa len cap _ HC.out hc hm).mono ?_
  rintro e w1 ⟨rfl, ⟨l, c, hr⟩, hb⟩
  have HR := hid hr
  have HB := hid hb
  have HC1 := hid (HC.out.below hb)
  have hRo := hr.old
  clear hr hb
  go_wp2_with fail
  refine (drawLogAdd_any oa len cap _ HC1.out hc hm).mono ?_
  rintro e w2 ⟨⟨s, r, rfl, hs, hr⟩, hb⟩
  have HR2 := hid (HR.out.keep hb)
  have HB2 : Hid (Below w.heap.size w w2) := HB.out.trans (hb.mono HB.out.size)
  clear hb
  go_wp2_with fail
  refine (pick_any w.heap.size oa l c 0 12 _ HR2.out (by omega) (by decide)).mono ?_
  rintro e w3 ⟨⟨x, rfl, hx0, hx1⟩, hd⟩
  have HD := hid hd
  clear hd
  go_wp2
  go_ret3
  exact ⟨⟨s, r, _, rfl, hs, hr⟩, HD.out.2.below _ _ (Nat.le_refl _) HB2.out⟩


end Go.Proofs.YtmafkelegjjnfaeDoor
