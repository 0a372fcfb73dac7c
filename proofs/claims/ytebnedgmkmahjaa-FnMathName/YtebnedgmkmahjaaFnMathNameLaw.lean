/- DERIVED. The walk of the law FnMathName. -/
import Derived.Test.YtebnedgmkmahjaaDrawVars
import Derived.Test.YtebnedgmkmahjaaParRun2
namespace Go.Proofs.Ytebnedgmkmahjaa
open Go.RowKit

set_option maxHeartbeats 800000 in
theorem drawRun_any (oa : Option Addr) (len cap : Nat) (w : World) (h : CodeAt w oa len) (hc : len ≤ cap) (hm : cap ≤ maxLen) :
    Calls Try.prog 4 #[.slice oa len cap] w fun e w' => ∃ (s : ByteArray) (v : Value) (V : Vs), e = .returned (.tuple #[.string s, v]) ∧ s.size ≤ 200010 ∧ VIn w' v V ∧ VOk V ∧ Below w.heap.size w w' := by
  have HC := hid h
  clear h
  go_enter Try.func4, Try.ntmps4
  go_wp2_with fail
  refine (open_any oa len cap _ HC.out hc hm).mono ?_
  rintro e w1 ⟨rfl, ⟨l, c, hr⟩, hb⟩
  have HR := hid hr
  have HB := hid hb
  clear hr hb
  go_wp2_with fail
  refine (drawMathOk_any oa len cap _ (HC.out.below HB.out) hc hm).mono ?_
  rintro e w2 ⟨⟨s, rfl, hs⟩, hb2⟩
  have HB2 := hid hb2
  clear hb2
  go_wp2_with fail
  refine (vars_any w.heap.size oa l c 0 _ (HR.out.keep HB2.out) (by omega)).mono ?_
  rintro e w3 ⟨⟨v, V, rfl, hv, hok, _⟩, q, hd⟩
  have HV := hid hv
  have HD := hid hd
  clear hd
  obtain ⟨ov, cv, rfl, _⟩ := hv
  go_wp2
  refine bodyPost_ret (v := .tuple #[.string s, .slice ov V.length cv]) (by simp [results, Try.results4, go_sem]) rfl ⟨s, _, V, rfl, hs, HV.out, hok, ?_⟩
  exact HD.out.2.below _ _ (Nat.le_refl _) (HB.out.trans (HB2.out.mono HB.out.size))

theorem times_eq (c : UInt8) : (⟨#[32]⟩ ++ oneT c ++ ⟨#[32, 42, 32, 49]⟩ : ByteArray) = timesT c := by
  apply Go.WideShapes.bytes_inj
  simp [oneT, timesT]

theorem nameE_code (V : Vs) (n : ByteArray) : (nameE V n).2 = 0 ∨ (nameE V n).2 = 4 := by
  unfold nameE
  cases h : namedP true V n with
  | ok z => exact Or.inl rfl
  | error e =>
    unfold namedP at h
    split at h
    · cases h
    · split at h
      · cases h
      · injection h with h
        exact Or.inr h.symm

theorem text_nobody {V : Vs} (h : ∀ x ∈ V, ∃ c, letB c = true ∧ x.1 = oneT c) : textV V nobodyT = ⟨#[]⟩ := by
  induction V with
  | nil => rfl
  | cons x t ih =>
    obtain ⟨c, _, e⟩ := h x (by simp)
    have hne : ¬ x.1 = nobodyT := by
      rw [e]
      intro e2
      have := congrArg ByteArray.size e2
      exact absurd this (show ¬ (1 : Nat) = 6 by decide)
    show (if x.1 = nobodyT then x.2 else textV t nobodyT) = _
    rw [if_neg hne]
    exact ih (fun y hy => h y (by simp [hy]))

theorem vin_cell {w : World} {ov : Option Addr} {cv n : Nat} {V : Vs} (h : VIn w (.slice ov n cv) V) (k : Nat) (hlt : k < V.length) : ∃ g off, ov = some ⟨g, off, none⟩ ∧ g < w.heap.size ∧ w.cell? ⟨g, off + k * 2, none⟩ = some (.string V[k].1) ∧ w.cell? ⟨g, off + k * 2 + 1, none⟩ = some (.string V[k].2) := by
  obtain ⟨oa', cp', e', _, _, h3⟩ := h
  injection e' with e1 e2 e3
  obtain ⟨g, off, e4, hg, c0, c1⟩ := h3 k hlt
  exact ⟨g, off, e1.trans e4, hg, c0, c1⟩

set_option maxRecDepth 100000 in
set_option maxHeartbeats 4000000 in
theorem law_any (oa : Option Addr) (len cap : Nat) (w : World) (C : CodeAt w oa len) (hc : len ≤ cap) (hm : cap ≤ maxLen) :
    Calls Try.prog 3 #[.slice oa len cap] w fun e w' => e = .returned (.bool true) ∧ Below w.heap.size w w' := by
  have HC := hid C
  clear C
  by_cases hbig : (1048576 : Int) < (len : Int)
  · go_enter Try.func3, Try.ntmps3
    go_wp2
    go_ret
    exact ⟨rfl, Below.refl _ _⟩
  · go_enter Try.func3, Try.ntmps3
    go_wp2_with fail
    refine (drawRun_any oa len cap _ HC.out hc hm).mono ?_
    rintro e w1 ⟨s, v, V, rfl, hs, hv, hok, hb1⟩
    have HB1 := hid hb1
    have HV := hid hv
    have HOK := hid hok
    have CN : Hid (Calls Try.prog 5 #[.string ⟨#[110, 111, 98, 111, 100, 121]⟩, v] w1 fun e w' => e = .returned (.tuple #[.int .i64 0, .int .i64 0]) ∧ Below w1.heap.size w1 w') := by
      have := mathRun_any nobodyT v V w1 (by decide) hv
      rw [run_nobody V (text_nobody hok.2.1)] at this
      exact this
    have CO : Hid (∀ W, Calls Try.prog 6 #[.string ⟨#[110, 111, 98, 111, 100, 121]⟩] W fun e w' => e = .returned (.bool true) ∧ w' = W) := fun W => by
      have := nameOk_any nobodyT W (by decide)
      rw [show nameOkL nobodyT.data.toList = true from by decide +kernel] at this
      exact this
    obtain ⟨ov, cv, rfl, hvl, _⟩ := hv
    clear hb1 hok hbig HC
    go_wp2_with fail
    refine CN.out.mono ?_
    rintro e w2 ⟨rfl, hb2⟩
    have HB2 : Hid (Below w.heap.size w w2) := HB1.out.trans (hb2.mono HB1.out.size)
    have HV2 := hid (HV.out.below hb2)
    clear hb2 CN HB1 HV
    go_wp2_with fail
    refine (CO.out _).mono ?_
    rintro e w3 ⟨rfl, rfl⟩
    clear CO
    go_wp2
    go_loopw [7] (fun v7 wr => Below w.heap.size w wr ∧ VIn wr (.slice ov V.length cv) V ∧ ∃ (k : Nat), k ≤ V.length ∧ v7 = .int .i64 k) (fun v7 _ => V.length - (intOf v7).toNat)
    case atStart => exact ⟨HB2.out, HV2.out, 0, Nat.zero_le _, rfl⟩
    case round =>
      obtain ⟨hb, hv, k, hk, rfl⟩ := hrel
      have HB := hid hb
      have HV := hid hv
      clear hb HB2 HV2
      by_cases hlt : k < V.length
      · obtain ⟨c, hcl, hce⟩ := HOK.out.2.1 V[k] (List.getElem_mem hlt)
        have hk5 : k ≤ 1000 := by omega
        obtain ⟨g, off, e1, hg, c0, _⟩ := vin_cell hv k hlt
        subst e1
        rw [hce] at c0
        obtain ⟨⟨x, y⟩, hxy⟩ : ∃ z, z = nameE V (oneT c) := ⟨_, rfl⟩
        have hy : y = 0 ∨ y = 4 := by have := nameE_code V (oneT c); rw [← hxy] at this; exact this
        have C1 : Hid (∀ W, VIn W (.slice (some ⟨g, off, none⟩) V.length cv) V → Calls Try.prog 5 #[.string (oneT c), .slice (some ⟨g, off, none⟩) V.length cv] W fun e w' => e = .returned (.tuple #[.int .i64 x, .int .i64 y]) ∧ Below W.heap.size W w') := fun W hW => by
          have := mathRun_any (oneT c) _ V W (by unfold maxLen; show 1 ≤ _; omega) hW
          rw [run_one V c hcl, ← hxy] at this
          exact this
        have C2 : Hid (∀ W, VIn W (.slice (some ⟨g, off, none⟩) V.length cv) V → Calls Try.prog 7 #[.string (oneT c), .slice (some ⟨g, off, none⟩) V.length cv] W fun e w' => e = .returned (.tuple #[.int .i64 x, .int .i64 y]) ∧ Below W.heap.size W w') := fun W hW => by
          have := specRun_one (oneT c) _ V W rfl (by rcases let_cases hcl with rfl | rfl | rfl | rfl | rfl <;> decide +kernel) hW
          rw [← hxy] at this
          exact this
        have C3 : Hid (∀ W, VIn W (.slice (some ⟨g, off, none⟩) V.length cv) V → Calls Try.prog 5 #[.string (⟨#[32]⟩ ++ oneT c ++ ⟨#[32, 42, 32, 49]⟩), .slice (some ⟨g, off, none⟩) V.length cv] W fun e w' => e = .returned (.tuple #[.int .i64 x, .int .i64 y]) ∧ Below W.heap.size W w') := fun W hW => by
          have := mathRun_any (timesT c) _ V W (by unfold maxLen; show 6 ≤ _; omega) hW
          rw [run_times V c hcl, ← hxy, ← times_eq] at this
          exact this
        have hsz1 : (oneT c).size = 1 := rfl
        clear hxy hcl hce hv
        go_wp2_with fail
        refine (C1.out _ HV.out).mono ?_
        rintro e w4 ⟨rfl, hb4⟩
        have HV4 := hid (HV.out.below hb4)
        have HB4 : Hid (Below w.heap.size w w4) := HB.out.trans (hb4.mono HB.out.size)
        have c4 : w4.cell? ⟨g, off + k * 2, none⟩ = some (.string (oneT c)) := by rw [hb4.cell (p := ⟨g, off + k * 2, none⟩) hg]; exact c0
        have hg4 : g < w4.heap.size := Nat.lt_of_lt_of_le hg hb4.size
        clear hb4 c0 hg C1
        go_wp2_with fail
        refine (C2.out _ HV4.out).mono ?_
        rintro e w5 ⟨rfl, hb5⟩
        have HV5 := hid (HV4.out.below hb5)
        have HB5 : Hid (Below w.heap.size w w5) := HB4.out.trans (hb5.mono HB4.out.size)
        have c5 : w5.cell? ⟨g, off + k * 2, none⟩ = some (.string (oneT c)) := by rw [hb5.cell (p := ⟨g, off + k * 2, none⟩) hg4]; exact c4
        have hg5 : g < w5.heap.size := Nat.lt_of_lt_of_le hg4 hb5.size
        clear hb5 c4 hg4 C2
        go_wp2_with fail
        refine (C3.out _ HV5.out).mono ?_
        rintro e w6 ⟨rfl, hb6⟩
        have HV6 := hid (HV5.out.below hb6)
        have HB6 : Hid (Below w.heap.size w w6) := HB5.out.trans (hb6.mono HB5.out.size)
        clear hb6 c5 hg5 C3
        rcases hy with rfl | rfl
        · go_wp2
          go_roundw
          case rel => exact ⟨HB6.out, HV6.out, k + 1, by omega, by go_num⟩
          case measure => simp [intOf]; omega
        · go_wp2
          go_roundw
          case rel => exact ⟨HB6.out, HV6.out, k + 1, by omega, by go_num⟩
          case measure => simp [intOf]; omega
      · clear hv
        go_wp2
        refine bodyPost_ret (v := .bool true) (by simp [results, Try.results3, go_sem]) rfl ⟨rfl, HB.out⟩

end Go.Proofs.Ytebnedgmkmahjaa
