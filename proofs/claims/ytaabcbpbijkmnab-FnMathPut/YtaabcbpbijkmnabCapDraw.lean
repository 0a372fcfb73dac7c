/- DERIVED. The walks of what draws sums: no text that is drawn has a capital letter. -/
import Derived.Test.YtaabcbpbijkmnabDrawMath
import Derived.Test.YtaabcbpbijkmnabParPlain
namespace Go.Proofs.Ytaabcbpbijkmnab
open Go.RowKit

def capFree (c : UInt8) : Bool := !(decide (65 ≤ c.toNat) && decide (c.toNat ≤ 90))

/-- No capital letter stands in a text. -/
def NC (s : ByteArray) : Prop := ∀ c ∈ s.data.toList, capFree c = true

theorem nc_append {a b : ByteArray} (h : NC a) (k : NC b) : NC (a ++ b) := by
  intro c hc
  rw [ByteArray.data_append, Array.toList_append] at hc
  rcases List.mem_append.1 hc with hc | hc
  · exact h c hc
  · exact k c hc

theorem nc_extract {a : ByteArray} (h : NC a) (i j : Nat) : NC (a.extract i j) := by
  intro c hc
  rw [ByteArray.data_extract, Array.toList_extract] at hc
  exact h c (List.mem_of_mem_drop (List.mem_of_mem_take hc))

theorem nc_noCap {s : ByteArray} (h : NC s) : NoCap s := by
  intro p c hp hb
  have := h c (List.mem_of_getElem? hp)
  unfold capFree at this
  simp at this
  omega

theorem nc_par {s : ByteArray} (h : NC s) : NC (⟨#[40]⟩ ++ s ++ ⟨#[41]⟩) := nc_append (nc_append (by intro c hc; simp at hc; subst hc; rfl) h) (by intro c hc; simp at hc; subst hc; rfl)

theorem nc_neg {s : ByteArray} (h : NC s) : NC (⟨#[45]⟩ ++ s) := nc_append (by intro c hc; simp at hc; subst hc; rfl) h

/-- A row of texts, each of at most K bytes, and none with a capital letter. -/
def StrsNc (w : World) (B n K : Nat) : Prop := ∀ i, i < n → ∃ s : ByteArray, w.cell? ⟨B, i, none⟩ = some (.string s) ∧ s.size ≤ K ∧ NC s

def strNc (K : Nat) : Value → Bool
  | .string s => decide (s.size ≤ K) && s.data.toList.all capFree
  | _ => false

theorem strs_nc (W : World) (A : Array Value) (t K B n : Nat) (hB : B = W.heap.size) (hn : n = A.size) (h : A.all (strNc K) = true) : StrsNc (W.alloc (.cells A t)) B n K := by
  subst hB hn
  intro i hi
  have h1 := Array.all_eq_true.mp h i hi
  have h2 : (W.alloc (.cells A t)).cell? ⟨W.heap.size, i, none⟩ = some A[i] := by
    rw [World.cell?_alloc_new]; exact Array.getElem?_eq_getElem hi
  rw [h2]
  revert h1
  cases A[i] with
  | string s =>
    intro h1
    unfold strNc at h1
    rw [Bool.and_eq_true] at h1
    exact ⟨s, rfl, of_decide_eq_true h1.1, fun c hc => List.all_eq_true.1 h1.2 c hc⟩
  | _ => intro h1; cases h1

set_option maxHeartbeats 400000 in
theorem of_nc (R B n K : Nat) (oa : Option Addr) (len cap p : Nat) (w : World) (h : RdAt w R oa len cap p) (hp : p ≤ 1000000) (hn : 1 ≤ n) (hn1 : n ≤ 1000) (hB : B < w.heap.size) (hBR : B ≠ R) (hs : StrsNc w B n K) :
    Calls Try.prog 15 #[.pointer (some ⟨R, 0, none⟩), .slice (some ⟨B, 0, none⟩) n n] w fun e w' => (∃ s : ByteArray, e = .returned (.string s) ∧ s.size ≤ K ∧ Hid (NC s)) ∧ Drawn R oa len cap (p + 1) w w' := by
  have HR := hid h
  have HS := hid hs
  clear h hs
  go_enter Try.func15, Try.ntmps15
  go_wp2_with fail
  refine (pick_any R oa len cap p n _ HR.out hp (by omega)).mono ?_
  rintro e w1 ⟨⟨x, rfl, hx0, hx1⟩, hd⟩
  obtain ⟨i, rfl⟩ : ∃ i : Nat, x = (i : Int) := ⟨x.toNat, by omega⟩
  have hi : i < n := by omega
  obtain ⟨s, hs, hk, hnc⟩ := HS.out i hi
  have HNC := hid hnc
  have c0 : w1.cell? ⟨B, i, none⟩ = some (.string s) := by rw [hd.2.cell B i hB hBR]; exact hs
  have HD := hid hd
  clear hd hs hnc
  go_wp2
  go_ret
  exact ⟨⟨s, rfl, hk, HNC⟩, HD.out⟩

set_option maxHeartbeats 1000000 in
theorem bent_nc (R : Nat) (oa : Option Addr) (len cap p : Nat) (s : ByteArray) (w : World) (h : RdAt w R oa len cap p) (hp : p ≤ 999980) (hsz : s.size ≤ 100000) (hnc : Hid (NC s)) :
    Calls Try.prog 16 #[.pointer (some ⟨R, 0, none⟩), .string s] w fun e w' => (∃ t : ByteArray, e = .returned (.string t) ∧ t.size ≤ 200010 ∧ Hid (NC t)) ∧ (∃ q, Drawn R oa len cap q w w') := by
  have HR := hid h
  clear h
  go_enter Try.func16, Try.ntmps16
  go_wp2_with fail
  refine (pick_any R oa len cap p ((s.size : Int) + 1) _ HR.out (by omega) (by omega)).mono ?_
  rintro e w1 ⟨⟨x, rfl, hx0, hx1⟩, hd⟩
  obtain ⟨k, rfl⟩ : ∃ k : Nat, x = (k : Int) := ⟨x.toNat, by omega⟩
  have hk : k ≤ s.size := by omega
  have HD1 : Hid (Drawn R oa len cap (p + 1) w w1) := hd
  clear hd
  go_wp2_with fail
  refine (pick_any R oa len cap (p + 1) 6 _ HD1.out.1 (by omega) (by decide)).mono ?_
  rintro e w2 ⟨⟨y, rfl, hy0, hy1⟩, hd⟩
  have HD2 : Hid (Drawn R oa len cap (p + 2) w w2) := ⟨hd.1, HD1.out.2.trans hd.2⟩
  clear hd HD1
  by_cases h0 : y = 0
  · subst h0
    by_cases hks : k < s.size
    · have hks' : (k : Int) < s.size := by omega
      have hwr : IntKind.i64.wrap ((k : Int) + 1) = (k : Int) + 1 := by rw [IntKind.wrap_i64]; omega
      go_wp2_with fail
      refine wp_region_any (by kernel_rfl) ?_
      change wpAny _ _ _ _ _ _ _ (World.drew _)
      refine take_on 0 (v := ?_) rfl rfl (by kernel_rfl) (by kernel_rfl) (by kernel_rfl) (fun _ _ _ h => h) (by rfl) (fun w => ?_) ?_
      rotate_left
      · (go_simp; try with_reducible rfl)
      simp only [List.setIfInBounds_toArray, List.set_cons_zero, List.set_cons_succ]
      refine take_on 1 (v := ?_) rfl rfl (by kernel_rfl) (by kernel_rfl) (by kernel_rfl) (fun _ _ _ h => h) (by rfl) (fun w => ?_) ?_
      rotate_left
      · (go_simp; try with_reducible rfl)
      simp only [List.setIfInBounds_toArray, List.set_cons_zero, List.set_cons_succ]
      refine take_on 2 (v := ?_) rfl rfl (by kernel_rfl) (by kernel_rfl) (by kernel_rfl) (fun _ _ _ h => h) (by rfl) (fun w => ?_) ?_
      rotate_left
      · (go_simp; try with_reducible rfl)
      simp only [List.setIfInBounds_toArray, List.set_cons_zero, List.set_cons_succ]
      refine take_on 3 (v := ?_) rfl rfl (by kernel_rfl) (by kernel_rfl) (by kernel_rfl) (fun _ _ _ h => h) (by rfl) (fun w => ?_) ?_
      rotate_left
      · (go_simp; try with_reducible rfl)
      simp only [List.setIfInBounds_toArray, List.set_cons_zero, List.set_cons_succ]
      refine take_on 7 (v := ?_) rfl rfl (by kernel_rfl) (by kernel_rfl) (by kernel_rfl) (fun _ _ _ h => h) (by rfl) (fun w => ?_) ?_
      rotate_left
      · (go_simp; try with_reducible rfl)
      simp only [List.setIfInBounds_toArray, List.set_cons_zero, List.set_cons_succ]
      refine take_on 8 (v := ?_) rfl rfl (by kernel_rfl) (by kernel_rfl) (by kernel_rfl) (fun _ _ _ h => h) (by rfl) (fun w => ?_) ?_
      rotate_left
      · (go_simp; try with_reducible rfl)
      simp only [List.setIfInBounds_toArray, List.set_cons_zero, List.set_cons_succ]
      refine take_on 9 (v := .int .i64 ((k : Int) + 1)) rfl rfl (by kernel_rfl) (by kernel_rfl) (by kernel_rfl) (fun _ _ _ h => h) (by rfl) (fun w => ?_) ?_
      · (go_simp; try (rw [hwr]))
      simp only [List.setIfInBounds_toArray, List.set_cons_zero, List.set_cons_succ]
      refine take_on 10 (v := .string (s.extract (k + 1) s.size)) rfl rfl (by kernel_rfl) (by kernel_rfl) (by kernel_rfl) (fun _ _ _ h => h) (by rfl) (fun w => ?_) ?_
      · (go_simp; (intro hh; have := hh (by omega); omega))
      simp only [List.setIfInBounds_toArray, List.set_cons_zero, List.set_cons_succ]
      refine wpAny_ready (rs := [4]) (by kernel_rfl) (by simp) (AllReady.cons rfl (fun K hK => ?_) AllReady.nil)
      go_simp
      refine hK _ _ ?_
      clear hK K
      refine wpAny_ready (rs := [5]) (by kernel_rfl) (by simp) (AllReady.cons rfl (fun K hK => ?_) AllReady.nil)
      go_simp
      go_wp2_with fail
      refine (of_nc R _ 17 1 oa len cap (p + 2) _ ?_ (by omega) (by decide) (by decide) ?_ ?_ ?_).mono ?_
      · exact HD2.out.1.keep (((Below.refl _ _).alloc (Nat.le_refl _) _).drew)
      · simp
      · have := HD2.out.1.old; simp; omega
      · exact strs_nc _ _ _ 1 _ 17 (by simp) (by rfl) (by kernel_rfl)
      rintro e w3 ⟨⟨a, rfl, ha, hna⟩, hd⟩
      have HD3 : Hid (Drawn R oa len cap (p + 3) w w3) := ⟨hd.1, HD2.out.2.trans ((Keeps.of_below (((Below.refl _ _).alloc (Nat.le_refl _) _).drew) HD2.out.1.old).trans hd.2)⟩
      clear hd
      have hb1 := fun W => run_string_add_sum (P := Try.prog) (w := W) (s.extract 0 k) a (by rw [ByteArray.size_extract]; omega)
      refine hK _ _ ?_
      clear hK K
      refine take_on 6 (v := ?_) rfl rfl (by kernel_rfl) (by kernel_rfl) (by kernel_rfl) (fun _ _ _ h => h) (by rfl) (fun w => ?_) ?_
      rotate_left
      · (go_simp; try with_reducible rfl)
      simp only [List.setIfInBounds_toArray, List.set_cons_zero, List.set_cons_succ]
      have hb2 := fun W => run_string_add_sum (P := Try.prog) (w := W) (s.extract 0 k ++ a) (s.extract (k + 1) s.size) (by rw [ByteArray.size_append, ByteArray.size_extract, ByteArray.size_extract]; omega)
      refine take_on 11 (v := ?_) rfl rfl (by kernel_rfl) (by kernel_rfl) (by kernel_rfl) (fun _ _ _ h => h) (by rfl) (fun w => ?_) ?_
      rotate_left
      · (go_simp; try with_reducible rfl)
      simp only [List.setIfInBounds_toArray, List.set_cons_zero, List.set_cons_succ]
      refine take_on 12 (v := ?_) rfl rfl (by kernel_rfl) (by kernel_rfl) (by kernel_rfl) (fun _ _ _ h => h) (by rfl) (fun w => ?_) ?_
      rotate_left
      · (go_simp; try with_reducible rfl)
      simp only [List.setIfInBounds_toArray, List.set_cons_zero, List.set_cons_succ]
      refine wpAny_done (by kernel_rfl) ?_ _
      go_wp2
      go_ret
      refine ⟨⟨_, rfl, ?_, hid (nc_append (nc_append (nc_extract hnc.out _ _) hna.out) (nc_extract hnc.out _ _))⟩, p + 3, HD3.out⟩
      rw [ByteArray.size_append, ByteArray.size_append, ByteArray.size_extract, ByteArray.size_extract]; omega
    · go_wp2
      go_ret
      exact ⟨⟨s, rfl, by omega, hnc⟩, p + 2, HD2.out⟩
  · have hb0 : (y == 0) = false := by rw [beq_eq_false_iff_ne]; exact h0
    clear h0
    by_cases h1 : y = 1
    · subst h1
      go_wp2
      go_ret
      refine ⟨⟨_, rfl, ?_, hid (nc_extract hnc.out _ _)⟩, p + 2, HD2.out⟩
      rw [ByteArray.size_extract]; omega
    · have hb1 : (y == 1) = false := by rw [beq_eq_false_iff_ne]; exact h1
      clear h1
      by_cases h2 : y = 2
      · subst h2
        go_wp2_with fail
        refine (of_nc R _ 7 1 oa len cap (p + 2) _ ?_ (by omega) (by decide) (by decide) ?_ ?_ ?_).mono ?_
        · exact HD2.out.1.keep ((Below.refl _ _).alloc (Nat.le_refl _) _)
        · simp
        · have := HD2.out.1.old; omega
        · exact strs_nc _ _ _ 1 _ 7 (by simp) (by rfl) (by kernel_rfl)
        rintro e w3 ⟨⟨a, rfl, ha, hna⟩, hd⟩
        have HD3 : Hid (Drawn R oa len cap (p + 3) w w3) := ⟨hd.1, HD2.out.2.trans ((Keeps.of_below ((Below.refl _ _).alloc (Nat.le_refl _) _) HD2.out.1.old).trans hd.2)⟩
        clear hd
        have hadd := fun W => run_string_add_sum (P := Try.prog) (w := W) s a (by omega)
        go_wp2
        go_ret
        refine ⟨⟨_, rfl, ?_, hid (nc_append hnc.out hna.out)⟩, p + 3, HD3.out⟩
        rw [ByteArray.size_append]; omega
      · have hb2 : (y == 2) = false := by rw [beq_eq_false_iff_ne]; exact h2
        clear h2
        by_cases h3 : y = 3
        · subst h3
          go_wp2_with fail
          refine wp_region_any (by kernel_rfl) ?_
          change wpAny _ _ _ _ _ _ _ (World.drew _)
          refine take_on 0 (v := ?_) rfl rfl (by kernel_rfl) (by kernel_rfl) (by kernel_rfl) (fun _ _ _ h => h) (by rfl) (fun w => ?_) ?_
          rotate_left
          · (go_simp; try with_reducible rfl)
          simp only [List.setIfInBounds_toArray, List.set_cons_zero, List.set_cons_succ]
          refine take_on 1 (v := ?_) rfl rfl (by kernel_rfl) (by kernel_rfl) (by kernel_rfl) (fun _ _ _ h => h) (by rfl) (fun w => ?_) ?_
          rotate_left
          · (go_simp; try with_reducible rfl)
          simp only [List.setIfInBounds_toArray, List.set_cons_zero, List.set_cons_succ]
          refine take_on 2 (v := ?_) rfl rfl (by kernel_rfl) (by kernel_rfl) (by kernel_rfl) (fun _ _ _ h => h) (by rfl) (fun w => ?_) ?_
          rotate_left
          · (go_simp; try with_reducible rfl)
          simp only [List.setIfInBounds_toArray, List.set_cons_zero, List.set_cons_succ]
          refine take_on 3 (v := ?_) rfl rfl (by kernel_rfl) (by kernel_rfl) (by kernel_rfl) (fun _ _ _ h => h) (by rfl) (fun w => ?_) ?_
          rotate_left
          · (go_simp; try with_reducible rfl)
          simp only [List.setIfInBounds_toArray, List.set_cons_zero, List.set_cons_succ]
          refine take_on 7 (v := ?_) rfl rfl (by kernel_rfl) (by kernel_rfl) (by kernel_rfl) (fun _ _ _ h => h) (by rfl) (fun w => ?_) ?_
          rotate_left
          · (go_simp; try with_reducible rfl)
          simp only [List.setIfInBounds_toArray, List.set_cons_zero, List.set_cons_succ]
          refine take_on 8 (v := ?_) rfl rfl (by kernel_rfl) (by kernel_rfl) (by kernel_rfl) (fun _ _ _ h => h) (by rfl) (fun w => ?_) ?_
          rotate_left
          · (go_simp; try with_reducible rfl)
          simp only [List.setIfInBounds_toArray, List.set_cons_zero, List.set_cons_succ]
          refine take_on 9 (v := ?_) rfl rfl (by kernel_rfl) (by kernel_rfl) (by kernel_rfl) (fun _ _ _ h => h) (by rfl) (fun w => ?_) ?_
          rotate_left
          · (go_simp; try with_reducible rfl)
          simp only [List.setIfInBounds_toArray, List.set_cons_zero, List.set_cons_succ]
          refine wpAny_ready (rs := [4]) (by kernel_rfl) (by simp) (AllReady.cons rfl (fun K hK => ?_) AllReady.nil)
          go_simp
          refine hK _ _ ?_
          clear hK K
          refine wpAny_ready (rs := [5]) (by kernel_rfl) (by simp) (AllReady.cons rfl (fun K hK => ?_) AllReady.nil)
          go_simp
          go_wp2_with fail
          refine (of_nc R _ 9 1 oa len cap (p + 2) _ ?_ (by omega) (by decide) (by decide) ?_ ?_ ?_).mono ?_
          · exact HD2.out.1.keep (((Below.refl _ _).alloc (Nat.le_refl _) _).drew)
          · simp
          · have := HD2.out.1.old; simp; omega
          · exact strs_nc _ _ _ 1 _ 9 (by simp) (by rfl) (by kernel_rfl)
          rintro e w3 ⟨⟨a, rfl, ha, hna⟩, hd⟩
          have HD3 : Hid (Drawn R oa len cap (p + 3) w w3) := ⟨hd.1, HD2.out.2.trans ((Keeps.of_below (((Below.refl _ _).alloc (Nat.le_refl _) _).drew) HD2.out.1.old).trans hd.2)⟩
          clear hd
          have hb1 := fun W => run_string_add_sum (P := Try.prog) (w := W) (s.extract 0 k) a (by rw [ByteArray.size_extract]; omega)
          refine hK _ _ ?_
          clear hK K
          refine take_on 6 (v := ?_) rfl rfl (by kernel_rfl) (by kernel_rfl) (by kernel_rfl) (fun _ _ _ h => h) (by rfl) (fun w => ?_) ?_
          rotate_left
          · (go_simp; try with_reducible rfl)
          simp only [List.setIfInBounds_toArray, List.set_cons_zero, List.set_cons_succ]
          have hb2 := fun W => run_string_add_sum (P := Try.prog) (w := W) (s.extract 0 k ++ a) (s.extract k s.size) (by rw [ByteArray.size_append, ByteArray.size_extract, ByteArray.size_extract]; omega)
          refine take_on 10 (v := ?_) rfl rfl (by kernel_rfl) (by kernel_rfl) (by kernel_rfl) (fun _ _ _ h => h) (by rfl) (fun w => ?_) ?_
          rotate_left
          · (go_simp; try with_reducible rfl)
          simp only [List.setIfInBounds_toArray, List.set_cons_zero, List.set_cons_succ]
          refine take_on 11 (v := ?_) rfl rfl (by kernel_rfl) (by kernel_rfl) (by kernel_rfl) (fun _ _ _ h => h) (by rfl) (fun w => ?_) ?_
          rotate_left
          · (go_simp; try with_reducible rfl)
          simp only [List.setIfInBounds_toArray, List.set_cons_zero, List.set_cons_succ]
          refine wpAny_done (by kernel_rfl) ?_ _
          go_wp2
          go_ret
          refine ⟨⟨_, rfl, ?_, hid (nc_append (nc_append (nc_extract hnc.out _ _) hna.out) (nc_extract hnc.out _ _))⟩, p + 3, HD3.out⟩
          rw [ByteArray.size_append, ByteArray.size_append, ByteArray.size_extract, ByteArray.size_extract]; omega
        · have hb3 : (y == 3) = false := by rw [beq_eq_false_iff_ne]; exact h3
          clear h3
          go_wp2
          go_ret
          exact ⟨⟨s, rfl, by omega, hnc⟩, p + 2, HD2.out⟩

/-- A sum of so many levels is drawn, within a size and a number of draws. -/
def MathNc (d : Int) (K D M : Nat) : Prop := ∀ (R : Nat) (oa : Option Addr) (len cap p : Nat) (w : World), RdAt w R oa len cap p → p ≤ M →
  Calls Try.prog 17 #[.pointer (some ⟨R, 0, none⟩), .int .i64 d] w fun e w' => (∃ s : ByteArray, e = .returned (.string s) ∧ s.size ≤ K ∧ Hid (NC s)) ∧ (∃ q, q ≤ p + D ∧ Drawn R oa len cap q w w')

set_option maxHeartbeats 800000 in
theorem nath_zero : MathNc 0 6 1 900000 := by
  intro R oa len cap p w h hp
  have HR := hid h
  have hRo := h.old
  clear h
  go_enter Try.func17, Try.ntmps17
  go_wp2_with fail
  refine (of_nc R _ 12 6 oa len cap p _ (HR.out.keep ((Below.refl _ _).alloc (Nat.le_refl _) _)) (by omega) (by decide) (by decide) ?_ ?_ ?_).mono ?_
  · simp
  · omega
  · exact strs_nc _ _ _ 6 _ 12 (by simp) (by rfl) (by kernel_rfl)
  rintro e w1 ⟨⟨s, rfl, hs, ns⟩, hd⟩
  have HD : Hid (Drawn R oa len cap (p + 1) w w1) := ⟨hd.1, (Keeps.of_below ((Below.refl _ _).alloc (Nat.le_refl _) _) hRo).trans hd.2⟩
  clear hd
  go_wp2
  refine bodyPost_ret (v := .string s) (by simp [results, Try.results17, go_sem]) rfl ⟨⟨s, rfl, hs, ns⟩, p + 1, by omega, HD.out⟩

set_option maxHeartbeats 1600000 in
theorem nath_step (x : Int) (K D M : Nat) (hx : 1 ≤ x) (hx3 : x ≤ 3) (hK : K ≤ 1000) (M' : Nat) (hM : M' + D + 2 ≤ M) (hM2 : M ≤ 900000) (ih : MathNc (x - 1) K D M) : MathNc x (2 * K + 3) (2 * D + 2) M' := by
  intro R oa len cap p w h hp
  have HR := hid h
  have IH := hid ih
  clear h ih
  have hx0 : (x == 0) = false := by rw [beq_eq_false_iff_ne]; omega
  go_enter Try.func17, Try.ntmps17
  go_wp2_with fail
  refine (pick_any R oa len cap p 5 _ HR.out (by omega) (by decide)).mono ?_
  rintro e w1 ⟨⟨y, rfl, hy0, hy1⟩, hd⟩
  have HD1 := hid hd
  clear hd HR
  by_cases h0 : y = 0
  · subst h0
    go_wp2_with fail
    refine (IH.out R oa len cap (p + 1) _ HD1.out.1 (by omega)).mono ?_
    rintro e w2 ⟨⟨s, rfl, hs, ns⟩, q, hq, hd⟩
    have HD2 : Hid (Drawn R oa len cap q w w2) := HD1.out.trans2 hd
    clear hd HD1
    go_wp2
    refine bodyPost_ret (v := .string (⟨#[40]⟩ ++ s ++ ⟨#[41]⟩)) (by simp [results, Try.results17, go_sem]) rfl ⟨⟨_, rfl, ?_, hid (nc_par ns.out)⟩, q, by omega, HD2.out⟩
    rw [size_par]; omega
  · by_cases h1 : y = 1
    · subst h1
      go_wp2_with fail
      refine (IH.out R oa len cap (p + 1) _ HD1.out.1 (by omega)).mono ?_
      rintro e w2 ⟨⟨s, rfl, hs, ns⟩, q, hq, hd⟩
      have HD2 : Hid (Drawn R oa len cap q w w2) := HD1.out.trans2 hd
      clear hd HD1
      go_wp2
      refine bodyPost_ret (v := .string (⟨#[45]⟩ ++ s)) (by simp [results, Try.results17, go_sem]) rfl ⟨⟨_, rfl, ?_, hid (nc_neg ns.out)⟩, q, by omega, HD2.out⟩
      rw [size_neg]; omega
    · have h0' : (y == 0) = false := by rw [beq_eq_false_iff_ne]; exact h0
      have h1' : (y == 1) = false := by rw [beq_eq_false_iff_ne]; exact h1
      go_wp2_with fail
      refine (IH.out R oa len cap (p + 1) _ HD1.out.1 (by omega)).mono ?_
      rintro e w2 ⟨⟨s, rfl, hs, ns⟩, q, hq, hd⟩
      have HD2 : Hid (Drawn R oa len cap q w w2) := HD1.out.trans2 hd
      have hRo2 := hd.1.old
      clear hd HD1
      go_wp2_with fail
      refine (of_nc R _ 6 3 oa len cap q _ (HD2.out.1.keep ((Below.refl _ _).alloc (Nat.le_refl _) _)) (by omega) (by decide) (by decide) ?_ ?_ ?_).mono ?_
      · simp
      · omega
      · exact strs_nc _ _ _ 3 _ 6 (by simp) (by rfl) (by kernel_rfl)
      rintro e w3 ⟨⟨t, rfl, ht, nt⟩, hd⟩
      have HD3 : Hid (Drawn R oa len cap (q + 1) w w3) := ⟨hd.1, HD2.out.2.trans ((Keeps.of_below ((Below.refl _ _).alloc (Nat.le_refl _) _) hRo2).trans hd.2)⟩
      clear hd HD2
      go_wp2_with fail
      refine (IH.out R oa len cap (q + 1) _ HD3.out.1 (by omega)).mono ?_
      rintro e w4 ⟨⟨u, rfl, hu, nu⟩, q2, hq2, hd⟩
      have HD4 : Hid (Drawn R oa len cap q2 w w4) := HD3.out.trans2 hd
      clear hd HD3
      go_wp2
      refine bodyPost_ret (v := .string (s ++ t ++ u)) (by simp [results, Try.results17, go_sem]) rfl ⟨⟨_, rfl, ?_, hid (nc_append (nc_append ns.out nt.out) nu.out)⟩, q2, by omega, HD4.out⟩
      rw [ByteArray.size_append, ByteArray.size_append]; omega

theorem nath_at0 : MathNc 0 100 30 1000 := fun R oa len cap p w h hp => (nath_zero R oa len cap p w h (by omega)).mono fun _ _ ⟨⟨s, e, hs, ns⟩, q, hq, hd⟩ => ⟨⟨s, e, by omega, ns⟩, q, by omega, hd⟩
theorem nath_one : MathNc 1 15 4 800000 := nath_step 1 6 1 900000 (by decide) (by decide) (by decide) 800000 (by decide) (by decide) nath_zero
theorem nath_two : MathNc 2 33 10 700000 := nath_step 2 15 4 800000 (by decide) (by decide) (by decide) 700000 (by decide) (by decide) nath_one
theorem nath_three : MathNc 3 69 22 600000 := nath_step 3 33 10 700000 (by decide) (by decide) (by decide) 600000 (by decide) (by decide) nath_two
theorem nath_at1 : MathNc 1 100 30 1000 := fun R oa len cap p w h hp => (nath_one R oa len cap p w h (by omega)).mono fun _ _ ⟨⟨s, e, hs, ns⟩, q, hq, hd⟩ => ⟨⟨s, e, by omega, ns⟩, q, by omega, hd⟩
theorem nath_at2 : MathNc 2 100 30 1000 := fun R oa len cap p w h hp => (nath_two R oa len cap p w h (by omega)).mono fun _ _ ⟨⟨s, e, hs, ns⟩, q, hq, hd⟩ => ⟨⟨s, e, by omega, ns⟩, q, by omega, hd⟩
theorem nath_at3 : MathNc 3 100 30 1000 := fun R oa len cap p w h hp => (nath_three R oa len cap p w h (by omega)).mono fun _ _ ⟨⟨s, e, hs, ns⟩, q, hq, hd⟩ => ⟨⟨s, e, by omega, ns⟩, q, by omega, hd⟩

theorem nath_at (x : Int) (h0 : 0 ≤ x) (h3 : x ≤ 3) : MathNc x 100 30 1000 := by
  have : x = 0 ∨ x = 1 ∨ x = 2 ∨ x = 3 := by omega
  rcases this with rfl | rfl | rfl | rfl
  · exact nath_at0
  · exact nath_at1
  · exact nath_at2
  · exact nath_at3

set_option maxHeartbeats 1600000 in
theorem drawMathOk_nc (oa : Option Addr) (len cap : Nat) (w : World) (h : CodeAt w oa len) (hc : len ≤ cap) (hm : cap ≤ maxLen) :
    Calls Try.prog 8 #[.slice oa len cap] w fun e w' => (∃ s : ByteArray, e = .returned (.string s) ∧ s.size ≤ 200010 ∧ Hid (NC s)) ∧ Below w.heap.size w w' := by
  have HC := hid h
  clear h
  go_enter Try.func8, Try.ntmps8
  go_wp2_with fail
  refine (open_any oa len cap _ HC.out hc hm).mono ?_
  rintro e w1 ⟨rfl, ⟨l, c, hr⟩, hb⟩
  have HR := hid hr
  have HB := hid hb
  clear hr hb
  go_wp2_with fail
  refine (pick_any w.heap.size oa l c 0 12 _ HR.out (by omega) (by decide)).mono ?_
  rintro e w2 ⟨⟨y, rfl, hy0, hy1⟩, hd⟩
  have HD1 := hid hd
  clear hd
  by_cases h0 : y = 0
  · subst h0
    go_wp2_with fail
    refine (of_nc w.heap.size _ 14 15 oa l c 1 _ (HD1.out.1.keep ((Below.refl _ _).alloc (Nat.le_refl _) _)) (by omega) (by decide) (by decide) ?_ ?_ ?_).mono ?_
    · simp
    · have := HD1.out.1.old; omega
    · exact strs_nc _ _ _ 15 _ 14 (by simp) (by rfl) (by kernel_rfl)
    rintro e w3 ⟨⟨t, rfl, ht, nt⟩, hd⟩
    have HD2 := hid hd
    clear hd
    go_wp2
    refine bodyPost_ret (v := .string t) (by simp [results, Try.results8, go_sem]) rfl ⟨⟨t, rfl, by omega, nt⟩, ?_⟩
    exact HD2.out.2.below _ _ (Nat.le_refl _) (Below.alloc (HD1.out.2.below _ _ (Nat.le_refl _) HB.out) (by have := HD1.out.1.old; omega) _)
  · by_cases h1 : y = 1
    · subst h1
      go_wp2_with fail
      refine (nath_at 2 (by decide) (by decide) w.heap.size oa l c 1 _ HD1.out.1 (by omega)).mono ?_
      rintro e w3 ⟨⟨t, rfl, ht, nt⟩, q, hq, hd⟩
      have HD2 := hid (HD1.out.trans2 hd)
      clear hd
      go_wp2_with fail
      refine (bent_nc w.heap.size oa l c q t _ HD2.out.1 (by omega) (by omega) nt).mono ?_
      rintro e w4 ⟨⟨u, rfl, hu, nu⟩, q2, hd⟩
      have HD3 := hid (HD2.out.trans2 hd)
      clear hd
      go_wp2
      refine bodyPost_ret (v := .string u) (by simp [results, Try.results8, go_sem]) rfl ⟨⟨u, rfl, hu, nu⟩, HD3.out.2.below _ _ (Nat.le_refl _) HB.out⟩
    · have h0' : (y == 0) = false := by rw [beq_eq_false_iff_ne]; exact h0
      have h1' : (y == 1) = false := by rw [beq_eq_false_iff_ne]; exact h1
      go_wp2_with fail
      refine (pick_any w.heap.size oa l c 1 4 _ HD1.out.1 (by omega) (by decide)).mono ?_
      rintro e w3 ⟨⟨z, rfl, hz0, hz1⟩, hd⟩
      have HD2 := hid (HD1.out.trans2 hd)
      clear hd
      go_wp2_with fail
      refine (nath_at z hz0 (by omega) w.heap.size oa l c 2 _ HD2.out.1 (by omega)).mono ?_
      rintro e w4 ⟨⟨u, rfl, hu, nu⟩, q2, hq2, hd⟩
      have HD3 := hid (HD2.out.trans2 hd)
      clear hd
      go_wp2
      refine bodyPost_ret (v := .string u) (by simp [results, Try.results8, go_sem]) rfl ⟨⟨u, rfl, by omega, nu⟩, HD3.out.2.below _ _ (Nat.le_refl _) HB.out⟩

end Go.Proofs.Ytaabcbpbijkmnab
