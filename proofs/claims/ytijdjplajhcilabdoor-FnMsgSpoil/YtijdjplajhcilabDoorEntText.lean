/- DERIVED. Entries as they are written: plain, and the model's walk. -/
import Derived.Test.YtijdjplajhcilabDoorMsgText
import Derived.Test.YtijdjplajhcilabDoorEntAt
namespace Go.Proofs.YtijdjplajhcilabDoor
open Go.RowKit

def oneE (e : Ent) : ByteArray := ((decI e.1 ++ ⟨#[58]⟩) ++ (decI e.2.1 ++ ⟨#[58]⟩)) ++ putV e.2.2

/-- The first k entries, as they are written. -/
def lText (L : List Ent) : Nat → ByteArray
  | 0 => ⟨#[]⟩
  | k + 1 => (((((if 0 < k then lText L k ++ ⟨#[59]⟩ else lText L k) ++ decI (L.getD k (0, 0, [])).1) ++ ⟨#[58]⟩) ++ decI (L.getD k (0, 0, [])).2.1) ++ ⟨#[58]⟩) ++ putV (L.getD k (0, 0, [])).2.2

def putL (L : List Ent) : ByteArray := if L = [] then ⟨#[45]⟩ else lText L L.length

theorem putV_size {V : List Int} (h3 : V.length ≤ 3) (h : ∀ n ∈ V, -1 ≤ n ∧ n ≤ 127) : (putV V).size ≤ 391 := by
  unfold putV
  split
  · show 1 ≤ _; omega
  · have := vText_size h V.length (Nat.le_refl _)
    omega

theorem ent_facts {e : Ent} (h : entOk e = true) : (0 ≤ e.1 ∧ e.1 ≤ 11) ∧ (1 ≤ e.2.1 ∧ e.2.1 ≤ 9999) ∧ e.2.2.length ≤ 3 ∧ (∀ n ∈ e.2.2, -1 ≤ n ∧ n ≤ 127) := by
  simp only [entOk, inB, Bool.and_eq_true, decide_eq_true_eq] at h
  have := okV_all h.1.2
  exact ⟨h.1.1.1, h.1.1.2, this.1, this.2⟩

theorem lText_size {L : List Ent} (h : ∀ i, i < L.length → entOk (L.getD i (0, 0, [])) = true) : ∀ k, k ≤ L.length → (lText L k).size ≤ 20000 * k
  | 0, _ => Nat.le_refl _
  | k + 1, hk => by
    have ih := lText_size h k (by omega)
    obtain ⟨h1, h2, h3, h4⟩ := ent_facts (h k (by omega))
    have d1 := decI_size (L.getD k (0, 0, [])).1
    have d2 := decI_size (L.getD k (0, 0, [])).2.1
    have d3 := putV_size h3 h4
    have e1 : ((⟨#[58]⟩ : ByteArray)).size = 1 := rfl
    have e2 : ((⟨#[59]⟩ : ByteArray)).size = 1 := rfl
    rw [lText]
    split
    · simp only [ByteArray.size_append, e1, e2]
      omega
    · simp only [ByteArray.size_append, e1]
      omega

theorem lText_next (L : List Ent) (k : Nat) : lText L (k + 1) = (((((if 0 < k then lText L k ++ ⟨#[59]⟩ else lText L k) ++ decI (L.getD k (0, 0, [])).1) ++ ⟨#[58]⟩) ++ decI (L.getD k (0, 0, [])).2.1) ++ ⟨#[58]⟩) ++ putV (L.getD k (0, 0, [])).2.2 := rfl

set_option maxRecDepth 100000 in
set_option maxHeartbeats 4000000 in
theorem l9List_any (oa : Option Addr) (cap len : Nat) (L : List Ent) (w : World) (hl : len = L.length) (h12 : len ≤ 12) (hok : ∀ i, i < L.length → entOk (L.getD i (0, 0, [])) = true) (h : EntsAt w oa L) :
    Calls Tryd.prog 39 #[.slice oa len cap] w fun e w' => e = .returned (.string (putL L)) ∧ Below w.heap.size w w' := by
  have HV := hid h
  have HL := hid hl
  have HSZ : Hid (∀ k, k ≤ L.length → (lText L k).size ≤ 20000 * k) := lText_size hok
  have HOK := hid hok
  clear h hl hok
  go_enter Tryd.func39, Tryd.ntmps39
  go_wp2
  go_loopw [3, 4] (fun o i wr => ∃ k : Nat, k ≤ len ∧ i = .int .i64 k ∧ o = .string (lText L k) ∧ Below w.heap.size w wr) (fun _ i _ => len - (intOf i).toNat)
  case atStart => exact ⟨0, Nat.zero_le _, rfl, rfl, Below.refl _ _⟩
  case round =>
    obtain ⟨k, hk, rfl, rfl, hb⟩ := hrel
    have HB := hid hb
    clear hb
    by_cases hlt : k < len
    · have hltI : (k : Int) < (len : Int) := by omega
      have hk0I : (0 : Int) ≤ (k : Int) := by omega
      have hkv : k < L.length := by rw [← HL.out]; exact hlt
      obtain ⟨b, off, rfl, hbw, c0, c1, ov, n, cv, c2, hn, hn2, hN⟩ := (HV.out.below HB.out) k hkv
      obtain ⟨f1, f2, f3, f4⟩ := ent_facts (HOK.out k hkv)
      have hs0 := HSZ.out k (by omega)
      have d1 := decI_size (L.getD k (0, 0, [])).1
      have d2 := decI_size (L.getD k (0, 0, [])).2.1
      have d3 := putV_size f3 f4
      have HNX := hid (lText_next L k)
      obtain ⟨x, hx⟩ : ∃ x, x = (L.getD k (0, 0, [])).1 := ⟨_, rfl⟩
      obtain ⟨y, hy⟩ : ∃ y, y = (L.getD k (0, 0, [])).2.1 := ⟨_, rfl⟩
      obtain ⟨U, hU⟩ : ∃ U, U = (L.getD k (0, 0, [])).2.2 := ⟨_, rfl⟩
      rw [← hx] at c0 f1 d1 HNX
      rw [← hy] at c1 f2 d2 HNX
      rw [← hU] at hn hN f3 f4 d3 HNX
      obtain ⟨dx, hdx⟩ : ∃ d, d = decI x := ⟨_, rfl⟩
      obtain ⟨dy, hdy⟩ : ∃ d, d = decI y := ⟨_, rfl⟩
      obtain ⟨du, hdu⟩ : ∃ d, d = putV U := ⟨_, rfl⟩
      have CX : Hid (∀ w', Calls Tryd.prog 37 #[.int .i64 x] w' fun e w2 => e = .returned (.string dx) ∧ Below w'.heap.size w' w2) := fun w' => by rw [hdx]; exact decI_any x w' (by omega) (by omega)
      have CY : Hid (∀ w', Calls Tryd.prog 37 #[.int .i64 y] w' fun e w2 => e = .returned (.string dy) ∧ Below w'.heap.size w' w2) := fun w' => by rw [hdy]; exact decI_any y w' (by omega) (by omega)
      have CU : Hid (∀ w', Below wr.heap.size wr w' → Calls Tryd.prog 38 #[.slice ov n cv] w' fun e w2 => e = .returned (.string du) ∧ Below w'.heap.size w' w2) := fun w' hb => by rw [hdu]; exact l9Votes_any ov cv n U w' hn (by omega) f4 (hN.below hb)
      rw [← hdx] at d1 HNX
      rw [← hdy] at d2 HNX
      rw [← hdu] at d3 HNX
      obtain ⟨t, ht⟩ : ∃ t, t = lText L k := ⟨_, rfl⟩
      rw [← ht] at hs0 HNX ⊢
      have SAT : Hid (∀ w', Below wr.heap.size wr w' → (w'.cell? ⟨b, off + k * 3, none⟩ = some (.int .i64 x) ∧ w'.cell? ⟨b, off + k * 3 + 1, none⟩ = some (.int .i64 y) ∧ w'.cell? ⟨b, off + k * 3 + 2, none⟩ = some (.slice ov n cv))) := fun w' hb => ⟨(hb.cell hbw).trans c0, (hb.cell hbw).trans c1, (hb.cell hbw).trans c2⟩
      have HD : Hid (Below wr.heap.size wr wr.drew) := (Below.refl _ _).drew
      clear hx hy hU hn hN hdx hdy hdu ht hkv c0 c1 c2 f4
      by_cases hk0 : 0 < k
      · have hkI : (0 : Int) < (k : Int) := by omega
        have hdk : decide (0 < k) = true := decide_eq_true hk0
        rw [if_pos hk0] at HNX
        have e59 : ((⟨#[59]⟩ : ByteArray)).size = 1 := rfl
        have a0 := fun W => run_string_add_sum (P := Tryd.prog) (w := W) t ⟨#[59]⟩ (by show t.size + 1 ≤ _; omega)
        obtain ⟨s, h0⟩ : ∃ u, u = t ++ (⟨#[59]⟩ : ByteArray) := ⟨_, rfl⟩
        have hsz : s.size ≤ 300000 := by rw [h0, ByteArray.size_append, e59]; omega
        rw [← h0] at a0 HNX
        clear h0 e59 hs0
        have e58 : ((⟨#[58]⟩ : ByteArray)).size = 1 := rfl
        have a1 := fun W => run_string_add_sum (P := Tryd.prog) (w := W) s dx (by omega)
        obtain ⟨t1, h1⟩ : ∃ u, u = s ++ (dx : ByteArray) := ⟨_, rfl⟩
        have z1 : t1.size = s.size + (dx : ByteArray).size := by rw [h1, ByteArray.size_append]
        rw [← h1] at a1 HNX
        have a2 := fun W => run_string_add_sum (P := Tryd.prog) (w := W) t1 ⟨#[58]⟩ (by show t1.size + 1 ≤ _; omega)
        obtain ⟨t2, h2⟩ : ∃ u, u = t1 ++ (⟨#[58]⟩ : ByteArray) := ⟨_, rfl⟩
        have z2 : t2.size = t1.size + (⟨#[58]⟩ : ByteArray).size := by rw [h2, ByteArray.size_append]
        rw [e58] at z2
        rw [← h2] at a2 HNX
        have a3 := fun W => run_string_add_sum (P := Tryd.prog) (w := W) t2 dy (by omega)
        obtain ⟨t3, h3⟩ : ∃ u, u = t2 ++ (dy : ByteArray) := ⟨_, rfl⟩
        have z3 : t3.size = t2.size + (dy : ByteArray).size := by rw [h3, ByteArray.size_append]
        rw [← h3] at a3 HNX
        have a4 := fun W => run_string_add_sum (P := Tryd.prog) (w := W) t3 ⟨#[58]⟩ (by show t3.size + 1 ≤ _; omega)
        obtain ⟨t4, h4⟩ : ∃ u, u = t3 ++ (⟨#[58]⟩ : ByteArray) := ⟨_, rfl⟩
        have z4 : t4.size = t3.size + (⟨#[58]⟩ : ByteArray).size := by rw [h4, ByteArray.size_append]
        rw [e58] at z4
        rw [← h4] at a4 HNX
        have a5 := fun W => run_string_add_sum (P := Tryd.prog) (w := W) t4 du (by omega)
        obtain ⟨t5, h5⟩ : ∃ u, u = t4 ++ (du : ByteArray) := ⟨_, rfl⟩
        have z5 : t5.size = t4.size + (du : ByteArray).size := by rw [h5, ByteArray.size_append]
        rw [← h5] at a5 HNX
        clear h1 h2 h3 h4 h5 z1 z2 z3 z4 z5 e58 d1 d2 d3 hsz
        go_wp2_with fail
        refine wp_region_held_drew (S := (fun w' => (w'.cell? ⟨b, off + k * 3, none⟩ = some (.int .i64 x) ∧ w'.cell? ⟨b, off + k * 3 + 1, none⟩ = some (.int .i64 y) ∧ w'.cell? ⟨b, off + k * 3 + 2, none⟩ = some (.slice ov n cv)))) (by kernel_rfl) ?_ (fun hS => ?_)
        · exact (SAT.out _ HD.out)
        refine takeH_on 0 (v := ?_) rfl rfl (by kernel_rfl) (by kernel_rfl) (by kernel_rfl) (fun _ _ _ h => h) (by rfl) hS (fun w hSw => ?_) ?_
        rotate_left
        · ((try dsimp only at hSw); go_simp; try with_reducible rfl)
        simp only [List.setIfInBounds_toArray, List.set_cons_zero, List.set_cons_succ]
        refine takeH_on 1 (v := ?_) rfl rfl (by kernel_rfl) (by kernel_rfl) (by kernel_rfl) (fun _ _ _ h => h) (by rfl) hS (fun w hSw => ?_) ?_
        rotate_left
        · ((try dsimp only at hSw); go_simp; try with_reducible rfl)
        simp only [List.setIfInBounds_toArray, List.set_cons_zero, List.set_cons_succ]
        refine takeH_on 2 (v := ?_) rfl rfl (by kernel_rfl) (by kernel_rfl) (by kernel_rfl) (fun _ _ _ h => h) (by rfl) hS (fun w hSw => ?_) ?_
        rotate_left
        · ((try dsimp only at hSw); go_simp; try with_reducible rfl)
        simp only [List.setIfInBounds_toArray, List.set_cons_zero, List.set_cons_succ]
        refine takeH_on 3 (v := .pointer (some ⟨b, off + k * 3, none⟩)) rfl rfl (by kernel_rfl) (by kernel_rfl) (by kernel_rfl) (fun _ _ _ h => h) (by rfl) hS (fun w hSw => ?_) ?_
        · ((try dsimp only at hSw); go_simp; (try (intro hh; omega)))
        simp only [List.setIfInBounds_toArray, List.set_cons_zero, List.set_cons_succ]
        refine takeH_on 4 (v := ?_) rfl rfl (by kernel_rfl) (by kernel_rfl) (by kernel_rfl) (fun _ _ _ h => h) (by rfl) hS (fun w hSw => ?_) ?_
        rotate_left
        · ((try dsimp only at hSw); go_simp; try with_reducible rfl)
        simp only [List.setIfInBounds_toArray, List.set_cons_zero, List.set_cons_succ]
        refine takeH_on 5 (v := ?_) rfl rfl (by kernel_rfl) (by kernel_rfl) (by kernel_rfl) (fun _ _ _ h => h) (by rfl) hS (fun w hSw => ?_) ?_
        rotate_left
        · ((try dsimp only at hSw); go_simp; try with_reducible rfl)
        simp only [List.setIfInBounds_toArray, List.set_cons_zero, List.set_cons_succ]
        refine takeH_on 9 (v := ?_) rfl rfl (by kernel_rfl) (by kernel_rfl) (by kernel_rfl) (fun _ _ _ h => h) (by rfl) hS (fun w hSw => ?_) ?_
        rotate_left
        · ((try dsimp only at hSw); go_simp; try with_reducible rfl)
        simp only [List.setIfInBounds_toArray, List.set_cons_zero, List.set_cons_succ]
        refine takeH_on 10 (v := ?_) rfl rfl (by kernel_rfl) (by kernel_rfl) (by kernel_rfl) (fun _ _ _ h => h) (by rfl) hS (fun w hSw => ?_) ?_
        rotate_left
        · ((try dsimp only at hSw); go_simp; try with_reducible rfl)
        simp only [List.setIfInBounds_toArray, List.set_cons_zero, List.set_cons_succ]
        refine takeH_on 11 (v := .pointer (some ⟨b, off + k * 3, none⟩)) rfl rfl (by kernel_rfl) (by kernel_rfl) (by kernel_rfl) (fun _ _ _ h => h) (by rfl) hS (fun w hSw => ?_) ?_
        · ((try dsimp only at hSw); go_simp; (try (intro hh; omega)))
        simp only [List.setIfInBounds_toArray, List.set_cons_zero, List.set_cons_succ]
        refine takeH_on 12 (v := ?_) rfl rfl (by kernel_rfl) (by kernel_rfl) (by kernel_rfl) (fun _ _ _ h => h) (by rfl) hS (fun w hSw => ?_) ?_
        rotate_left
        · ((try dsimp only at hSw); go_simp; try with_reducible rfl)
        simp only [List.setIfInBounds_toArray, List.set_cons_zero, List.set_cons_succ]
        refine takeH_on 13 (v := ?_) rfl rfl (by kernel_rfl) (by kernel_rfl) (by kernel_rfl) (fun _ _ _ h => h) (by rfl) hS (fun w hSw => ?_) ?_
        rotate_left
        · ((try dsimp only at hSw); go_simp; try with_reducible rfl)
        simp only [List.setIfInBounds_toArray, List.set_cons_zero, List.set_cons_succ]
        refine takeH_on 17 (v := ?_) rfl rfl (by kernel_rfl) (by kernel_rfl) (by kernel_rfl) (fun _ _ _ h => h) (by rfl) hS (fun w hSw => ?_) ?_
        rotate_left
        · ((try dsimp only at hSw); go_simp; try with_reducible rfl)
        simp only [List.setIfInBounds_toArray, List.set_cons_zero, List.set_cons_succ]
        refine takeH_on 18 (v := ?_) rfl rfl (by kernel_rfl) (by kernel_rfl) (by kernel_rfl) (fun _ _ _ h => h) (by rfl) hS (fun w hSw => ?_) ?_
        rotate_left
        · ((try dsimp only at hSw); go_simp; try with_reducible rfl)
        simp only [List.setIfInBounds_toArray, List.set_cons_zero, List.set_cons_succ]
        refine takeH_on 19 (v := .pointer (some ⟨b, off + k * 3, none⟩)) rfl rfl (by kernel_rfl) (by kernel_rfl) (by kernel_rfl) (fun _ _ _ h => h) (by rfl) hS (fun w hSw => ?_) ?_
        · ((try dsimp only at hSw); go_simp; (try (intro hh; omega)))
        simp only [List.setIfInBounds_toArray, List.set_cons_zero, List.set_cons_succ]
        refine takeH_on 20 (v := ?_) rfl rfl (by kernel_rfl) (by kernel_rfl) (by kernel_rfl) (fun _ _ _ h => h) (by rfl) hS (fun w hSw => ?_) ?_
        rotate_left
        · ((try dsimp only at hSw); go_simp; try with_reducible rfl)
        simp only [List.setIfInBounds_toArray, List.set_cons_zero, List.set_cons_succ]
        refine takeH_on 21 (v := ?_) rfl rfl (by kernel_rfl) (by kernel_rfl) (by kernel_rfl) (fun _ _ _ h => h) (by rfl) hS (fun w hSw => ?_) ?_
        rotate_left
        · ((try dsimp only at hSw); go_simp; try with_reducible rfl)
        simp only [List.setIfInBounds_toArray, List.set_cons_zero, List.set_cons_succ]
        refine wpAnyH_ready (rs := [6]) (by kernel_rfl) (by simp) (AllReadyH.cons rfl (fun K hK => ?_) AllReadyH.nil)
        clear hS
        go_simp
        go_wp2_with fail
        refine (CX.out _).mono ?_
        rintro e v1 ⟨rfl, hbv1⟩
        have HBv1 : Hid (Below wr.heap.size wr v1) := (HD.out).trans (hbv1.mono (HD.out).size)
        clear hbv1
        refine Shut.out hK _ _ (SAT.out _ HBv1.out) (fun hS => ?_)
        clear hK K
        refine takeH_on 7 (v := ?_) rfl rfl (by kernel_rfl) (by kernel_rfl) (by kernel_rfl) (fun _ _ _ h => h) (by rfl) hS (fun w hSw => ?_) ?_
        rotate_left
        · ((try dsimp only at hSw); go_simp; try with_reducible rfl)
        simp only [List.setIfInBounds_toArray, List.set_cons_zero, List.set_cons_succ]
        refine takeH_on 8 (v := ?_) rfl rfl (by kernel_rfl) (by kernel_rfl) (by kernel_rfl) (fun _ _ _ h => h) (by rfl) hS (fun w hSw => ?_) ?_
        rotate_left
        · ((try dsimp only at hSw); go_simp; try with_reducible rfl)
        simp only [List.setIfInBounds_toArray, List.set_cons_zero, List.set_cons_succ]
        refine wpAnyH_ready (rs := [14]) (by kernel_rfl) (by simp) (AllReadyH.cons rfl (fun K hK => ?_) AllReadyH.nil)
        clear hS
        go_simp
        go_wp2_with fail
        refine (CY.out _).mono ?_
        rintro e v2 ⟨rfl, hbv2⟩
        have HBv2 : Hid (Below wr.heap.size wr v2) := (HBv1.out).trans (hbv2.mono (HBv1.out).size)
        clear hbv2
        refine Shut.out hK _ _ (SAT.out _ HBv2.out) (fun hS => ?_)
        clear hK K
        refine takeH_on 15 (v := ?_) rfl rfl (by kernel_rfl) (by kernel_rfl) (by kernel_rfl) (fun _ _ _ h => h) (by rfl) hS (fun w hSw => ?_) ?_
        rotate_left
        · ((try dsimp only at hSw); go_simp; try with_reducible rfl)
        simp only [List.setIfInBounds_toArray, List.set_cons_zero, List.set_cons_succ]
        refine takeH_on 16 (v := ?_) rfl rfl (by kernel_rfl) (by kernel_rfl) (by kernel_rfl) (fun _ _ _ h => h) (by rfl) hS (fun w hSw => ?_) ?_
        rotate_left
        · ((try dsimp only at hSw); go_simp; try with_reducible rfl)
        simp only [List.setIfInBounds_toArray, List.set_cons_zero, List.set_cons_succ]
        refine wpAnyH_ready (rs := [22]) (by kernel_rfl) (by simp) (AllReadyH.cons rfl (fun K hK => ?_) AllReadyH.nil)
        clear hS
        go_simp
        go_wp2_with fail
        refine (CU.out _ HBv2.out).mono ?_
        rintro e v3 ⟨rfl, hbv3⟩
        have HBv3 : Hid (Below wr.heap.size wr v3) := (HBv2.out).trans (hbv3.mono (HBv2.out).size)
        clear hbv3
        refine Shut.out hK _ _ (SAT.out _ HBv3.out) (fun hS => ?_)
        clear hK K
        refine takeH_on 23 (v := ?_) rfl rfl (by kernel_rfl) (by kernel_rfl) (by kernel_rfl) (fun _ _ _ h => h) (by rfl) hS (fun w hSw => ?_) ?_
        rotate_left
        · ((try dsimp only at hSw); go_simp; try with_reducible rfl)
        simp only [List.setIfInBounds_toArray, List.set_cons_zero, List.set_cons_succ]
        refine takeH_on 24 (v := ?_) rfl rfl (by kernel_rfl) (by kernel_rfl) (by kernel_rfl) (fun _ _ _ h => h) (by rfl) hS (fun w hSw => ?_) ?_
        rotate_left
        · ((try dsimp only at hSw); go_simp; try with_reducible rfl)
        simp only [List.setIfInBounds_toArray, List.set_cons_zero, List.set_cons_succ]
        refine wpAnyH_done (by kernel_rfl) ?_ _
        clear hS
        have HB3 : Hid (Below w.heap.size w v3) := HB.out.trans (HBv3.out.mono HB.out.size)
        go_wp2
        go_roundw
        case rel => exact ⟨k + 1, by omega, by go_num, by rw [HNX.out], HB3.out⟩
        case measure => simp [intOf]; omega
      · have hkI : ¬ (0 : Int) < (k : Int) := by omega
        have hdk : decide (0 < k) = false := decide_eq_false hk0
        rw [if_neg hk0] at HNX
        obtain ⟨s, h0⟩ : ∃ u, u = t := ⟨_, rfl⟩
        have hsz : s.size ≤ 300000 := by rw [h0]; omega
        rw [← h0] at HNX ⊢
        clear h0 hs0 hk0
        have e58 : ((⟨#[58]⟩ : ByteArray)).size = 1 := rfl
        have a1 := fun W => run_string_add_sum (P := Tryd.prog) (w := W) s dx (by omega)
        obtain ⟨t1, h1⟩ : ∃ u, u = s ++ (dx : ByteArray) := ⟨_, rfl⟩
        have z1 : t1.size = s.size + (dx : ByteArray).size := by rw [h1, ByteArray.size_append]
        rw [← h1] at a1 HNX
        have a2 := fun W => run_string_add_sum (P := Tryd.prog) (w := W) t1 ⟨#[58]⟩ (by show t1.size + 1 ≤ _; omega)
        obtain ⟨t2, h2⟩ : ∃ u, u = t1 ++ (⟨#[58]⟩ : ByteArray) := ⟨_, rfl⟩
        have z2 : t2.size = t1.size + (⟨#[58]⟩ : ByteArray).size := by rw [h2, ByteArray.size_append]
        rw [e58] at z2
        rw [← h2] at a2 HNX
        have a3 := fun W => run_string_add_sum (P := Tryd.prog) (w := W) t2 dy (by omega)
        obtain ⟨t3, h3⟩ : ∃ u, u = t2 ++ (dy : ByteArray) := ⟨_, rfl⟩
        have z3 : t3.size = t2.size + (dy : ByteArray).size := by rw [h3, ByteArray.size_append]
        rw [← h3] at a3 HNX
        have a4 := fun W => run_string_add_sum (P := Tryd.prog) (w := W) t3 ⟨#[58]⟩ (by show t3.size + 1 ≤ _; omega)
        obtain ⟨t4, h4⟩ : ∃ u, u = t3 ++ (⟨#[58]⟩ : ByteArray) := ⟨_, rfl⟩
        have z4 : t4.size = t3.size + (⟨#[58]⟩ : ByteArray).size := by rw [h4, ByteArray.size_append]
        rw [e58] at z4
        rw [← h4] at a4 HNX
        have a5 := fun W => run_string_add_sum (P := Tryd.prog) (w := W) t4 du (by omega)
        obtain ⟨t5, h5⟩ : ∃ u, u = t4 ++ (du : ByteArray) := ⟨_, rfl⟩
        have z5 : t5.size = t4.size + (du : ByteArray).size := by rw [h5, ByteArray.size_append]
        rw [← h5] at a5 HNX
        clear h1 h2 h3 h4 h5 z1 z2 z3 z4 z5 e58 d1 d2 d3 hsz
        go_wp2_with fail
        refine wp_region_held_drew (S := (fun w' => (w'.cell? ⟨b, off + k * 3, none⟩ = some (.int .i64 x) ∧ w'.cell? ⟨b, off + k * 3 + 1, none⟩ = some (.int .i64 y) ∧ w'.cell? ⟨b, off + k * 3 + 2, none⟩ = some (.slice ov n cv)))) (by kernel_rfl) ?_ (fun hS => ?_)
        · exact (SAT.out _ HD.out)
        refine takeH_on 0 (v := ?_) rfl rfl (by kernel_rfl) (by kernel_rfl) (by kernel_rfl) (fun _ _ _ h => h) (by rfl) hS (fun w hSw => ?_) ?_
        rotate_left
        · ((try dsimp only at hSw); go_simp; try with_reducible rfl)
        simp only [List.setIfInBounds_toArray, List.set_cons_zero, List.set_cons_succ]
        refine takeH_on 1 (v := ?_) rfl rfl (by kernel_rfl) (by kernel_rfl) (by kernel_rfl) (fun _ _ _ h => h) (by rfl) hS (fun w hSw => ?_) ?_
        rotate_left
        · ((try dsimp only at hSw); go_simp; try with_reducible rfl)
        simp only [List.setIfInBounds_toArray, List.set_cons_zero, List.set_cons_succ]
        refine takeH_on 2 (v := ?_) rfl rfl (by kernel_rfl) (by kernel_rfl) (by kernel_rfl) (fun _ _ _ h => h) (by rfl) hS (fun w hSw => ?_) ?_
        rotate_left
        · ((try dsimp only at hSw); go_simp; try with_reducible rfl)
        simp only [List.setIfInBounds_toArray, List.set_cons_zero, List.set_cons_succ]
        refine takeH_on 3 (v := .pointer (some ⟨b, off + k * 3, none⟩)) rfl rfl (by kernel_rfl) (by kernel_rfl) (by kernel_rfl) (fun _ _ _ h => h) (by rfl) hS (fun w hSw => ?_) ?_
        · ((try dsimp only at hSw); go_simp; (try (intro hh; omega)))
        simp only [List.setIfInBounds_toArray, List.set_cons_zero, List.set_cons_succ]
        refine takeH_on 4 (v := ?_) rfl rfl (by kernel_rfl) (by kernel_rfl) (by kernel_rfl) (fun _ _ _ h => h) (by rfl) hS (fun w hSw => ?_) ?_
        rotate_left
        · ((try dsimp only at hSw); go_simp; try with_reducible rfl)
        simp only [List.setIfInBounds_toArray, List.set_cons_zero, List.set_cons_succ]
        refine takeH_on 5 (v := ?_) rfl rfl (by kernel_rfl) (by kernel_rfl) (by kernel_rfl) (fun _ _ _ h => h) (by rfl) hS (fun w hSw => ?_) ?_
        rotate_left
        · ((try dsimp only at hSw); go_simp; try with_reducible rfl)
        simp only [List.setIfInBounds_toArray, List.set_cons_zero, List.set_cons_succ]
        refine takeH_on 9 (v := ?_) rfl rfl (by kernel_rfl) (by kernel_rfl) (by kernel_rfl) (fun _ _ _ h => h) (by rfl) hS (fun w hSw => ?_) ?_
        rotate_left
        · ((try dsimp only at hSw); go_simp; try with_reducible rfl)
        simp only [List.setIfInBounds_toArray, List.set_cons_zero, List.set_cons_succ]
        refine takeH_on 10 (v := ?_) rfl rfl (by kernel_rfl) (by kernel_rfl) (by kernel_rfl) (fun _ _ _ h => h) (by rfl) hS (fun w hSw => ?_) ?_
        rotate_left
        · ((try dsimp only at hSw); go_simp; try with_reducible rfl)
        simp only [List.setIfInBounds_toArray, List.set_cons_zero, List.set_cons_succ]
        refine takeH_on 11 (v := .pointer (some ⟨b, off + k * 3, none⟩)) rfl rfl (by kernel_rfl) (by kernel_rfl) (by kernel_rfl) (fun _ _ _ h => h) (by rfl) hS (fun w hSw => ?_) ?_
        · ((try dsimp only at hSw); go_simp; (try (intro hh; omega)))
        simp only [List.setIfInBounds_toArray, List.set_cons_zero, List.set_cons_succ]
        refine takeH_on 12 (v := ?_) rfl rfl (by kernel_rfl) (by kernel_rfl) (by kernel_rfl) (fun _ _ _ h => h) (by rfl) hS (fun w hSw => ?_) ?_
        rotate_left
        · ((try dsimp only at hSw); go_simp; try with_reducible rfl)
        simp only [List.setIfInBounds_toArray, List.set_cons_zero, List.set_cons_succ]
        refine takeH_on 13 (v := ?_) rfl rfl (by kernel_rfl) (by kernel_rfl) (by kernel_rfl) (fun _ _ _ h => h) (by rfl) hS (fun w hSw => ?_) ?_
        rotate_left
        · ((try dsimp only at hSw); go_simp; try with_reducible rfl)
        simp only [List.setIfInBounds_toArray, List.set_cons_zero, List.set_cons_succ]
        refine takeH_on 17 (v := ?_) rfl rfl (by kernel_rfl) (by kernel_rfl) (by kernel_rfl) (fun _ _ _ h => h) (by rfl) hS (fun w hSw => ?_) ?_
        rotate_left
        · ((try dsimp only at hSw); go_simp; try with_reducible rfl)
        simp only [List.setIfInBounds_toArray, List.set_cons_zero, List.set_cons_succ]
        refine takeH_on 18 (v := ?_) rfl rfl (by kernel_rfl) (by kernel_rfl) (by kernel_rfl) (fun _ _ _ h => h) (by rfl) hS (fun w hSw => ?_) ?_
        rotate_left
        · ((try dsimp only at hSw); go_simp; try with_reducible rfl)
        simp only [List.setIfInBounds_toArray, List.set_cons_zero, List.set_cons_succ]
        refine takeH_on 19 (v := .pointer (some ⟨b, off + k * 3, none⟩)) rfl rfl (by kernel_rfl) (by kernel_rfl) (by kernel_rfl) (fun _ _ _ h => h) (by rfl) hS (fun w hSw => ?_) ?_
        · ((try dsimp only at hSw); go_simp; (try (intro hh; omega)))
        simp only [List.setIfInBounds_toArray, List.set_cons_zero, List.set_cons_succ]
        refine takeH_on 20 (v := ?_) rfl rfl (by kernel_rfl) (by kernel_rfl) (by kernel_rfl) (fun _ _ _ h => h) (by rfl) hS (fun w hSw => ?_) ?_
        rotate_left
        · ((try dsimp only at hSw); go_simp; try with_reducible rfl)
        simp only [List.setIfInBounds_toArray, List.set_cons_zero, List.set_cons_succ]
        refine takeH_on 21 (v := ?_) rfl rfl (by kernel_rfl) (by kernel_rfl) (by kernel_rfl) (fun _ _ _ h => h) (by rfl) hS (fun w hSw => ?_) ?_
        rotate_left
        · ((try dsimp only at hSw); go_simp; try with_reducible rfl)
        simp only [List.setIfInBounds_toArray, List.set_cons_zero, List.set_cons_succ]
        refine wpAnyH_ready (rs := [6]) (by kernel_rfl) (by simp) (AllReadyH.cons rfl (fun K hK => ?_) AllReadyH.nil)
        clear hS
        go_simp
        go_wp2_with fail
        refine (CX.out _).mono ?_
        rintro e v1 ⟨rfl, hbv1⟩
        have HBv1 : Hid (Below wr.heap.size wr v1) := (HD.out).trans (hbv1.mono (HD.out).size)
        clear hbv1
        refine Shut.out hK _ _ (SAT.out _ HBv1.out) (fun hS => ?_)
        clear hK K
        refine takeH_on 7 (v := ?_) rfl rfl (by kernel_rfl) (by kernel_rfl) (by kernel_rfl) (fun _ _ _ h => h) (by rfl) hS (fun w hSw => ?_) ?_
        rotate_left
        · ((try dsimp only at hSw); go_simp; try with_reducible rfl)
        simp only [List.setIfInBounds_toArray, List.set_cons_zero, List.set_cons_succ]
        refine takeH_on 8 (v := ?_) rfl rfl (by kernel_rfl) (by kernel_rfl) (by kernel_rfl) (fun _ _ _ h => h) (by rfl) hS (fun w hSw => ?_) ?_
        rotate_left
        · ((try dsimp only at hSw); go_simp; try with_reducible rfl)
        simp only [List.setIfInBounds_toArray, List.set_cons_zero, List.set_cons_succ]
        refine wpAnyH_ready (rs := [14]) (by kernel_rfl) (by simp) (AllReadyH.cons rfl (fun K hK => ?_) AllReadyH.nil)
        clear hS
        go_simp
        go_wp2_with fail
        refine (CY.out _).mono ?_
        rintro e v2 ⟨rfl, hbv2⟩
        have HBv2 : Hid (Below wr.heap.size wr v2) := (HBv1.out).trans (hbv2.mono (HBv1.out).size)
        clear hbv2
        refine Shut.out hK _ _ (SAT.out _ HBv2.out) (fun hS => ?_)
        clear hK K
        refine takeH_on 15 (v := ?_) rfl rfl (by kernel_rfl) (by kernel_rfl) (by kernel_rfl) (fun _ _ _ h => h) (by rfl) hS (fun w hSw => ?_) ?_
        rotate_left
        · ((try dsimp only at hSw); go_simp; try with_reducible rfl)
        simp only [List.setIfInBounds_toArray, List.set_cons_zero, List.set_cons_succ]
        refine takeH_on 16 (v := ?_) rfl rfl (by kernel_rfl) (by kernel_rfl) (by kernel_rfl) (fun _ _ _ h => h) (by rfl) hS (fun w hSw => ?_) ?_
        rotate_left
        · ((try dsimp only at hSw); go_simp; try with_reducible rfl)
        simp only [List.setIfInBounds_toArray, List.set_cons_zero, List.set_cons_succ]
        refine wpAnyH_ready (rs := [22]) (by kernel_rfl) (by simp) (AllReadyH.cons rfl (fun K hK => ?_) AllReadyH.nil)
        clear hS
        go_simp
        go_wp2_with fail
        refine (CU.out _ HBv2.out).mono ?_
        rintro e v3 ⟨rfl, hbv3⟩
        have HBv3 : Hid (Below wr.heap.size wr v3) := (HBv2.out).trans (hbv3.mono (HBv2.out).size)
        clear hbv3
        refine Shut.out hK _ _ (SAT.out _ HBv3.out) (fun hS => ?_)
        clear hK K
        refine takeH_on 23 (v := ?_) rfl rfl (by kernel_rfl) (by kernel_rfl) (by kernel_rfl) (fun _ _ _ h => h) (by rfl) hS (fun w hSw => ?_) ?_
        rotate_left
        · ((try dsimp only at hSw); go_simp; try with_reducible rfl)
        simp only [List.setIfInBounds_toArray, List.set_cons_zero, List.set_cons_succ]
        refine takeH_on 24 (v := ?_) rfl rfl (by kernel_rfl) (by kernel_rfl) (by kernel_rfl) (fun _ _ _ h => h) (by rfl) hS (fun w hSw => ?_) ?_
        rotate_left
        · ((try dsimp only at hSw); go_simp; try with_reducible rfl)
        simp only [List.setIfInBounds_toArray, List.set_cons_zero, List.set_cons_succ]
        refine wpAnyH_done (by kernel_rfl) ?_ _
        clear hS
        have HB3 : Hid (Below w.heap.size w v3) := HB.out.trans (HBv3.out.mono HB.out.size)
        go_wp2
        go_roundw
        case rel => exact ⟨k + 1, by omega, by go_num, by rw [HNX.out], HB3.out⟩
        case measure => simp [intOf]; omega
    · have hltI : ¬ (k : Int) < (len : Int) := by omega
      have hkl : k = L.length := by rw [← HL.out]; omega
      by_cases h0 : L = []
      · have HP : Hid (putL L = ⟨#[45]⟩) := if_pos h0
        have ht : lText L k = ⟨#[]⟩ := by rw [hkl, h0]; rfl
        rw [ht]
        clear ht hkl h0
        go_wp2
        go_ret
        exact ⟨by rw [HP.out]; rfl, HB.out⟩
      · have HP : Hid (putL L = lText L k) := by show _ = _; rw [hkl]; exact if_neg h0
        have hpos : 0 < (lText L k).size := by
          rw [hkl]
          obtain ⟨j, hj⟩ : ∃ j, L.length = j + 1 := ⟨L.length - 1, by have := List.length_pos_iff.2 h0; omega⟩
          rw [hj, lText, ByteArray.size_append, ByteArray.size_append]
          have e1 : ((⟨#[58]⟩ : ByteArray)).size = 1 := rfl
          omega
        obtain ⟨t, ht⟩ : ∃ t, t = lText L k := ⟨_, rfl⟩
        rw [← ht] at HP hpos ⊢
        have htl : t.toList ≠ [] := by
          intro e
          have := congrArg List.length e
          rw [len_toList, List.length_nil] at this
          omega
        have hne : (t.toList == []) = false := by rw [beq_eq_false_iff_ne]; exact htl
        clear ht hkl h0
        go_wp2
        go_ret
        exact ⟨by rw [HP.out]; rfl, HB.out⟩

end Go.Proofs.YtijdjplajhcilabDoor
