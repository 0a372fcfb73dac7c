/- DERIVED. What the law on HostsJoin calls, at lists that came in. -/
import Derived.Test.YtahhjhhnjpbocaeMark
import Derived.Test.YtahhjhhnjpbocaeJoinSpec
namespace Go.Proofs.Ytahhjhhnjpbocae
open Go.RowKit

def markNf (k0 i : Nat) : ByteArray := markS (2 * i + k0)
def markMf (k0 i : Nat) : Int := ((2 * i + k0 + 1 : Nat) : Int)

set_option maxRecDepth 100000 in
set_option maxHeartbeats 800000 in
theorem mark_from (k0 g n cap : Nat) (w : World) (hk0 : 1 ≤ k0) (hn : k0 + 2 * n ≤ 9000000) (h0 : OwnAt w g n 0 (markNf k0) (markMf k0)) :
    Calls Try.prog 9 #[.slice (some ⟨g, 0, none⟩) n cap, .int .i64 (k0 : Int)] w fun e w' => e = .returned (.int .i64 ((2 * n + k0 : Nat) : Int)) ∧ OwnAt w' g n n (markNf k0) (markMf k0) ∧ w.grownBy w' (some g) := by
  have H0 := hid h0
  clear h0
  go_enter Try.func9, Try.ntmps9
  go_wp2
  go_loopw [1, 5] (fun k i wr => ∃ j : Nat, j ≤ n ∧ i = .int .i64 (j : Int) ∧ k = .int .i64 ((2 * j + k0 : Nat) : Int) ∧ OwnAt wr g n j (markNf k0) (markMf k0) ∧ w.grownBy wr (some g)) (fun _ i _ => n - (intOf i).toNat)
  case atStart => exact ⟨0, Nat.zero_le _, rfl, by simp, H0.out, grown_below (Below.refl _ _) _⟩
  case round =>
    obtain ⟨j, hj, rfl, rfl, hown, hgr⟩ := hrel
    have HOWN := hid hown
    have HGR := hid hgr
    clear hown hgr
    by_cases hlt : j < n
    · obtain ⟨k, hk⟩ : ∃ k, k = 2 * j + k0 := ⟨_, rfl⟩
      have HK := hid hk
      rw [← hk]
      have hk1 : 1 ≤ k := by omega
      have hk2 : k ≤ 9000000 := by omega
      have hjn : (j : Int) < (n : Int) := by omega
      have hj0 : (0 : Int) ≤ (j : Int) := by omega
      have CM := hid (fun W => markText_any k W hk1 (by omega))
      obtain ⟨z, hz⟩ : ∃ z, z = markS k := ⟨_, rfl⟩
      rw [← hz] at CM
      have HZ := hid hz
      clear hz hk
      go_wp2_with fail
      refine (CM.out _).mono ?_
      rintro e w1 ⟨rfl, hb1⟩
      have hO := HOWN.out.below hb1
      have HO := hid hO
      have HG1 : Hid (w.grownBy w1 (some g)) := HGR.out.trans (grown_below hb1 _)
      have t0 := hO.there (j * 2) (by omega)
      have t1 := hO.there (j * 2 + 1) (by omega)
      have f0 := hO.free (j * 2) (by omega)
      have f1 := hO.free (j * 2 + 1) (by omega)
      obtain ⟨u0, hu0⟩ := Option.isSome_iff_exists.mp t0
      obtain ⟨u1, hu1⟩ := Option.isSome_iff_exists.mp t1
      clear hb1 hO t0 t1
      go_wp2
      go_roundw
      case rel =>
        have ek := HK.out
        have e1 : markNf k0 j = z := by unfold markNf; rw [HZ.out, ek]
        have e2 : markMf k0 j = (k : Int) + 1 := by unfold markMf; omega
        have hp := HO.out.put hlt
        rw [e1, e2] at hp
        refine ⟨j + 1, by omega, by go_num, ?_, hp, (HG1.out.trans (grown_set _ _ _ _)).trans (grown_set _ _ _ _)⟩
        rw [ek]
        congr 1
        omega
      case measure => simp [intOf]; omega
    · have hj' : j = n := by omega
      subst hj'
      obtain ⟨k, hk⟩ : ∃ k, k = 2 * j + k0 := ⟨_, rfl⟩
      rw [← hk]
      have HK := hid hk
      clear hk
      go_wp2
      go_ret
      exact ⟨by rw [← HK.out]; rfl, HOWN.out, HGR.out⟩

set_option maxHeartbeats 400000 in
theorem szS_zero (oa : Option Addr) (cap : Nat) (l0 : Int) (w : World) (h0 : 0 ≤ l0) (h1 : l0 ≤ 1048576) :
    Calls Try.prog 4 #[.slice oa 0 cap, .int .i64 l0] w fun e w' => e = .returned (.int .i64 l0) ∧ w' = w := by
  go_enter Try.func4, Try.ntmps4
  go_wp2
  go_loop [1, 5] (fun l i => l = .int .i64 l0 ∧ i = .int .i64 0) (fun _ _ => 0)
  case atStart => exact ⟨rfl, rfl⟩
  case round =>
    obtain ⟨rfl, rfl⟩ := hrel
    go_wp2
    go_ret
    exact ⟨rfl, rfl⟩

set_option maxHeartbeats 400000 in
theorem szS_from (b off len cap : Nat) (l0 : Int) (S : Nat → ByteArray) (M : Nat → Int) (w : World) (h0 : 0 ≤ l0) (h1 : l0 ≤ 1048576) (hc : len ≤ cap) (hm : cap ≤ maxLen) (R : RowAt w b off len S M) :
    Calls Try.prog 4 #[.slice (some ⟨b, off, none⟩) len cap, .int .i64 l0] w fun e w' => (∃ r : Int, e = .returned (.int .i64 r) ∧ (0 ≤ r → len ≤ 1048576) ∧ r ≤ 1048576) ∧ Below w.heap.size w w' := by
  have hm' : cap ≤ 2 ^ 63 - 1 := hm
  by_cases hbig : l0 - (len : Int) < 0
  · go_enter Try.func4, Try.ntmps4
    go_wp2
    go_ret
    exact ⟨⟨-1, rfl, by omega, by omega⟩, Below.refl _ _⟩
  · go_enter Try.func4, Try.ntmps4
    go_wp2
    go_loopw [1, 5] (fun l i w' => Below w.heap.size w w' ∧ ∃ (k : Nat) (x : Int), k ≤ len ∧ i = .int .i64 k ∧ l = .int .i64 x ∧ 0 ≤ x ∧ x ≤ 1048576) (fun _ i _ => len - (intOf i).toNat)
    case atStart => exact ⟨Below.refl _ _, 0, l0 - len, Nat.zero_le _, rfl, rfl, by omega, by omega⟩
    case round =>
      obtain ⟨hB, k, x, hk, rfl, rfl, x0, x1⟩ := hrel
      have HB := hid hB
      clear hB
      have HR : Hid (RowAt wr b off len S M) := R.below HB.out
      by_cases hlt : k < len
      · have c0 := HR.out.name k hlt
        have c1 := HR.out.num k hlt
        have HSZ := hid (HR.out.small k hlt)
        by_cases hx : x - ((S k).size : Int) < 0
        · go_wp2_with (go_at_call 11; refine (sz_any _ _ _ _ HSZ.out x0 x1).mono ?_; rintro e w' ⟨rfl, rfl⟩; rw [if_pos hx])
          go_ret
          exact ⟨⟨-1, rfl, by omega, by omega⟩, HB.out.alloc HB.out.size _⟩
        · go_wp2_with (go_at_call 11; refine (sz_any _ _ _ _ HSZ.out x0 x1).mono ?_; rintro e w' ⟨rfl, rfl⟩; rw [if_neg hx])
          go_roundw
          case rel => exact ⟨HB.out.alloc HB.out.size _, k + 1, x - (S k).size, by omega, by go_num, rfl, by omega, by omega⟩
          case measure => simp [intOf]; omega
      · go_wp2
        go_ret
        exact ⟨⟨x, rfl, by omega, by omega⟩, HB.out⟩

theorem sz_in (v : Value) (o : Hs) (l0 : Int) (w : World) (h0 : 0 ≤ l0) (h1 : l0 ≤ 1048576) (h : InRow w v o) :
    Calls Try.prog 4 #[v, .int .i64 l0] w fun e w' => (∃ r : Int, e = .returned (.int .i64 r) ∧ (0 ≤ r → o.length ≤ 1048576) ∧ r ≤ 1048576) ∧ Below w.heap.size w w' := by
  obtain ⟨oa, cp, rfl, hc, hm, h3⟩ := h
  rcases h3 with h3 | ⟨g, off, rfl, R⟩
  · rw [h3]
    refine (szS_zero oa cp l0 w h0 h1).mono ?_
    rintro e w' ⟨rfl, rfl⟩
    exact ⟨⟨_, rfl, by omega, h1⟩, Below.refl _ _⟩
  · exact szS_from g off o.length cp l0 (Sof o) (Mof o) w h0 h1 hc hm R

set_option maxHeartbeats 400000 in
theorem toS_zero (oa : Option Addr) (cap : Nat) (S : Nat → ByteArray) (M : Nat → Int) (w : World) :
    Calls Try.prog 6 #[.slice oa 0 cap] w fun e w' => (∃ B, e = .returned (.slice (some ⟨B, 0, none⟩) 0 0) ∧ w.heap.size ≤ B ∧ OwnAt w' B 0 0 S M) ∧ Below w.heap.size w w' := by
  obtain ⟨A, hA, hmk⟩ := make_hosts 0 (by decide) w
  simp only [Int.natCast_zero] at hmk
  go_enter Try.func6, Try.ntmps6
  go_wp2
  go_loop [4] (fun i => i = .int .i64 0) (fun _ => 0)
  case atStart => rfl
  case round =>
    subst hrel
    go_wp2
    go_ret
    exact ⟨⟨_, rfl, Nat.le_refl _, OwnAt.new w A _ 0 S M hA⟩, (Below.refl _ _).alloc (Nat.le_refl _) _⟩

set_option maxHeartbeats 400000 in
theorem toS_own (b off len cap : Nat) (S : Nat → ByteArray) (M : Nat → Int) (w : World) (hn : len ≤ 1048576) (R : RowAt w b off len S M) :
    Calls Try.prog 6 #[.slice (some ⟨b, off, none⟩) len cap] w fun e w' => (∃ B, e = .returned (.slice (some ⟨B, 0, none⟩) len len) ∧ w.heap.size ≤ B ∧ OwnAt w' B len len S M) ∧ Below w.heap.size w w' := by
  obtain ⟨A, hA, hmk⟩ := make_hosts len hn w
  have HA := hid hA
  clear hA
  go_enter Try.func6, Try.ntmps6
  go_wp2
  clear hmk
  go_loopw [4] (fun i w' => Below w.heap.size w w' ∧ ∃ k : Nat, k ≤ len ∧ i = .int .i64 k ∧ OwnAt w' w.heap.size len k S M) (fun i _ => len - (intOf i).toNat)
  case atStart => exact ⟨(Below.refl _ _).alloc (Nat.le_refl _) _, 0, Nat.zero_le _, rfl, OwnAt.new w A _ len S M HA.out⟩
  case round =>
    obtain ⟨hB, k, hk, rfl, hO⟩ := hrel
    have HB := hid hB
    have HO := hid hO
    clear hB hO
    have HR : Hid (RowAt wr b off len S M) := R.below HB.out
    by_cases hlt : k < len
    · have c0 := HR.out.name k hlt
      have c1 := HR.out.num k hlt
      go_wp2_with fail
      refine (to_any _ _ _).mono ?_
      rintro e w1 ⟨rfl, hb1⟩
      have HB1 : Hid (Below w.heap.size w w1) := HB.out.trans (hb1.mono HB.out.size)
      have HO1 : Hid (OwnAt w1 w.heap.size len k S M) := HO.out.below hb1
      clear hb1 c0 c1
      obtain ⟨u0, hu0⟩ := Option.isSome_iff_exists.mp (HO1.out.there (k * 2) (by omega))
      obtain ⟨u1, hu1⟩ := Option.isSome_iff_exists.mp (HO1.out.there (k * 2 + 1) (by omega))
      have f0 := HO1.out.free (k * 2) (by omega)
      have f1 := HO1.out.free (k * 2 + 1) (by omega)
      go_wp2
      go_roundw
      case rel => exact ⟨(HB1.out.setCell (Nat.le_refl _) _).setCell (Nat.le_refl _) _, k + 1, by omega, by go_num, HO1.out.put hlt⟩
      case measure => simp [intOf]; omega
    · have HE : Hid (k = len) := by show k = len; omega
      go_wp2
      go_ret
      exact ⟨⟨_, rfl, Nat.le_refl _, by have := HO.out; rw [HE.out] at this; exact this⟩, HB.out⟩

/-- A copy of a list. -/
structure Copied (w : World) (B : Nat) (o : Hs) : Prop where
  own : OwnAt w B o.length o.length (Sof o) (Mof o)
  small : ∀ i, i < o.length → (Sof o i).size ≤ maxLen

theorem Copied.below {w w' : World} {B : Nat} {o : Hs} (h : Copied w B o) (hb : Below w.heap.size w w') : Copied w' B o := ⟨h.own.below hb, h.small⟩
theorem Copied.row {w : World} {B : Nat} {o : Hs} (h : Copied w B o) : RowAt w B 0 o.length (Sof o) (Mof o) := h.own.row h.small
theorem Copied.inRow {w : World} {B : Nat} {o : Hs} (h : Copied w B o) (hn : o.length ≤ 1048576) : InRow w (.slice (some ⟨B, 0, none⟩) o.length o.length) o :=
  ⟨_, _, rfl, Nat.le_refl _, by unfold maxLen; omega, Or.inr ⟨B, 0, rfl, h.row⟩⟩
theorem Copied.free {w : World} {B : Nat} {o : Hs} (h : Copied w B o) (S : Nat → ByteArray) (M : Nat → Int) : OwnAt w B o.length 0 S M :=
  ⟨h.own.old, h.own.there, h.own.free, fun _ hi => absurd hi (Nat.not_lt_zero _), fun _ hi => absurd hi (Nat.not_lt_zero _)⟩

theorem to_in (v : Value) (o : Hs) (w : World) (hn : o.length ≤ 1048576) (h : InRow w v o) :
    Calls Try.prog 6 #[v] w fun e w' => (∃ B, e = .returned (.slice (some ⟨B, 0, none⟩) o.length o.length) ∧ w.heap.size ≤ B ∧ B < w'.heap.size ∧ Copied w' B o) ∧ Below w.heap.size w w' := by
  obtain ⟨oa, cp, rfl, hc, hm, h3⟩ := h
  rcases h3 with h3 | ⟨g, off, rfl, R⟩
  · have e : o = [] := List.eq_nil_of_length_eq_zero h3
    subst e
    refine (toS_zero oa cp (Sof []) (Mof []) w).mono ?_
    rintro e w' ⟨⟨B, rfl, h1, h2⟩, hb⟩
    exact ⟨⟨B, rfl, h1, h2.old, h2, fun i hi => absurd hi (Nat.not_lt_zero _)⟩, hb⟩
  · refine (toS_own g off o.length cp (Sof o) (Mof o) w hn R).mono ?_
    rintro e w' ⟨⟨B, rfl, h1, h2⟩, hb⟩
    exact ⟨⟨B, rfl, h1, h2.old, h2, R.small⟩, hb⟩

/-- An answer that is marked. -/
def HeldAt (w : World) (v : Value) (n : Nat) : Prop := ∃ oa cp, v = .slice oa n cp ∧ (n = 0 ∨ ∃ g, oa = some ⟨g, 0, none⟩ ∧ RowAt w g 0 n markN markM)

theorem HeldAt.below {w w' : World} {v : Value} {n : Nat} (h : HeldAt w v n) (hb : Below w.heap.size w w') : HeldAt w' v n := by
  obtain ⟨oa, cp, e, h⟩ := h
  refine ⟨oa, cp, e, ?_⟩
  rcases h with h | ⟨g, e2, R⟩
  · exact Or.inl h
  · exact Or.inr ⟨g, e2, R.below hb⟩

theorem own_free {w : World} {base g cp n : Nat} {xs : List Value} (h : w.ownsRow base 35 2 (.slice (some ⟨g, 0, none⟩) n cp) n xs) : OwnAt w g n 0 markN markM := by
  have hlt := (h.lt g rfl).2
  rcases h.2 with ⟨e, _⟩ | ⟨g', cap, cur, e, _, hb, hkc, _, hcur, _⟩
  · cases e
  · injection e with e1 e2 e3
    injection e1 with e1
    injection e1 with e1
    subst e1
    constructor
    · exact hlt
    · intro j hj
      have : j < cur.size := by rw [hcur]; omega
      simp [World.cell?, hb, this]
    · intro j hj
      simp [World.frozen?, hb]
    · intro i hi; omega
    · intro i hi; omega

theorem markL_long (f k : Nat) (s : ByteArray) : (markL f k s).size ≤ s.size + f := by
  induction f generalizing k s with
  | zero => exact Nat.le_refl _
  | succ f ih =>
    rw [markL]
    split
    · omega
    · have h := ih (k / 10) (⟨#[UInt8.ofNat (48 + k % 10)]⟩ ++ s)
      have e : ((⟨#[UInt8.ofNat (48 + k % 10)]⟩ : ByteArray) ++ s).size = 1 + s.size := by rw [ByteArray.size_append]; rfl
      omega

theorem markN_long (n i : Nat) (hn : n ≤ 1000) (hi : i < n) : (markN i).size ≤ maxLen := by
  unfold markN markS
  have h := markL_long (2 * i + 1) (2 * i + 1) ⟨#[]⟩
  have e0 : (⟨#[]⟩ : ByteArray).size = 0 := rfl
  have e1 : (⟨#[109]⟩ : ByteArray).size = 1 := rfl
  rw [ByteArray.size_append, e1]
  unfold maxLen
  omega

theorem mark_row (v : Value) (base n : Nat) (xs : List Value) (w : World) (hn : n ≤ 1000) (h : w.ownsRow base 35 2 v n xs) :
    Calls Try.prog 9 #[v, .int .i64 1] w fun e w' => e = .returned (.int .i64 ((2 * n + 1 : Nat) : Int)) ∧ HeldAt w' v n ∧ w.grownBy w' v.ownBlock := by
  by_cases h0 : n = 0
  · obtain ⟨oa, cp, rfl⟩ := row_shape h
    subst h0
    refine (mark_zero oa cp w).mono ?_
    rintro e w' ⟨rfl, rfl⟩
    exact ⟨rfl, ⟨oa, cp, rfl, Or.inl rfl⟩, World.grownBy.refl _ _⟩
  · obtain ⟨g, cp, rfl, hbg, hg, hcp, hcm, _⟩ := srow_cells h (by omega)
    refine (mark_any g n cp w hn (own_free h)).mono ?_
    rintro e w' ⟨rfl, h1, h2⟩
    exact ⟨rfl, ⟨_, cp, rfl, Or.inr ⟨g, rfl, h1.row (fun i hi => markN_long n i hn hi)⟩⟩, h2⟩

theorem held_row (v : Value) (n : Nat) (w : World) (hn : n ≤ 1000) (h : HeldAt w v n) :
    Calls Try.prog 10 #[v, .int .i64 1] w fun e w' => e = .returned (.int .i64 ((2 * n + 1 : Nat) : Int)) ∧ Below w.heap.size w w' := by
  obtain ⟨oa, cp, rfl, h⟩ := h
  rcases h with h0 | ⟨g, rfl, R⟩
  · subst h0
    refine (held_zero oa cp w).mono ?_
    rintro e w' ⟨rfl, rfl⟩
    exact ⟨rfl, Below.refl _ _⟩
  · exact held_any g n cp w hn R

theorem row_kept {w w' : World} {base : Nat} {v : Value} {n : Nat} {xs : List Value} {row : Option Nat} (h : w.ownsRow base 35 2 v n xs) (hg : w.grownBy w' row) (hne : ∀ k, v.ownBlock = some k → row ≠ some k) : w'.ownsRow base 35 2 v n xs := by
  refine h.kept hg ?_
  cases e : v.ownBlock with
  | none => exact Or.inl rfl
  | some k => exact Or.inr (fun c => hne k e c.symm)

theorem Copied.kept {w w' : World} {B : Nat} {o : Hs} {row : Option Nat} (h : Copied w B o) (hg : w.grownBy w' row) (hne : row ≠ some B) : Copied w' B o := by
  have hb : w'.heap[B]? = w.heap[B]? := hg.block B h.own.old (fun c => hne c.symm)
  have hc : ∀ j, w'.cell? ⟨B, j, none⟩ = w.cell? ⟨B, j, none⟩ := fun j => by simp only [World.cell?, hb]
  have hf : ∀ j, w'.frozen? ⟨B, j, none⟩ = w.frozen? ⟨B, j, none⟩ := fun j => by simp only [World.frozen?, hb]
  refine ⟨⟨Nat.lt_of_lt_of_le h.own.old hg.size, fun j hj => by rw [hc]; exact h.own.there j hj, fun j hj => by rw [hf]; exact h.own.free j hj, fun i hi => by rw [hc]; exact h.own.name i hi, fun i hi => by rw [hc]; exact h.own.num i hi⟩, h.small⟩

theorem okB_small {s : ByteArray} {n : Int} (h : okB s n = true) : s.size ≤ 6 ∧ 0 ≤ n ∧ n ≤ 999 := by
  simp [okB, inB] at h
  omega

theorem joinH_names (A B : Hs) : (joinH A B).length ≤ 30 ∧ ∀ x ∈ joinH A B, x.1.size ≤ 400 := by
  unfold joinH
  split
  · rename_i h
    refine ⟨h.2.2, fun x hx => ?_⟩
    have each : ∀ o : Hs, okH o = true → x ∈ o → x.1.size ≤ 400 := by
      intro o ho hxo
      obtain ⟨i, hi, e⟩ := List.getElem_of_mem hxo
      have := (okB_small ((okH_each o ho).2 i hi)).1
      have e2 : Sof o i = x.1 := by rw [← e]; simp [Sof, List.getD, List.getElem?_eq_getElem hi]
      rw [e2] at this
      omega
    rcases merge_mem _ _ _ _ hx with h1 | h1
    · exact each A h.1 h1
    · exact each B h.2.1 h1
  · exact ⟨by simp, by simp⟩

end Go.Proofs.Ytahhjhhnjpbocae
