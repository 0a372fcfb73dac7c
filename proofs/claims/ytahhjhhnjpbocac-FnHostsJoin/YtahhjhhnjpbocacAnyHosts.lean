/- DERIVED. The walks of what draws any lists of hosts: l15AnyHosts, DrawHostsFold. -/
import Derived.Test.YtahhjhhnjpbocacDrawHosts
namespace Go.Proofs.Ytahhjhhnjpbocac
open Go.RowKit

/-- A reader, behind a row that has grown. -/
theorem Drawn.grow {R : Nat} {oa : Option Addr} {len cap p0 q g : Nat} {w w1 w2 : World} (h0 : RdAt w R oa len cap p0) (h : Drawn R oa len cap q w w1) (hg : w1.grownBy w2 (some g)) (hw : w.heap.size ≤ g) : Drawn R oa len cap q w w2 := by
  have hR := h0.old
  have hs := h.2.size
  have hcell : ∀ b o, b < w.heap.size → w2.cell? ⟨b, o, none⟩ = w1.cell? ⟨b, o, none⟩ := fun b o hb => World.cell?_of_block (a := ⟨b, o, none⟩) (hg.block b (by omega) (fun e => by injection e with e; omega))
  have hfro : ∀ b o, b < w.heap.size → w2.frozen? ⟨b, o, none⟩ = w1.frozen? ⟨b, o, none⟩ := fun b o hb => World.frozen?_of_block (a := ⟨b, o, none⟩) (hg.block b (by omega) (fun e => by injection e with e; omega))
  refine ⟨⟨Nat.lt_of_lt_of_le h.1.old hg.size, by rw [hcell R 0 hR]; exact h.1.code, by rw [hcell R 1 hR]; exact h.1.place, by rw [hfro R 1 hR]; exact h.1.free, h.1.short, fun i hi => ?_⟩, ⟨Nat.le_trans hs hg.size, fun B w0 hB hb => ?_, fun b o hb hn => by rw [hcell b o hb]; exact h.2.cell b o hb hn, fun b o hb => by rw [hfro b o hb]; exact h.2.frozen b o hb, fun b hb hn => (hg.block b (by omega) (fun e => by injection e with e; omega)).trans (h.2.block b hb hn)⟩⟩
  · obtain ⟨b, off, c, e, hb, hn, hc, h1, h2⟩ := h.1.bytes i hi
    obtain ⟨b', off', c', e', hb', _⟩ := h0.bytes i hi
    rw [e] at e'
    injection e' with e'
    injection e' with e1 e2
    subst e1
    exact ⟨b, off, c, e, Nat.lt_of_lt_of_le hb hg.size, hn, by rw [hcell b _ hb']; exact hc, h1, h2⟩
  · exact (h.2.below B w0 hB hb).grown hg (by omega) (fun k hk => by injection hk with hk; omega)

theorem own_block {w : World} {base : Nat} {e : TypeId} {size n : Nat} {v : Value} {xs : List Value} (h : w.ownsRow base e size v n xs) : (∃ g, v.ownBlock = some g ∧ base ≤ g) ∨ v.ownBlock = none := by
  cases hv : v.ownBlock with
  | none => exact Or.inr rfl
  | some g => exact Or.inl ⟨g, rfl, (h.lt g hv).1⟩

theorem Drawn.grown {R : Nat} {oa : Option Addr} {len cap p0 q size n : Nat} {e : TypeId} {v : Value} {xs : List Value} {w w1 w2 : World} (h0 : RdAt w R oa len cap p0) (h : Drawn R oa len cap q w w1) (hown : w1.ownsRow w.heap.size e size v n xs) (hg : w1.grownBy w2 v.ownBlock) : Drawn R oa len cap q w w2 := by
  rcases own_block hown with ⟨g, hv, hb⟩ | hv
  · rw [hv] at hg; exact h.grow h0 hg hb
  · rw [hv] at hg
    exact h.below ⟨hg.os, hg.tape, hg.output, hg.size, fun k hk => hg.block k hk (fun e => by cases e)⟩

set_option maxRecDepth 100000 in
set_option maxHeartbeats 1600000 in
theorem anyHosts_any (R : Nat) (oa : Option Addr) (len cap p : Nat) (w : World) (h : RdAt w R oa len cap p) (hp : p ≤ 50000) :
    Calls Try.prog 10 #[.pointer (some ⟨R, 0, none⟩)] w fun e w' => (∃ v o, e = .returned v ∧ InRow w' v o ∧ o.length ≤ 70 ∧ (∀ x ∈ o, x.1.size ≤ 400) ∧ ∀ g, v.ownBlock = some g → w.heap.size ≤ g) ∧ (∃ q, q ≤ p + 2000 ∧ Drawn R oa len cap q w w') := by
  obtain ⟨i0, hi, hz0, hz1, hz2⟩ := info_parts infoHost
  have HR := hid h
  have hRo := h.old
  clear h
  go_enter Try.func10, Try.ntmps10
  go_wp2_with fail
  refine (hosts_any R oa len cap p _ HR.out (by omega)).mono ?_
  rintro e w1 ⟨⟨v, o, rfl, hrow, hok⟩, q, hq, hd1⟩
  have HROW := hid hrow
  have HOK := hid hok
  have HD1 := hid hd1
  obtain ⟨ov, cv, rfl⟩ := row_shape hrow
  have hol := hok.1
  clear hrow hok hd1
  go_wp2_with fail
  refine (pick_any R oa len cap q 16 _ HD1.out.1 (by omega) (by decide)).mono ?_
  rintro e w2 ⟨⟨x, rfl, hx0, hx1⟩, hd2⟩
  have HD2 : Hid (Drawn R oa len cap (q + 1) w w2) := HD1.out.trans hd2
  have HROW2 := hid (row_keeps HROW.out hd2.2 hRo)
  have HZ2 := hid HD2.out.2.size
  clear hd2
  by_cases hxz : x = 0
  · subst hxz
    go_wp2_with fail
    refine (anyHost_any R oa len cap (q + 1) _ HD2.out.1 (by omega)).mono ?_
    rintro e w3 ⟨⟨s, z, rfl, hs, hza, hzb⟩, q3, hq3, hd3'⟩
    have HD3 : Hid (Drawn R oa len cap q3 w w3) := HD2.out.trans hd3'
    have hown3 := row_keeps HROW2.out hd3'.2 hRo
    have HROW3 := hid hown3
    have HZ3 := hid HD3.out.2.size
    clear hd3'
    go_wp2_with (at_builtin; refine wpList_append_own _ rfl _ _ 23 rfl w.heap.size 29 i0 (.agg #[.string ⟨#[]⟩, .int .i64 0]) 2 24 Try.underlying23 hi hz0 hz1 hz2 rfl (by decide) _ _ _ rfl (hown3.alloc _) ⟨w3.heap.size, 0, none⟩ 1 1 [.string s, .int .i64 z] rfl rfl (cell_new2 _ _ _ _) (by simp [Value.oneCell']) (by unfold maxLen; omega) (by omega) (by have := HZ3.out; simp; omega) ?_)
    intro v' w4 hown' hgrow _
    have HD4 : Hid (Drawn R oa len cap q3 w w4) := (HD3.out.below ((Below.refl _ _).alloc (Nat.le_refl _) _)).grown HR.out (hown3.alloc _) hgrow
    have HOWN' := hid hown'
    clear hown' hgrow hown3
    go_wp2
    refine bodyPost_ret (v := v') (by simp [results, Try.results10, go_sem]) rfl ?_
    have hnm : ∀ y ∈ o ++ [(s, z)], y.1.size ≤ 400 := by
      intro y hy
      rcases List.mem_append.1 hy with h1 | h1
      · exact okO_names HOK.out y h1
      · rw [List.mem_singleton] at h1; rw [h1]; dsimp only; omega
    have hr : w4.ownsRow w.heap.size 29 2 v' (o ++ [(s, z)]).length (hcells (o ++ [(s, z)])) := by
      rw [hcells_append]
      simpa [hcells] using HOWN'.out
    exact ⟨⟨v', o ++ [(s, z)], rfl, InRow.own hr hnm, by simp; omega, hnm, fun g hg => (hr.lt g hg).1⟩, q3, by omega, HD4.out⟩
  · have hxzb : (x == 0) = false := by rw [beq_eq_false_iff_ne]; exact hxz
    by_cases hxo : x = 1
    · subst hxo
      go_wp2
      go_loopw [3, 4] (fun v n wr => ∃ (k r : Nat) (oo : Hs), n = .int .i64 (k : Int) ∧ k ≤ 31 ∧ r ≤ p + 1001 + 2 * k ∧ wr.ownsRow w.heap.size 29 2 v oo.length (hcells oo) ∧ oo.length ≤ 30 + k ∧ (∀ y ∈ oo, y.1.size ≤ 400) ∧ Drawn R oa len cap r w wr) (fun _ n _ => 31 - (intOf n).toNat)
      case atStart => exact ⟨0, q + 1, o, rfl, by omega, by omega, HROW2.out, by omega, okO_names HOK.out, HD2.out⟩
      case round =>
        obtain ⟨k, r, oo, rfl, hk, hr, hrow, hool, hnam, hd⟩ := hrel
        have HRW := hid hrow
        have HNM := hid hnam
        have HD := hid hd
        obtain ⟨ov3, cv3, rfl⟩ := row_shape hrow
        clear hrow hnam hd
        go_wp2_with fail
        refine (pick_any R oa len cap r 4 _ HD.out.1 (by omega) (by decide)).mono ?_
        rintro e w3 ⟨⟨y, rfl, hy0, hy1⟩, hd3⟩
        have HD3 : Hid (Drawn R oa len cap (r + 1) w w3) := HD.out.trans hd3
        have HRW3 := hid (row_keeps HRW.out hd3.2 hRo)
        have HZ3 := hid HD3.out.2.size
        have HRo3 : Hid (R < w3.heap.size) := hd3.1.old
        clear hd3
        have hwy : IntKind.i64.wrap (28 + y) = 28 + y := by rw [IntKind.wrap_i64]; omega
        by_cases hky : (k : Int) < 28 + y
        · go_wp2_with fail
          refine (one_any R _ 2 1 2 oa len cap (r + 1) _ ?_ (by omega) (by decide) (by decide) ?_ ?_ ?_).mono ?_
          · exact HD3.out.1.keep ((Below.refl _ _).alloc (Nat.le_refl _) _)
          · simp
          · have := HRo3.out; omega
          · refine ints_new _ _ _ _ 2 1 2 (by simp) (by rfl) ?_
            intro u hu
            simp at hu
            rcases hu with rfl | rfl <;> simp [intOk]
          rintro e w4 ⟨⟨c, rfl, hc0, hc1⟩, hd4⟩
          have HD4 : Hid (Drawn R oa len cap (r + 2) w w4) := (HD3.out.below ((Below.refl _ _).alloc (Nat.le_refl _) _)).trans hd4
          have hown4 := row_keeps (HRW3.out.alloc _) hd4.2 hRo
          have HZ4 := hid HD4.out.2.size
          clear hd4
          obtain ⟨m, hm⟩ : ∃ m : Int, m = (k : Int) * c := ⟨_, rfl⟩
          have hwm : IntKind.i64.wrap ((k : Int) * c) = m := by
            rw [hm]
            have hcc : c = 1 ∨ c = 2 := by omega
            rcases hcc with rfl | rfl
            · rw [IntKind.wrap_i64]; omega
            · rw [IntKind.wrap_i64]; omega
          clear hm
          go_wp2_with (at_builtin; refine wpList_append_own _ rfl _ _ 23 rfl w.heap.size 29 i0 (.agg #[.string ⟨#[]⟩, .int .i64 0]) 2 24 Try.underlying23 hi hz0 hz1 hz2 rfl (by decide) _ _ _ rfl (hown4.alloc _) ⟨w4.heap.size, 0, none⟩ 1 1 [.string ⟨#[122, 122]⟩, .int .i64 m] rfl rfl (cell_new2 _ _ _ _) (by simp [Value.oneCell']) (by unfold maxLen; omega) (by omega) (by have := HZ4.out; simp; omega) ?_)
          intro v' w5 hown' hgrow _
          have HD5 : Hid (Drawn R oa len cap (r + 2) w w5) := (HD4.out.below ((Below.refl _ _).alloc (Nat.le_refl _) _)).grown HR.out (hown4.alloc _) hgrow
          have HOWN' := hid hown'
          clear hown' hgrow hown4
          go_wp2
          go_roundw
          case rel =>
            refine ⟨k + 1, r + 2, oo ++ [(⟨#[122, 122]⟩, m)], by go_num, by omega, by omega, ?_, by simp; omega, ?_, HD5.out⟩
            · rw [hcells_append]
              simpa [hcells] using HOWN'.out
            · intro y hy
              rcases List.mem_append.1 hy with h1 | h1
              · exact HNM.out y h1
              · rw [List.mem_singleton] at h1; rw [h1]; show (⟨#[122, 122]⟩ : ByteArray).size ≤ 400; decide
          case measure => simp [intOf]; omega
        · go_wp2
          refine bodyPost_ret (v := .slice ov3 oo.length cv3) (by simp [results, Try.results10, go_sem]) rfl ?_
          exact ⟨⟨_, oo, rfl, InRow.own HRW3.out HNM.out, by omega, HNM.out, fun g hg => (HRW3.out.lt g hg).1⟩, r + 1, by omega, HD3.out⟩
    · have hxob : (x == 1) = false := by rw [beq_eq_false_iff_ne]; exact hxo
      go_wp2
      refine bodyPost_ret (v := .slice ov o.length cv) (by simp [results, Try.results10, go_sem]) rfl ?_
      exact ⟨⟨_, o, rfl, InRow.own HROW2.out (okO_names HOK.out), by omega, okO_names HOK.out, fun g hg => (HROW2.out.lt g hg).1⟩, q + 1, by omega, HD2.out⟩

set_option maxHeartbeats 600000 in
theorem drawJoin_any (oa : Option Addr) (len cap : Nat) (w : World) (h : CodeAt w oa len) (hc : len ≤ cap) (hm : cap ≤ maxLen) :
    Calls Try.prog 4 #[.slice oa len cap] w fun e w' => (∃ v1 o1 v2 o2, e = .returned (.tuple #[v1, v2]) ∧ InRow w' v1 o1 ∧ o1.length ≤ 70 ∧ InRow w' v2 o2 ∧ o2.length ≤ 70) ∧ Below w.heap.size w w' := by
  have HC := hid h
  clear h
  go_enter Try.func4, Try.ntmps4
  go_wp2_with fail
  refine (open_any oa len cap _ HC.out hc hm).mono ?_
  rintro e w1 ⟨rfl, ⟨l, c, hrd⟩, hb1⟩
  have HRD := hid hrd
  have HB1 := hid hb1
  clear hrd hb1
  go_wp2_with fail
  refine (anyHosts_any w.heap.size oa l c 0 _ HRD.out (by omega)).mono ?_
  rintro e w2 ⟨⟨v, o, rfl, hin, hl, hn, hg⟩, q, hq, hd⟩
  have HB2 : Hid (Below w.heap.size w w2) := hd.2.below _ _ (Nat.le_refl _) HB1.out
  have HIN := hid hin
  have HG := hid hg
  have HD := hid hd
  obtain ⟨ov, cv, rfl, _⟩ := hin
  clear hd hn hg
  go_wp2_with fail
  refine (anyHosts_any w.heap.size oa l c q _ HD.out.1 (by omega)).mono ?_
  rintro e w3 ⟨⟨v2, o2, rfl, hin2, hl2, hn2, hg2⟩, q2, hq2, hd2⟩
  have HB3 : Hid (Below w.heap.size w w3) := hd2.2.below _ _ (Nat.le_refl _) HB2.out
  have HIN3 : Hid (InRow w3 (.slice ov o.length cv) o) := HIN.out.keeps hd2.2 (fun g hg => by have := HG.out g hg; have := HRD.out.old; omega)
  have HIN2 := hid hin2
  obtain ⟨ov2, cv2, rfl, _⟩ := hin2
  clear hd2 hn2 hg2
  go_wp2
  refine bodyPost_ret (v := .tuple #[.slice ov o.length cv, .slice ov2 o2.length cv2]) (by simp [results, Try.results4, go_sem]) rfl ?_
  exact ⟨⟨_, o, _, o2, rfl, HIN3.out, hl, HIN2.out, hl2⟩, HB3.out⟩

end Go.Proofs.Ytahhjhhnjpbocac
