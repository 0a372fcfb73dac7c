/- DERIVED. The walks over votes, further: what they come to. -/
import Derived.Test.YtgkhkogenbphfadVoteWalks
import Derived.Test.YtgkhkogenbphfadShelf
namespace Go.Proofs.Ytgkhkogenbphfad
open Go.RowKit

/-- A row of numbers of the call's own. -/
def numRow (w : World) (base : Nat) (v : Value) (V : List Int) : Prop := w.ownsRow base 3 1 v V.length (V.map (Value.int .i64))

theorem below_grown {e : TypeId} {size n base : Nat} {v : Value} {xs : List Value} {w w' : World} (h : w.ownsRow base e size v n xs) (hb : base ≤ w.heap.size) (hg : w.grownBy w' v.ownBlock) : Below base w w' :=
  (Below.refl _ _).grown hg hb (fun j hj => (h.lt j hj).1)

theorem row_below {W W' : World} {base : Nat} {e : TypeId} {size : Nat} {v : Value} {k : Nat} {xs : List Value} (h : W.ownsRow base e size v k xs) (hb : Below W.heap.size W W') : W'.ownsRow base e size v k xs := by
  refine ⟨h.1, ?_⟩
  rcases h.2 with h0 | ⟨g, cap, cur, e1, e2, h3, e3⟩
  · exact Or.inl h0
  · exact Or.inr ⟨g, cap, cur, e1, e2, by rw [hb.block g (Array.getElem?_eq_some_iff.1 h3).1]; exact h3, e3⟩

theorem row_cells {W : World} {base : Nat} {e : TypeId} {size : Nat} {v : Value} {k : Nat} {xs : List Value} (h : W.ownsRow base e size v k xs) (hk : 1 ≤ k) :
    ∃ g cp, v = .slice (some ⟨g, 0, none⟩) k cp ∧ base ≤ g ∧ g < W.heap.size ∧ k ≤ cp ∧ cp ≤ maxLen ∧ ∀ (j : Nat) x, xs[j]? = some x → W.cell? ⟨g, j, none⟩ = some x := by
  rcases h.2 with ⟨_, h0⟩ | ⟨g, cap, cur, rfl, hbg, hgb, hkc, hcm, _, htk⟩
  · omega
  · refine ⟨g, cap, rfl, hbg, (Array.getElem?_eq_some_iff.1 hgb).1, hkc, hcm, fun j x hx => ?_⟩
    have := h.cells (g := g) rfl j x hx
    by_cases e : j = 0
    · subst e; simpa [Addr.add] using this
    · simpa [Addr.add, e] using this

theorem nums_of {w : World} {base : Nat} {v : Value} {V : List Int} (h : w.ownsRow base 3 1 v V.length (V.map (Value.int .i64))) : ∃ oa cp, v = .slice oa V.length cp ∧ V.length ≤ cp ∧ cp ≤ maxLen ∧ NumsAt w oa V := by
  rcases Nat.eq_zero_or_pos V.length with h0 | h0
  · rcases h.2 with ⟨e, _⟩ | ⟨g, cap, cur, e, _, _, hk, hm, _⟩
    · exact ⟨none, 0, by rw [h0]; exact e, by omega, Nat.zero_le _, fun i hi => by omega⟩
    · exact ⟨_, cap, e, hk, hm, fun i hi => by omega⟩
  · obtain ⟨g, cp, e, _, hg, hk, hm, hc⟩ := row_cells h h0
    refine ⟨_, cp, e, hk, hm, fun i hi => ⟨g, 0, rfl, hg, ?_⟩⟩
    rw [Nat.zero_add]
    refine hc i _ ?_
    rw [List.getElem?_map, List.getElem?_eq_getElem hi]
    rfl

theorem heap_set_at (w : World) (g j : Nat) (cur : Array Value) (e : TypeId) (v : Value) (hh : w.heap[g]? = some (.cells cur e (0, 0))) : (w.setCell ⟨g, j, none⟩ v).heap[g]? = some (.cells (cur.setIfInBounds j v) e (0, 0)) := by
  have hlt := (Array.getElem?_eq_some_iff.1 hh).1
  have e0 : w.heap[g] = .cells cur e (0, 0) := by
    have := Array.getElem?_eq_getElem hlt
    rw [hh] at this
    exact (Option.some.inj this).symm
  unfold World.setCell
  simp [hlt, Array.getElem_modify, e0]

theorem row_store {w : World} {base : Nat} {e : TypeId} {g n cap : Nat} {xs : List Value} (h : w.ownsRow base e 1 (.slice (some ⟨g, 0, none⟩) n cap) n xs) (j : Nat) (v : Value) : (w.setCell ⟨g, j, none⟩ v).ownsRow base e 1 (.slice (some ⟨g, 0, none⟩) n cap) n (xs.set j v) := by
  obtain ⟨h1, h2⟩ := h
  refine ⟨by rw [List.length_set]; exact h1, ?_⟩
  rcases h2 with ⟨h0, _⟩ | ⟨g', cap', cur, hv, hg, hh, hn, hcap, hsz, htake⟩
  · cases h0
  · cases hv
    refine Or.inr ⟨g, cap, cur.setIfInBounds j v, rfl, hg, heap_set_at w g j cur e v hh, hn, hcap, by rw [Array.size_setIfInBounds]; exact hsz, ?_⟩
    rw [Array.toList_setIfInBounds, List.take_set, htake]

theorem own_free {w : World} {base g cp n : Nat} {e : TypeId} {xs : List Value} (h : w.ownsRow base e 1 (.slice (some ⟨g, 0, none⟩) n cp) n xs) (j : Nat) : w.frozen? ⟨g, j, none⟩ = false := by
  rcases h.2 with ⟨e, _⟩ | ⟨g', cap, cur, e, _, hb, hkc, _, hcur, _⟩
  · cases e
  · injection e with e1 e2 e3
    injection e1 with e1
    injection e1 with e1
    subst e1
    simp [World.frozen?, hb]

/-- Half way: the first k are known. -/
def halfL (V : List Int) (k : Nat) : List Int := (V.take k).map endI ++ V.drop k

theorem half_len (V : List Int) (k : Nat) (h : k ≤ V.length) : (halfL V k).length = V.length := by
  unfold halfL
  simp
  omega

theorem half_at (V : List Int) (k : Nat) (h : k < V.length) : (halfL V k)[k]'(by rw [half_len V k (by omega)]; exact h) = V[k] := by
  unfold halfL
  rw [List.getElem_append_right (by simp; omega)]
  simp [Nat.min_eq_left (Nat.le_of_lt h)]

theorem half_next (V : List Int) (k : Nat) (h : k < V.length) : halfL V (k + 1) = (halfL V k).set k (endI V[k]) := by
  unfold halfL
  have hl : ((V.take k).map endI).length = k := by simp; omega
  rw [List.set_append_right _ _ (by omega), hl, Nat.sub_self, List.take_succ_eq_append_getElem h, List.map_append, List.append_assoc]
  congr 1
  rw [List.drop_eq_getElem_cons h]
  rfl

theorem half_same (V : List Int) (k : Nat) (h : k < V.length) (he : endI V[k] = V[k]) : halfL V (k + 1) = halfL V k := by
  rw [half_next V k h, he]
  conv => lhs; rw [← half_at V k h]
  exact List.set_getElem_self _

theorem half_end (V : List Int) : halfL V V.length = V.map endI := by
  unfold halfL
  simp

theorem map_set (V : List Int) (k : Nat) (n : Int) : (V.set k n).map (Value.int .i64) = (V.map (Value.int .i64)).set k (.int .i64 n) := by
  rw [List.map_set]

set_option maxRecDepth 100000 in
set_option maxHeartbeats 800000 in
theorem endsOf_any (oa : Option Addr) (cap len : Nat) (V : List Int) (w : World) (hl : len = V.length) (h1 : 1 ≤ len) (hm : len ≤ 1000) (h : NumsAt w oa V) :
    Calls Try.prog 13 #[.slice oa len cap] w fun e w' => ∃ v, e = .returned v ∧ w'.ownsRow w.heap.size 3 1 v (V.map endI).length ((V.map endI).map (Value.int .i64)) ∧ Below w.heap.size w w' := by
  obtain ⟨b, off, rfl, hz1, hz2⟩ := h 0 (by omega)
  have CC : Hid (Calls Try.prog 21 #[.slice (some ⟨b, off, none⟩) len cap] w fun e w' => ∃ v', e = .returned v' ∧ w'.ownsRow w.heap.size 3 1 v' len (V.map (Value.int .i64)) ∧ Below w.heap.size w w') := by
    refine (Go.Proofs.Try.slices_Clone_int b off len cap V w (by omega) (by omega) (fun j hj => ?_)).mono ?_
    · obtain ⟨b', off', e, _, hc⟩ := h j hj
      injection e with e
      injection e with e1 e2
      subst e1 e2
      rw [hc]
      simp [List.getD, List.getElem?_eq_getElem hj]
    · rintro e w' ⟨v', e1, e2, _, e4⟩
      rw [List.take_of_length_le (by omega)] at e2
      exact ⟨v', e1, e2, e4⟩
  have HL := hid hl
  clear hz2 hz1 h hl
  go_enter Try.func13, Try.ntmps13
  go_wp2_with fail
  refine CC.out.mono ?_
  rintro e w1 ⟨v', rfl, hrow, hb⟩
  obtain ⟨g, cp, rfl, hbg, hgw, hcp, hcm, _⟩ := row_cells hrow h1
  have HROW := hid hrow
  have HB := hid hb
  clear hrow hb CC
  go_wp2
  go_loopw [10] (fun i wr => ∃ k : Nat, k ≤ len ∧ i = .int .i64 k ∧ wr.ownsRow w.heap.size 3 1 (.slice (some ⟨g, 0, none⟩) len cp) len ((halfL V k).map (Value.int .i64)) ∧ Below w.heap.size w wr) (fun i _ => len - (intOf i).toNat)
  case atStart => exact ⟨0, Nat.zero_le _, rfl, by simpa [halfL] using HROW.out, HB.out⟩
  case round =>
    obtain ⟨k, hk, rfl, hown, hb⟩ := hrel
    have HOWN := hid hown
    have HBR := hid hb
    clear hown hb
    by_cases hlt : k < len
    · have hltI : (k : Int) < (len : Int) := by omega
      have hkv : k < V.length := by rw [← HL.out]; exact hlt
      obtain ⟨g', cp', e, _, _, _, _, hcells⟩ := row_cells HOWN.out h1
      injection e with e1 e2 e3
      injection e1 with e1
      injection e1 with e1
      subst e1
      have hc : wr.cell? ⟨g, k, none⟩ = some (.int .i64 V[k]) := by
        refine hcells k _ ?_
        rw [List.getElem?_map, List.getElem?_eq_getElem (by rw [half_len V k (by omega)]; exact hkv), half_at V k hkv]
        rfl
      have hf := own_free HOWN.out k
      have HS := hid (half_next V k hkv)
      have HQ := hid (half_same V k hkv)
      obtain ⟨x, hx⟩ : ∃ x, x = V[k] := ⟨_, rfl⟩
      rw [← hx] at hc HS HQ
      clear hx hcells
      by_cases hx1 : x = -1
      · subst hx1
        go_wp2
        go_roundw
        case rel =>
          refine ⟨k + 1, by omega, by go_num, ?_, HBR.out.setCell (p := ⟨g, k, none⟩) hbg _⟩
          rw [HS.out, map_set]
          exact row_store HOWN.out k _
        case measure => simp [intOf]; omega
      · have hx2 : (x == -1) = false := by rw [beq_eq_false_iff_ne]; exact hx1
        have HE : Hid (halfL V (k + 1) = halfL V k) := HQ.out (by unfold endI; rw [if_neg hx1])
        clear hx1
        go_wp2
        go_roundw
        case rel => exact ⟨k + 1, by omega, by go_num, by rw [HE.out]; exact HOWN.out, HBR.out⟩
        case measure => simp [intOf]; omega
    · have hltI : ¬ (k : Int) < (len : Int) := by omega
      have hkl : k = len := by omega
      have HF : Hid (wr.ownsRow w.heap.size 3 1 (.slice (some ⟨g, 0, none⟩) len cp) (V.map endI).length ((V.map endI).map (Value.int .i64))) := by
        have := HOWN.out
        rw [hkl, HL.out, half_end] at this
        rw [HL.out, List.length_map]
        exact this
      clear hkl
      go_wp2
      go_ret
      exact ⟨.slice (some ⟨g, 0, none⟩) len cp, rfl, by simpa using HF.out, HBR.out⟩

set_option maxRecDepth 100000 in
set_option maxHeartbeats 800000 in
theorem countOf_any (oa : Option Addr) (cap len : Nat) (V : List Int) (n : Int) (w : World) (hl : len = V.length) (hm : len ≤ 1048576) (h : NumsAt w oa V) :
    Calls Try.prog 22 #[.slice oa len cap, .int .i64 n] w fun e w' => e = .returned (.int .i64 (V.count n : Nat)) ∧ w' = w := by
  have HV := hid h
  have HL := hid hl
  clear h hl
  go_enter Try.func22, Try.ntmps22
  go_wp2
  go_loop [5, 10] (fun m i => ∃ k : Nat, k ≤ len ∧ i = .int .i64 k ∧ m = .int .i64 ((V.take k).count n : Nat)) (fun _ i => len - (intOf i).toNat)
  case atStart => exact ⟨0, Nat.zero_le _, rfl, rfl⟩
  case round =>
    obtain ⟨k, hk, rfl, rfl⟩ := hrel
    by_cases hlt : k < len
    · have hltI : (k : Int) < (len : Int) := by omega
      have hkv : k < V.length := by rw [← HL.out]; exact hlt
      obtain ⟨b, off, rfl, _, hc⟩ := HV.out k hkv
      have HS := hid (count_take V n k hkv)
      have hle := count_le_len V n k
      obtain ⟨x, hx⟩ : ∃ x, x = V[k] := ⟨_, rfl⟩
      rw [← hx] at hc HS
      obtain ⟨m, hmm⟩ : ∃ m, m = (V.take k).count n := ⟨_, rfl⟩
      rw [← hmm] at HS hle ⊢
      have hml : m ≤ 1048576 := by have := HL.out; omega
      clear hx hmm hle
      by_cases hxn : x = n
      · have hb : (x == n) = true := by rw [hxn]; simp
        have HE : Hid ((V.take (k + 1)).count n = m + 1) := by show _ = _; rw [HS.out, if_pos hxn]
        clear hxn
        go_wp2
        go_round
        case rel => exact ⟨k + 1, by omega, by go_num, by rw [HE.out]; go_num⟩
        case measure => simp [intOf]; omega
      · have hb : (x == n) = false := by rw [beq_eq_false_iff_ne]; exact hxn
        have HE : Hid ((V.take (k + 1)).count n = m) := by show _ = _; rw [HS.out, if_neg hxn]; rfl
        clear hxn
        go_wp2
        go_round
        case rel => exact ⟨k + 1, by omega, by go_num, by rw [HE.out]⟩
        case measure => simp [intOf]; omega
    · have hltI : ¬ (k : Int) < (len : Int) := by omega
      have HE : Hid (V.take k = V) := List.take_of_length_le (by rw [← HL.out]; omega)
      go_wp2
      go_ret
      exact ⟨by rw [show V.count n = (V.take k).count n by rw [HE.out]]; rfl, rfl⟩

set_option maxRecDepth 100000 in
set_option maxHeartbeats 800000 in
theorem majority_any (oa : Option Addr) (cap len : Nat) (V : List Int) (w : World) (hl : len = V.length) (hm : len ≤ 1048576) (h : NumsAt w oa V) :
    Calls Try.prog 15 #[.slice oa len cap] w fun e w' => e = .returned (.int .i64 (mostL V)) ∧ w' = w := by
  have HV := hid h
  have HL := hid hl
  have CC : Hid (∀ (n : Int) (w' : World), w' = w → Calls Try.prog 22 #[.slice oa len cap, .int .i64 n] w' fun e w2 => e = .returned (.int .i64 (V.count n : Nat)) ∧ w2 = w') := fun n w' e => by rw [e]; exact countOf_any oa cap len V n w hl hm h
  clear h hl
  go_enter Try.func15, Try.ntmps15
  go_wp2
  go_loopw [7] (fun i wr => ∃ k : Nat, k ≤ len ∧ i = .int .i64 k ∧ Hid ((V.take k).find? (isMost V) = none) ∧ wr = w) (fun i _ => len - (intOf i).toNat)
  case atStart => exact ⟨0, Nat.zero_le _, rfl, rfl, rfl⟩
  case round =>
    obtain ⟨k, hk, rfl, HP, rfl⟩ := hrel
    by_cases hlt : k < len
    · have hltI : (k : Int) < (len : Int) := by omega
      have hkv : k < V.length := by rw [← HL.out]; exact hlt
      obtain ⟨b, off, rfl, _, hc⟩ := HV.out k hkv
      have HN := hid (find_next V (isMost V) k hkv HP.out)
      have HH := hid (find_hit V (isMost V) k hkv HP.out)
      obtain ⟨x, hx⟩ : ∃ x, x = V[k] := ⟨_, rfl⟩
      rw [← hx] at hc HN HH
      have hle := count_le_len V x V.length
      rw [List.take_length] at hle
      have HI : Hid (isMost V x = (!(x == -1) && decide (2 * V.count x > V.length))) := rfl
      have CX := hid (CC.out x)
      obtain ⟨m, hmm⟩ : ∃ m, m = V.count x := ⟨_, rfl⟩
      rw [← hmm] at hle HI CX
      have hml : m ≤ 1048576 := by have := HL.out; omega
      clear hx hmm hle
      by_cases hx1 : x = -1
      · have hb : (x != -1) = false := by rw [hx1]; rfl
        have HE := hid (HN.out (by rw [HI.out, hx1]; rfl))
        clear hx1
        go_wp2
        go_roundw
        case rel => exact ⟨k + 1, by omega, by go_num, HE, trivial⟩
        case measure => simp [intOf]; omega
      · have hb : (x != -1) = true := by rw [bne_iff_ne]; exact hx1
        by_cases hmo : 2 * (m : Int) > (len : Int)
        · have HE : Hid (mostL V = x) := by
            show _ = _
            unfold mostL
            rw [HH.out (by rw [HI.out]; simp [hx1]; have := HL.out; omega)]
          clear hx1
          go_wp2_with fail
          refine (CX.out _ rfl).mono ?_
          rintro e w' ⟨rfl, rfl⟩
          go_wp2
          go_ret
          exact ⟨by rw [HE.out]; rfl, rfl⟩
        · have HE := hid (HN.out (by rw [HI.out]; simp; intro _; have := HL.out; omega))
          clear hx1
          go_wp2_with fail
          refine (CX.out _ rfl).mono ?_
          rintro e w' ⟨rfl, rfl⟩
          go_wp2
          go_roundw
          case rel => exact ⟨k + 1, by omega, by go_num, HE, trivial⟩
          case measure => simp [intOf]; omega
    · have hltI : ¬ (k : Int) < (len : Int) := by omega
      have HE : Hid (mostL V = 123) := by
        show _ = _
        unfold mostL
        rw [find_end V (isMost V) k (by rw [← HL.out]; omega) HP.out]
      go_wp2
      go_ret
      exact ⟨by rw [HE.out]; rfl, rfl⟩

end Go.Proofs.Ytgkhkogenbphfad
