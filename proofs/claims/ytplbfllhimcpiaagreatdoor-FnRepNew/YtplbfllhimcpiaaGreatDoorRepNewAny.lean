/- DERIVED. RepNew of the model and of the program. -/
import Derived.Test.YtplbfllhimcpiaaGreatDoorRepTools
import Derived.Laws.CopyOwn
namespace Go.Proofs.YtplbfllhimcpiaaGreatDoor
open Go.RowKit

theorem infoInt : (Tryz.prog.info? 3).map (fun i => (i.zero, i.size, i.bytes)) = some (some (.int .i64 0), 1, 8) := by kernel_rfl

theorem row_shape {base : Nat} {e : TypeId} {size n : Nat} {v : Value} {xs : List Value} {w : World} (h : w.ownsRow base e size v n xs) : ∃ oa cp, v = .slice oa n cp := by
  rcases h.2 with ⟨e1, e2⟩ | ⟨g, cap, cur, e1, _⟩
  · subst e2; exact ⟨_, _, e1⟩
  · exact ⟨_, _, e1⟩

theorem row_base {w : World} {base b' : Nat} {e : TypeId} {size n : Nat} {v : Value} {xs : List Value} (h : w.ownsRow b' e size v n xs) (hb : base ≤ b') : w.ownsRow base e size v n xs := by
  refine ⟨h.1, ?_⟩
  rcases h.2 with h0 | ⟨g, cap, cur, e1, e2, h3⟩
  · exact Or.inl h0
  · exact Or.inr ⟨g, cap, cur, e1, Nat.le_trans hb e2, h3⟩

theorem cell_new1 (w : World) (u : Value) (e : TypeId) : ∀ (j : Nat) x, [u][j]? = some x → (w.alloc (.cells #[u] e)).cell? ((⟨w.heap.size, 0, none⟩ : Addr).add j) = some x := by
  intro j x hj
  match j, hj with
  | 0, hj => simp at hj; subst hj; simp [Addr.add]
  | n + 1, hj => simp at hj

theorem rep_any (n : Int) (w : World) :
    Calls Tryz.prog 14 #[.int .i64 n] w fun e w' => e = .returned (.bool (inB n 10 12)) ∧ w' = w := by
  by_cases h1 : n ≥ 10
  · by_cases h2 : n < 13
    · have HI : Hid (inB n 10 12 = true) := by show _ = _; simp [inB]; omega
      go_enter Tryz.func14, Tryz.ntmps14
      go_wp2
      go_ret
      exact ⟨by rw [HI.out]; first | rfl | (simp; done) | (simp; omega), rfl⟩
    · have HI : Hid (inB n 10 12 = false) := by show _ = _; simp [inB]; omega
      go_enter Tryz.func14, Tryz.ntmps14
      go_wp2
      go_ret
      exact ⟨by rw [HI.out]; first | rfl | (simp; done) | (simp; omega), rfl⟩
  · have HI : Hid (inB n 10 12 = false) := by show _ = _; simp [inB]; omega
    go_enter Tryz.func14, Tryz.ntmps14
    go_wp2
    go_ret
    exact ⟨by rw [HI.out]; first | rfl | (simp; done) | (simp; omega), rfl⟩

theorem many_any (n : Int) (w : World) :
    Calls Tryz.prog 15 #[.int .i64 n] w fun e w' => e = .returned (.bool (inB n 1 3)) ∧ w' = w := by
  by_cases h1 : n ≥ 1
  · by_cases h2 : n ≤ 3
    · have HI : Hid (inB n 1 3 = true) := by show _ = _; simp [inB]; omega
      go_enter Tryz.func15, Tryz.ntmps15
      go_wp2
      go_ret
      exact ⟨by rw [HI.out]; first | rfl | (simp; done) | (simp; omega), rfl⟩
    · have HI : Hid (inB n 1 3 = false) := by show _ = _; simp [inB]; omega
      go_enter Tryz.func15, Tryz.ntmps15
      go_wp2
      go_ret
      exact ⟨by rw [HI.out]; first | rfl | (simp; done) | (simp; omega), rfl⟩
  · have HI : Hid (inB n 1 3 = false) := by show _ = _; simp [inB]; omega
    go_enter Tryz.func15, Tryz.ntmps15
    go_wp2
    go_ret
    exact ⟨by rw [HI.out]; first | rfl | (simp; done) | (simp; omega), rfl⟩

theorem l9Rep_any (n : Int) (w : World) :
    Calls Tryz.prog 19 #[.int .i64 n] w fun e w' => e = .returned (.bool (inB n 10 12)) ∧ w' = w := by
  go_enter Tryz.func19, Tryz.ntmps19
  go_wp2_with fail
  refine (in_any _ _ _ _).mono ?_
  rintro e w' ⟨rfl, rfl⟩
  go_wp2
  go_ret
  exact ⟨rfl, rfl⟩

/-- So many agents that told nothing. -/
def noneL (n : Nat) : List Int := List.replicate n (-1)

set_option maxRecDepth 100000 in
set_option maxHeartbeats 800000 in
theorem l12None_any (n : Nat) (w : World) (hn : n ≤ 3) :
    Calls Tryz.prog 29 #[.int .i64 (n : Int)] w fun e w' => ∃ v, e = .returned v ∧ w'.ownsRow w.heap.size 3 1 v n ((noneL n).map (Value.int .i64)) ∧ Below w.heap.size w w' := by
  obtain ⟨i0, hi, hz0, hz1, hz2⟩ := info_parts infoInt
  go_enter Tryz.func29, Tryz.ntmps29
  go_wp2
  go_loopw [3, 4] (fun v i wr => Below w.heap.size w wr ∧ ∃ k : Nat, k ≤ n ∧ i = .int .i64 k ∧ wr.ownsRow w.heap.size 3 1 v k ((noneL k).map (Value.int .i64))) (fun _ i _ => n - (intOf i).toNat)
  case atStart =>
    refine ⟨(Below.refl _ _).alloc (Nat.le_refl _) _, 0, Nat.zero_le _, rfl, ?_⟩
    exact World.ownsRow_made _ #[] 0 (Nat.le_refl _) (by decide) rfl
  case round =>
    obtain ⟨hB, k, hk, rfl, hown⟩ := hrel
    have HB := hid hB
    have HS := hid hB.size
    clear hB
    obtain ⟨oa, cp, rfl⟩ := row_shape hown
    have HOWN := hid hown
    by_cases hlt : k < n
    · have hltI : (k : Int) < (n : Int) := by omega
      go_wp2_with (at_builtin; refine wpList_append_own _ rfl _ _ 26 rfl w.heap.size 3 i0 (.int .i64 0) 1 8 Tryz.underlying26 hi hz0 hz1 hz2 rfl (by decide) _ _ _ rfl (hown.alloc _) ⟨wr.heap.size, 0, none⟩ 1 1 [.int .i64 (-1)] rfl rfl (cell_new1 _ _ _) (by simp [Value.oneCell']) (by unfold maxLen; omega) (by omega) (by have := HS.out; simp; omega) ?_)
      intro v' w1 hown' hgrow _
      have HB1 : Hid (Below w.heap.size w w1) := (HB.out.alloc HS.out _).trans (below_grown (hown.alloc _) (by have := HS.out; simp; omega) hgrow)
      have HOWN' := hid hown'
      clear hown' hgrow hown
      go_wp2
      go_roundw
      case rel =>
        refine ⟨HB1.out, k + 1, by omega, by go_num, ?_⟩
        have e : (noneL (k + 1)).map (Value.int .i64) = (noneL k).map (Value.int .i64) ++ [.int .i64 (-1)] := by
          unfold noneL
          rw [List.replicate_succ', List.map_append]
          rfl
        rw [e]
        exact HOWN'.out
      case measure => simp [intOf]; omega
    · have hltI : ¬ (k : Int) < (n : Int) := by omega
      have hkn : k = n := by omega
      subst hkn
      clear hown
      go_wp2
      refine bodyPost_ret (v := .slice oa k cp) (by simp [results, Tryz.results29, go_sem]) rfl ⟨_, rfl, HOWN.out, HB.out⟩

set_option maxHeartbeats 800000 in
theorem mul64_one (n : Nat) (w : World) (hn : n ≤ 3) :
    Calls Tryz.prog 86 #[.int .u64 1, .int .u64 (n : Int)] w fun e w' => e = .returned (.tuple #[.int .u64 0, .int .u64 (n : Int)]) ∧ w' = w := by
  have h : n = 0 ∨ n = 1 ∨ n = 2 ∨ n = 3 := by omega
  rcases h with rfl | rfl | rfl | rfl
  all_goals
    go_enter Tryz.func86, Tryz.ntmps86
    go_wp2
    go_ret2
    exact ⟨rfl, rfl⟩

set_option maxHeartbeats 800000 in
theorem mul_one (n : Nat) (w : World) (hn : n ≤ 3) :
    Calls Tryz.prog 51 #[.int .u64 1, .int .u64 (n : Int)] w fun e w' => e = .returned (.tuple #[.int .u64 0, .int .u64 (n : Int)]) ∧ w' = w := by
  have h : n = 0 ∨ n = 1 ∨ n = 2 ∨ n = 3 := by omega
  rcases h with rfl | rfl | rfl | rfl
  all_goals
    go_enter Tryz.func51, Tryz.ntmps51
    go_wp2_with fail
    refine (mul64_one _ _ (by omega)).mono ?_
    rintro e w' ⟨rfl, rfl⟩
    go_wp2
    go_ret2
    exact ⟨rfl, rfl⟩

/-- Half way: so many are told. -/
def filled (n k : Nat) : List Value := List.replicate k (.int .i64 (-1)) ++ List.replicate (n - k) (.int .i64 0)

theorem filled_len (n k : Nat) (h : k ≤ n) : (filled n k).length = n := by
  unfold filled
  simp
  omega

theorem filled_next (n k : Nat) (h : k < n) : splice (filled n k) k [.int .i64 (-1)] = filled n (k + 1) := by
  have hl : (List.replicate k (Value.int .i64 (-1))).length = k := by simp
  have e1 : (filled n k).take k = List.replicate k (Value.int .i64 (-1)) := by
    unfold filled
    rw [List.take_append_of_le_length (by omega), List.take_of_length_le (by omega)]
  have e2 : (filled n k).drop (k + 1) = List.replicate (n - (k + 1)) (Value.int .i64 0) := by
    unfold filled
    rw [List.drop_append, hl, List.drop_of_length_le (by omega), List.nil_append, List.drop_replicate]
    congr 1
    omega
  show (filled n k).take k ++ ([Value.int .i64 (-1)] ++ (filled n k).drop (k + 1)) = _
  rw [e1, e2]
  unfold filled
  rw [List.replicate_succ', List.append_assoc]

theorem filled_all (n : Nat) : filled n n = (noneL n).map (Value.int .i64) := by
  unfold filled noneL
  simp

set_option maxRecDepth 100000 in
set_option maxHeartbeats 1600000 in
theorem repeat_any (g n : Nat) (w : World) (h1 : 1 ≤ n) (h3 : n ≤ 3) (hc : w.cell? ⟨g, 0, none⟩ = some (.int .i64 (-1))) :
    Calls Tryz.prog 28 #[.slice (some ⟨g, 0, none⟩) 1 1, .int .i64 (n : Int)] w fun e w' => ∃ v, e = .returned v ∧ w'.ownsRow w.heap.size 3 1 v n ((noneL n).map (Value.int .i64)) ∧ Below w.heap.size w w' := by
  have hgw : g < w.heap.size := World.block_lt_of_cell? w _ hc
  have hmk := make_ints n (by omega) w
  have hA : madeCells #[Value.int .i64 0] n = (List.replicate n (Value.int .i64 0)).toArray := by rw [← made_list]
  have hB0 : Below w.heap.size w (w.alloc (.cells (List.replicate n (Value.int .i64 0)).toArray 3)) := (Below.refl _ _).alloc (Nat.le_refl _) _
  rw [hA] at hmk
  have HG : Hid ((w.alloc (.cells (List.replicate n (Value.int .i64 0)).toArray 3)).heap[w.heap.size]? = some (.cells (List.replicate n (Value.int .i64 0)).toArray 3 (0, 0))) := block_alloc _ _
  have HC : Hid ((w.alloc (.cells (List.replicate n (Value.int .i64 0)).toArray 3)).cell? ⟨g, 0, none⟩ = some (.int .i64 (-1))) := by rw [hB0.cell (p := ⟨g, 0, none⟩) hgw]; exact hc
  have HB := hid hB0
  obtain ⟨A, hAA⟩ : ∃ A, A = (List.replicate n (Value.int .i64 0)).toArray := ⟨_, rfl⟩
  have HA := hid hAA
  rw [← hAA] at hmk HG HC HB
  obtain ⟨w2, HG2, HB2, hcp⟩ : ∃ w2 : World, Hid (w2.heap[w.heap.size]? = some (.cells (filled n 1).toArray 3 (0, 0))) ∧ Hid (Below w.heap.size w w2) ∧ (Builtin.copy_ #[26, 26] 3 #[.slice (some ⟨w.heap.size, 0, none⟩) n n, .slice (some ⟨g, 0, none⟩) 1 1]).run Tryz.prog (w.alloc (.cells A 3)) = .ok (.int .i64 1) w2 := by
    have hr := run_copy_row (P := Tryz.prog) (w.alloc (.cells A 3)) 26 26 3 3 w.heap.size 0 n n ⟨g, 0, none⟩ 1 1 A 3 [.int .i64 (-1)] Tryz.underlying26 (by kernel_rfl) HG.out (by rw [show Nat.min 1 n = 1 by simp [Nat.min_def]; omega]; rfl) (fun j v hj => by (match j, hj with | 0, hj => (simp at hj; subst hj; simpa [Addr.add] using HC.out) | m + 1, hj => simp at hj)) (by rw [HA.out]; simp; omega) (by simp [Value.oneCell'])
    refine ⟨_, hid ?_, hid ?_, hr⟩
    · rw [setRow_heap _ _ _ _ _ _ HG.out, HA.out]
      have e := filled_next n 0 (by omega)
      unfold splice at e
      rw [← e]
      simp [filled]
    · exact below_setRow HB.out (Nat.le_refl _) _
  have CM := hid (fun W => mul_one n W h3)
  have hn0 : ¬ (n : Int) < 0 := by omega
  have hbig : ¬ (9223372036854775807 : Int) < (n : Int) := by omega
  have hw1 : IntKind.u64.wrap (n : Int) = (n : Int) := by rw [IntKind.wrap_u64]; omega
  have hw2 : IntKind.i64.wrap (n : Int) = (n : Int) := by rw [IntKind.wrap_i64]; omega
  clear hA hAA hc
  go_enter Tryz.func28, Tryz.ntmps28
  go_wp2_with fail
  refine (CM.out _).mono ?_
  rintro e w' ⟨rfl, hw⟩
  rw [hw]
  clear hw
  clear w'
  go_wp2
  clear hmk hcp
  go_loopw [8] (fun k wr => Below w.heap.size w wr ∧ ∃ j : Nat, 1 ≤ j ∧ j ≤ n ∧ k = .int .i64 j ∧ Hid (wr.heap[w.heap.size]? = some (.cells (filled n j).toArray 3 (0, 0)))) (fun k _ => n - (intOf k).toNat)
  case atStart => exact ⟨HB2.out, 1, Nat.le_refl _, h1, rfl, HG2⟩
  case round =>
    obtain ⟨hB, j, hj1, hjn, rfl, HGJ⟩ := hrel
    have HBJ := hid hB
    clear hB
    by_cases hlt : j < n
    · have hltI : (j : Int) < (n : Int) := by omega
      have hj0 : (0 : Int) ≤ (j : Int) := by omega
      have hjle : (j : Int) ≤ (n : Int) := by omega
      have hwj : IntKind.i64.wrap ((j : Int) + 1) = (j : Int) + 1 := by rw [IntKind.wrap_i64]; omega
      have HNE : Hid (¬ n = j) := by show ¬ n = j; omega
      have HMIN : Hid (Nat.min j (n - j) = 1) := by
        show Nat.min j (n - j) = 1
        rw [show Nat.min j (n - j) = min j (n - j) from rfl]
        omega
      have HL := hid (filled_len n j hjn)
      have HNX := hid (filled_next n j hlt)
      have HBD : ∀ q, Hid (Below w.heap.size w (wr.drewN q)) := fun q => below_drewN HBJ.out q
      have HC0 : ∀ (q i : Nat), i < j → (wr.drewN q).cell? ⟨w.heap.size, i, none⟩ = some (.int .i64 (-1)) := fun q i hi => by
        rw [World.cell?_drewN, cellAt HGJ.out i]
        have : i < (List.replicate j (Value.int .i64 (-1))).length := by simpa using hi
        simp [filled, List.getElem?_append_left, hi]
      go_wp2_with fail
      go_region_law (refine step_copy_splice rfl (.tmp 41) (.tmp 44) 26 26 rfl 3 Tryz.underlying26 (by kernel_rfl) (some ⟨w.heap.size, j, none⟩) (some ⟨w.heap.size, 0, none⟩) (n - j) (n - j) j n (by simp [Act.eval, Act.put, HNE.out]) (by simp [Act.eval, Act.put]) w.heap.size j (filled n j) 3 HGJ.out [.int .i64 (-1)] (by rw [HMIN.out]; rfl) (fun _ => ⟨rfl, ⟨w.heap.size, 0, none⟩, rfl, fun i v hi => by (match i, hi with | 0, hi => (simp at hi; subst hi; exact HC0 _ 0 (by omega)) | m + 1, hi => simp at hi)⟩) (by rw [HL.out]; simp; omega) (by simp [Value.oneCell']) w.heap.size w (HBD _).out (Nat.le_refl _) ?_; intro w4 hg4 hb4)
      have HG4 : Hid (w4.heap[w.heap.size]? = some (.cells (filled n (j + 1)).toArray 3 (0, 0))) := by
        have := hg4.out
        rw [HNX.out] at this
        exact this
      have HB4 := hid hb4
      clear hg4 hb4
      go_wp2
      go_roundw
      case rel => exact ⟨HB4.out, j + 1, by omega, by omega, by go_num, HG4⟩
      case measure => simp [intOf]; omega
    · have hltI : ¬ (j : Int) < (n : Int) := by omega
      have hjn' : j = n := by omega
      subst hjn'
      have HF : Hid (wr.ownsRow w.heap.size 3 1 (.slice (some ⟨w.heap.size, 0, none⟩) j j) j ((noneL j).map (Value.int .i64))) := by
        refine ⟨by simp [noneL], Or.inr ⟨w.heap.size, j, (filled j j).toArray, rfl, Nat.le_refl _, HGJ.out, Nat.le_refl _, ?_, ?_, ?_⟩⟩
        · have : (1048576 : Nat) ≤ maxLen := by decide
          omega
        · simp [filled_len]
        · rw [filled_all]
          simp [noneL]
      go_wp2
      refine bodyPost_ret (v := .slice (some ⟨w.heap.size, 0, none⟩) j j) (by simp [results, Tryz.results28, go_sem]) rfl ⟨_, rfl, HF.out, HBJ.out⟩

set_option maxRecDepth 100000 in
set_option maxHeartbeats 800000 in
theorem told_any (n : Nat) (w : World) (h1 : 1 ≤ n) (h3 : n ≤ 3) :
    Calls Tryz.prog 16 #[.int .i64 (n : Int)] w fun e w' => ∃ v, e = .returned v ∧ w'.ownsRow w.heap.size 3 1 v n ((noneL n).map (Value.int .i64)) ∧ Below w.heap.size w w' := by
  have hb0 : Below w.heap.size w (w.alloc (.cells #[.int .i64 (-1)] 3)) := (Below.refl _ _).alloc (Nat.le_refl _) _
  have HB0 := hid hb0
  have HC : Hid ((w.alloc (.cells #[.int .i64 (-1)] 3)).cell? ⟨w.heap.size, 0, none⟩ = some (.int .i64 (-1))) := by show _ = _; simp
  clear hb0
  go_enter Tryz.func16, Tryz.ntmps16
  go_wp2_with fail
  refine (repeat_any w.heap.size n _ h1 h3 HC.out).mono ?_
  rintro e w1 ⟨v, rfl, hr, hb⟩
  have HR := hid (row_base hr HB0.out.size)
  have HB := hid (HB0.out.trans (hb.mono HB0.out.size))
  obtain ⟨oa, cp, rfl⟩ := row_shape hr
  clear hr hb
  go_wp2
  refine bodyPost_ret (v := .slice oa n cp) (by simp [results, Tryz.results16, go_sem]) rfl ⟨_, rfl, HR.out, HB.out⟩

theorem row_past {w w' : World} {base : Nat} {v : Value} {n : Nat} {xs : List Value} {g : Nat} (h : w.ownsRow base 3 1 v n xs) (hg : w.grownBy w' (some g)) (hlt : g < base) : w'.ownsRow base 3 1 v n xs := by
  refine h.kept hg ?_
  cases e : v.ownBlock with
  | none => exact Or.inl rfl
  | some k =>
    right
    intro c
    injection c with c
    have := (h.lt k e).1
    omega

set_option maxRecDepth 100000 in
set_option maxHeartbeats 1600000 in
theorem l12New_any (id : Int) (n : Nat) (w : World) (h3 : n ≤ 3) :
    Calls Tryz.prog 21 #[.int .i64 id, .int .i64 (n : Int)] w fun e w' => ∃ v, e = .returned (.agg #[.int .i64 id, .string ⟨#[]⟩, .bool true, .int .i64 0, .slice none 0 0, .slice none 0 0, .int .i64 0, .slice none 0 0, .int .i64 0, .int .i64 0, .int .i64 0, v, .slice none 0 0, .slice none 0 0]) ∧ w'.ownsRow w.heap.size 3 1 v n ((noneL n).map (Value.int .i64)) ∧ Below w.heap.size w w' := by
  have HB0 : Hid (Below w.heap.size w (w.alloc (.cells #[.int .i64 0, .string ⟨#[]⟩, .bool false, .int .i64 0, .slice none 0 0, .slice none 0 0, .int .i64 0, .slice none 0 0, .int .i64 0, .int .i64 0, .int .i64 0, .slice none 0 0, .slice none 0 0, .slice none 0 0] 28))) := (Below.refl _ _).alloc (Nat.le_refl _) _
  go_enter Tryz.func21, Tryz.ntmps21
  go_wp2_with fail
  refine (l12None_any n _ h3).mono ?_
  rintro e w1 ⟨v, rfl, hr, hb⟩
  have HX1 : Hid (w1.heap[w.heap.size]? = some (.cells #[.int .i64 0, .string ⟨#[]⟩, .bool false, .int .i64 0, .slice none 0 0, .slice none 0 0, .int .i64 0, .slice none 0 0, .int .i64 0, .int .i64 0, .int .i64 0, .slice none 0 0, .slice none 0 0, .slice none 0 0] 28 (0, 0))) := block_below (block_alloc _ _) hb
  have HB1 := hid (HB0.out.trans (hb.mono HB0.out.size))
  have HR := hid hr
  obtain ⟨oa, cp, rfl⟩ := row_shape hr
  clear hr hb
  have z0 : w1.cell? ⟨w.heap.size, 0, none⟩ = some (.int .i64 0) := by rw [cellAt HX1.out 0]; rfl
  have fz0 : w1.frozen? ⟨w.heap.size, 0, none⟩ = false := by simp [World.frozen?, HX1.out]
  have z1 : w1.cell? ⟨w.heap.size, 1, none⟩ = some (.string ⟨#[]⟩) := by rw [cellAt HX1.out 1]; rfl
  have fz1 : w1.frozen? ⟨w.heap.size, 1, none⟩ = false := by simp [World.frozen?, HX1.out]
  have z2 : w1.cell? ⟨w.heap.size, 2, none⟩ = some (.bool false) := by rw [cellAt HX1.out 2]; rfl
  have fz2 : w1.frozen? ⟨w.heap.size, 2, none⟩ = false := by simp [World.frozen?, HX1.out]
  have z3 : w1.cell? ⟨w.heap.size, 3, none⟩ = some (.int .i64 0) := by rw [cellAt HX1.out 3]; rfl
  have fz3 : w1.frozen? ⟨w.heap.size, 3, none⟩ = false := by simp [World.frozen?, HX1.out]
  have z4 : w1.cell? ⟨w.heap.size, 4, none⟩ = some (.slice none 0 0) := by rw [cellAt HX1.out 4]; rfl
  have fz4 : w1.frozen? ⟨w.heap.size, 4, none⟩ = false := by simp [World.frozen?, HX1.out]
  have z5 : w1.cell? ⟨w.heap.size, 5, none⟩ = some (.slice none 0 0) := by rw [cellAt HX1.out 5]; rfl
  have fz5 : w1.frozen? ⟨w.heap.size, 5, none⟩ = false := by simp [World.frozen?, HX1.out]
  have z6 : w1.cell? ⟨w.heap.size, 6, none⟩ = some (.int .i64 0) := by rw [cellAt HX1.out 6]; rfl
  have fz6 : w1.frozen? ⟨w.heap.size, 6, none⟩ = false := by simp [World.frozen?, HX1.out]
  have z7 : w1.cell? ⟨w.heap.size, 7, none⟩ = some (.slice none 0 0) := by rw [cellAt HX1.out 7]; rfl
  have fz7 : w1.frozen? ⟨w.heap.size, 7, none⟩ = false := by simp [World.frozen?, HX1.out]
  have z8 : w1.cell? ⟨w.heap.size, 8, none⟩ = some (.int .i64 0) := by rw [cellAt HX1.out 8]; rfl
  have fz8 : w1.frozen? ⟨w.heap.size, 8, none⟩ = false := by simp [World.frozen?, HX1.out]
  have z9 : w1.cell? ⟨w.heap.size, 9, none⟩ = some (.int .i64 0) := by rw [cellAt HX1.out 9]; rfl
  have fz9 : w1.frozen? ⟨w.heap.size, 9, none⟩ = false := by simp [World.frozen?, HX1.out]
  have z10 : w1.cell? ⟨w.heap.size, 10, none⟩ = some (.int .i64 0) := by rw [cellAt HX1.out 10]; rfl
  have fz10 : w1.frozen? ⟨w.heap.size, 10, none⟩ = false := by simp [World.frozen?, HX1.out]
  have z11 : w1.cell? ⟨w.heap.size, 11, none⟩ = some (.slice none 0 0) := by rw [cellAt HX1.out 11]; rfl
  have fz11 : w1.frozen? ⟨w.heap.size, 11, none⟩ = false := by simp [World.frozen?, HX1.out]
  have z12 : w1.cell? ⟨w.heap.size, 12, none⟩ = some (.slice none 0 0) := by rw [cellAt HX1.out 12]; rfl
  have fz12 : w1.frozen? ⟨w.heap.size, 12, none⟩ = false := by simp [World.frozen?, HX1.out]
  have z13 : w1.cell? ⟨w.heap.size, 13, none⟩ = some (.slice none 0 0) := by rw [cellAt HX1.out 13]; rfl
  have fz13 : w1.frozen? ⟨w.heap.size, 13, none⟩ = false := by simp [World.frozen?, HX1.out]
  go_wp2
  refine bodyPost_ret (v := .agg #[.int .i64 id, .string ⟨#[]⟩, .bool true, .int .i64 0, .slice none 0 0, .slice none 0 0, .int .i64 0, .slice none 0 0, .int .i64 0, .int .i64 0, .int .i64 0, .slice oa n cp, .slice none 0 0, .slice none 0 0]) (by simp [results, Tryz.results21, go_sem, z0, z1, z2, z3, z4, z5, z6, z7, z8, z9, z10, z11, z12, z13]) rfl ?_
  have hg := (((((((((((((grown_set w1 w.heap.size 0 (.int .i64 id)).trans (grown_set _ w.heap.size 1 (.string ⟨#[]⟩))).trans (grown_set _ w.heap.size 2 (.bool true))).trans (grown_set _ w.heap.size 3 (.int .i64 0))).trans (grown_set _ w.heap.size 4 (.slice none 0 0))).trans (grown_set _ w.heap.size 5 (.slice none 0 0))).trans (grown_set _ w.heap.size 6 (.int .i64 0))).trans (grown_set _ w.heap.size 7 (.slice none 0 0))).trans (grown_set _ w.heap.size 8 (.int .i64 0))).trans (grown_set _ w.heap.size 9 (.int .i64 0))).trans (grown_set _ w.heap.size 10 (.int .i64 0))).trans (grown_set _ w.heap.size 11 (.slice oa n cp))).trans (grown_set _ w.heap.size 12 (.slice none 0 0))).trans (grown_set _ w.heap.size 13 (.slice none 0 0))
  refine ⟨.slice oa n cp, rfl, row_base (row_past HR.out hg (by simp)) (by simp), HB1.out.grown hg HB1.out.size (fun k hk => by injection hk with hk; omega)⟩

set_option maxRecDepth 100000 in
set_option maxHeartbeats 1600000 in
theorem specNew_yes (id : Int) (n : Nat) (w : World) (hi : inB id 10 12 = true) (h1 : 1 ≤ n) (h3 : n ≤ 3) :
    Calls Tryz.prog 7 #[.int .i64 id, .int .i64 (n : Int)] w fun e w' => ∃ v, e = .returned (.agg #[.int .i64 id, .string ⟨#[]⟩, .bool true, .int .i64 0, .slice none 0 0, .slice none 0 0, .int .i64 0, .slice none 0 0, .int .i64 0, .int .i64 0, .int .i64 0, v, .slice none 0 0, .slice none 0 0]) ∧ w'.ownsRow w.heap.size 3 1 v n ((noneL n).map (Value.int .i64)) ∧ Below w.heap.size w w' := by
  have HB0 : Hid (Below w.heap.size w (w.alloc (.cells #[.int .i64 0, .string ⟨#[]⟩, .bool false, .int .i64 0, .slice none 0 0, .slice none 0 0, .int .i64 0, .slice none 0 0, .int .i64 0, .int .i64 0, .int .i64 0, .slice none 0 0, .slice none 0 0, .slice none 0 0] 28))) := (Below.refl _ _).alloc (Nat.le_refl _) _
  have C1 : Hid (∀ w, Calls Tryz.prog 19 #[.int .i64 id] w fun e w' => e = .returned (.bool true) ∧ w' = w) := fun w => by rw [← hi]; exact l9Rep_any id w
  have C2 : Hid (∀ w, Calls Tryz.prog 20 #[.int .i64 (n : Int), .int .i64 1, .int .i64 3] w fun e w' => e = .returned (.bool true) ∧ w' = w) := fun w => by
    have e : inB (n : Int) 1 3 = true := by simp [inB]; omega
    rw [← e]
    exact in_any _ _ _ w
  clear hi
  go_enter Tryz.func7, Tryz.ntmps7
  go_wp2_with fail
  refine (C1.out _).mono ?_
  rintro e w' ⟨rfl, hw⟩
  rw [hw]
  clear hw
  clear w'
  go_wp2_with fail
  refine (C2.out _).mono ?_
  rintro e w' ⟨rfl, hw⟩
  rw [hw]
  clear hw
  clear w'
  go_wp2_with fail
  refine (l12New_any id n _ h3).mono ?_
  rintro e w1 ⟨v, rfl, hr, hb⟩
  have HX1 : Hid (w1.heap[w.heap.size]? = some (.cells #[.int .i64 0, .string ⟨#[]⟩, .bool false, .int .i64 0, .slice none 0 0, .slice none 0 0, .int .i64 0, .slice none 0 0, .int .i64 0, .int .i64 0, .int .i64 0, .slice none 0 0, .slice none 0 0, .slice none 0 0] 28 (0, 0))) := block_below (block_alloc _ _) hb
  have HB1 := hid (HB0.out.trans (hb.mono HB0.out.size))
  have HR := hid hr
  obtain ⟨oa, cp, rfl⟩ := row_shape hr
  clear hr hb
  have z0 : w1.cell? ⟨w.heap.size, 0, none⟩ = some (.int .i64 0) := by rw [cellAt HX1.out 0]; rfl
  have fz0 : w1.frozen? ⟨w.heap.size, 0, none⟩ = false := by simp [World.frozen?, HX1.out]
  have z1 : w1.cell? ⟨w.heap.size, 1, none⟩ = some (.string ⟨#[]⟩) := by rw [cellAt HX1.out 1]; rfl
  have fz1 : w1.frozen? ⟨w.heap.size, 1, none⟩ = false := by simp [World.frozen?, HX1.out]
  have z2 : w1.cell? ⟨w.heap.size, 2, none⟩ = some (.bool false) := by rw [cellAt HX1.out 2]; rfl
  have fz2 : w1.frozen? ⟨w.heap.size, 2, none⟩ = false := by simp [World.frozen?, HX1.out]
  have z3 : w1.cell? ⟨w.heap.size, 3, none⟩ = some (.int .i64 0) := by rw [cellAt HX1.out 3]; rfl
  have fz3 : w1.frozen? ⟨w.heap.size, 3, none⟩ = false := by simp [World.frozen?, HX1.out]
  have z4 : w1.cell? ⟨w.heap.size, 4, none⟩ = some (.slice none 0 0) := by rw [cellAt HX1.out 4]; rfl
  have fz4 : w1.frozen? ⟨w.heap.size, 4, none⟩ = false := by simp [World.frozen?, HX1.out]
  have z5 : w1.cell? ⟨w.heap.size, 5, none⟩ = some (.slice none 0 0) := by rw [cellAt HX1.out 5]; rfl
  have fz5 : w1.frozen? ⟨w.heap.size, 5, none⟩ = false := by simp [World.frozen?, HX1.out]
  have z6 : w1.cell? ⟨w.heap.size, 6, none⟩ = some (.int .i64 0) := by rw [cellAt HX1.out 6]; rfl
  have fz6 : w1.frozen? ⟨w.heap.size, 6, none⟩ = false := by simp [World.frozen?, HX1.out]
  have z7 : w1.cell? ⟨w.heap.size, 7, none⟩ = some (.slice none 0 0) := by rw [cellAt HX1.out 7]; rfl
  have fz7 : w1.frozen? ⟨w.heap.size, 7, none⟩ = false := by simp [World.frozen?, HX1.out]
  have z8 : w1.cell? ⟨w.heap.size, 8, none⟩ = some (.int .i64 0) := by rw [cellAt HX1.out 8]; rfl
  have fz8 : w1.frozen? ⟨w.heap.size, 8, none⟩ = false := by simp [World.frozen?, HX1.out]
  have z9 : w1.cell? ⟨w.heap.size, 9, none⟩ = some (.int .i64 0) := by rw [cellAt HX1.out 9]; rfl
  have fz9 : w1.frozen? ⟨w.heap.size, 9, none⟩ = false := by simp [World.frozen?, HX1.out]
  have z10 : w1.cell? ⟨w.heap.size, 10, none⟩ = some (.int .i64 0) := by rw [cellAt HX1.out 10]; rfl
  have fz10 : w1.frozen? ⟨w.heap.size, 10, none⟩ = false := by simp [World.frozen?, HX1.out]
  have z11 : w1.cell? ⟨w.heap.size, 11, none⟩ = some (.slice none 0 0) := by rw [cellAt HX1.out 11]; rfl
  have fz11 : w1.frozen? ⟨w.heap.size, 11, none⟩ = false := by simp [World.frozen?, HX1.out]
  have z12 : w1.cell? ⟨w.heap.size, 12, none⟩ = some (.slice none 0 0) := by rw [cellAt HX1.out 12]; rfl
  have fz12 : w1.frozen? ⟨w.heap.size, 12, none⟩ = false := by simp [World.frozen?, HX1.out]
  have z13 : w1.cell? ⟨w.heap.size, 13, none⟩ = some (.slice none 0 0) := by rw [cellAt HX1.out 13]; rfl
  have fz13 : w1.frozen? ⟨w.heap.size, 13, none⟩ = false := by simp [World.frozen?, HX1.out]
  go_wp2
  refine bodyPost_ret (v := .agg #[.int .i64 id, .string ⟨#[]⟩, .bool true, .int .i64 0, .slice none 0 0, .slice none 0 0, .int .i64 0, .slice none 0 0, .int .i64 0, .int .i64 0, .int .i64 0, .slice oa n cp, .slice none 0 0, .slice none 0 0]) (by simp [results, Tryz.results7, go_sem, z0, z1, z2, z3, z4, z5, z6, z7, z8, z9, z10, z11, z12, z13]) rfl ?_
  have hg := (((((((((((((grown_set w1 w.heap.size 0 (.int .i64 id)).trans (grown_set _ w.heap.size 1 (.string ⟨#[]⟩))).trans (grown_set _ w.heap.size 2 (.bool true))).trans (grown_set _ w.heap.size 3 (.int .i64 0))).trans (grown_set _ w.heap.size 4 (.slice none 0 0))).trans (grown_set _ w.heap.size 5 (.slice none 0 0))).trans (grown_set _ w.heap.size 6 (.int .i64 0))).trans (grown_set _ w.heap.size 7 (.slice none 0 0))).trans (grown_set _ w.heap.size 8 (.int .i64 0))).trans (grown_set _ w.heap.size 9 (.int .i64 0))).trans (grown_set _ w.heap.size 10 (.int .i64 0))).trans (grown_set _ w.heap.size 11 (.slice oa n cp))).trans (grown_set _ w.heap.size 12 (.slice none 0 0))).trans (grown_set _ w.heap.size 13 (.slice none 0 0))
  refine ⟨.slice oa n cp, rfl, row_base (row_past HR.out hg (by simp)) (by simp), HB1.out.grown hg HB1.out.size (fun k hk => by injection hk with hk; omega)⟩

set_option maxRecDepth 100000 in
set_option maxHeartbeats 1600000 in
theorem implNew_yes (id : Int) (n : Nat) (w : World) (hi : inB id 10 12 = true) (h1 : 1 ≤ n) (h3 : n ≤ 3) :
    Calls Tryz.prog 5 #[.int .i64 id, .int .i64 (n : Int)] w fun e w' => ∃ v, e = .returned (.agg #[.int .i64 id, .string ⟨#[]⟩, .bool true, .int .i64 0, .slice none 0 0, .slice none 0 0, .int .i64 0, .slice none 0 0, .int .i64 0, .int .i64 0, .int .i64 0, v, .slice none 0 0, .slice none 0 0]) ∧ w'.ownsRow w.heap.size 3 1 v n ((noneL n).map (Value.int .i64)) ∧ Below w.heap.size w w' := by
  have HB0 : Hid (Below w.heap.size w (w.alloc (.cells #[.int .i64 0, .string ⟨#[]⟩, .bool false, .int .i64 0, .slice none 0 0, .slice none 0 0, .int .i64 0, .slice none 0 0, .int .i64 0, .int .i64 0, .int .i64 0, .slice none 0 0, .slice none 0 0, .slice none 0 0] 28))) := (Below.refl _ _).alloc (Nat.le_refl _) _
  have C1 : Hid (∀ w, Calls Tryz.prog 14 #[.int .i64 id] w fun e w' => e = .returned (.bool true) ∧ w' = w) := fun w => by rw [← hi]; exact rep_any id w
  have C2 : Hid (∀ w, Calls Tryz.prog 15 #[.int .i64 (n : Int)] w fun e w' => e = .returned (.bool true) ∧ w' = w) := fun w => by
    have e : inB (n : Int) 1 3 = true := by simp [inB]; omega
    rw [← e]
    exact many_any _ w
  clear hi
  go_enter Tryz.func5, Tryz.ntmps5
  go_wp2_with fail
  refine (C1.out _).mono ?_
  rintro e w' ⟨rfl, hw⟩
  rw [hw]
  clear hw
  clear w'
  go_wp2_with fail
  refine (C2.out _).mono ?_
  rintro e w' ⟨rfl, hw⟩
  rw [hw]
  clear hw
  clear w'
  go_wp2_with fail
  refine (told_any n _ h1 h3).mono ?_
  rintro e w1 ⟨v, rfl, hr, hb⟩
  have HX1 : Hid (w1.heap[w.heap.size]? = some (.cells #[.int .i64 0, .string ⟨#[]⟩, .bool false, .int .i64 0, .slice none 0 0, .slice none 0 0, .int .i64 0, .slice none 0 0, .int .i64 0, .int .i64 0, .int .i64 0, .slice none 0 0, .slice none 0 0, .slice none 0 0] 28 (0, 0))) := block_below (block_alloc _ _) hb
  have HB1 := hid (HB0.out.trans (hb.mono HB0.out.size))
  have HR := hid hr
  obtain ⟨oa, cp, rfl⟩ := row_shape hr
  clear hr hb
  have z0 : w1.cell? ⟨w.heap.size, 0, none⟩ = some (.int .i64 0) := by rw [cellAt HX1.out 0]; rfl
  have fz0 : w1.frozen? ⟨w.heap.size, 0, none⟩ = false := by simp [World.frozen?, HX1.out]
  have z1 : w1.cell? ⟨w.heap.size, 1, none⟩ = some (.string ⟨#[]⟩) := by rw [cellAt HX1.out 1]; rfl
  have fz1 : w1.frozen? ⟨w.heap.size, 1, none⟩ = false := by simp [World.frozen?, HX1.out]
  have z2 : w1.cell? ⟨w.heap.size, 2, none⟩ = some (.bool false) := by rw [cellAt HX1.out 2]; rfl
  have fz2 : w1.frozen? ⟨w.heap.size, 2, none⟩ = false := by simp [World.frozen?, HX1.out]
  have z3 : w1.cell? ⟨w.heap.size, 3, none⟩ = some (.int .i64 0) := by rw [cellAt HX1.out 3]; rfl
  have fz3 : w1.frozen? ⟨w.heap.size, 3, none⟩ = false := by simp [World.frozen?, HX1.out]
  have z4 : w1.cell? ⟨w.heap.size, 4, none⟩ = some (.slice none 0 0) := by rw [cellAt HX1.out 4]; rfl
  have fz4 : w1.frozen? ⟨w.heap.size, 4, none⟩ = false := by simp [World.frozen?, HX1.out]
  have z5 : w1.cell? ⟨w.heap.size, 5, none⟩ = some (.slice none 0 0) := by rw [cellAt HX1.out 5]; rfl
  have fz5 : w1.frozen? ⟨w.heap.size, 5, none⟩ = false := by simp [World.frozen?, HX1.out]
  have z6 : w1.cell? ⟨w.heap.size, 6, none⟩ = some (.int .i64 0) := by rw [cellAt HX1.out 6]; rfl
  have fz6 : w1.frozen? ⟨w.heap.size, 6, none⟩ = false := by simp [World.frozen?, HX1.out]
  have z7 : w1.cell? ⟨w.heap.size, 7, none⟩ = some (.slice none 0 0) := by rw [cellAt HX1.out 7]; rfl
  have fz7 : w1.frozen? ⟨w.heap.size, 7, none⟩ = false := by simp [World.frozen?, HX1.out]
  have z8 : w1.cell? ⟨w.heap.size, 8, none⟩ = some (.int .i64 0) := by rw [cellAt HX1.out 8]; rfl
  have fz8 : w1.frozen? ⟨w.heap.size, 8, none⟩ = false := by simp [World.frozen?, HX1.out]
  have z9 : w1.cell? ⟨w.heap.size, 9, none⟩ = some (.int .i64 0) := by rw [cellAt HX1.out 9]; rfl
  have fz9 : w1.frozen? ⟨w.heap.size, 9, none⟩ = false := by simp [World.frozen?, HX1.out]
  have z10 : w1.cell? ⟨w.heap.size, 10, none⟩ = some (.int .i64 0) := by rw [cellAt HX1.out 10]; rfl
  have fz10 : w1.frozen? ⟨w.heap.size, 10, none⟩ = false := by simp [World.frozen?, HX1.out]
  have z11 : w1.cell? ⟨w.heap.size, 11, none⟩ = some (.slice none 0 0) := by rw [cellAt HX1.out 11]; rfl
  have fz11 : w1.frozen? ⟨w.heap.size, 11, none⟩ = false := by simp [World.frozen?, HX1.out]
  have z12 : w1.cell? ⟨w.heap.size, 12, none⟩ = some (.slice none 0 0) := by rw [cellAt HX1.out 12]; rfl
  have fz12 : w1.frozen? ⟨w.heap.size, 12, none⟩ = false := by simp [World.frozen?, HX1.out]
  have z13 : w1.cell? ⟨w.heap.size, 13, none⟩ = some (.slice none 0 0) := by rw [cellAt HX1.out 13]; rfl
  have fz13 : w1.frozen? ⟨w.heap.size, 13, none⟩ = false := by simp [World.frozen?, HX1.out]
  go_wp2
  refine bodyPost_ret (v := .agg #[.int .i64 id, .string ⟨#[]⟩, .bool true, .int .i64 0, .slice none 0 0, .slice none 0 0, .int .i64 0, .slice none 0 0, .int .i64 0, .int .i64 0, .int .i64 0, .slice oa n cp, .slice none 0 0, .slice none 0 0]) (by simp [results, Tryz.results5, go_sem, z0, z1, z2, z3, z4, z5, z6, z7, z8, z9, z10, z11, z12, z13]) rfl ?_
  have hg := (((((((((((((grown_set w1 w.heap.size 0 (.int .i64 id)).trans (grown_set _ w.heap.size 1 (.string ⟨#[]⟩))).trans (grown_set _ w.heap.size 2 (.bool true))).trans (grown_set _ w.heap.size 3 (.int .i64 0))).trans (grown_set _ w.heap.size 4 (.slice none 0 0))).trans (grown_set _ w.heap.size 5 (.slice none 0 0))).trans (grown_set _ w.heap.size 6 (.int .i64 0))).trans (grown_set _ w.heap.size 7 (.slice none 0 0))).trans (grown_set _ w.heap.size 8 (.int .i64 0))).trans (grown_set _ w.heap.size 9 (.int .i64 0))).trans (grown_set _ w.heap.size 10 (.int .i64 0))).trans (grown_set _ w.heap.size 11 (.slice oa n cp))).trans (grown_set _ w.heap.size 12 (.slice none 0 0))).trans (grown_set _ w.heap.size 13 (.slice none 0 0))
  refine ⟨.slice oa n cp, rfl, row_base (row_past HR.out hg (by simp)) (by simp), HB1.out.grown hg HB1.out.size (fun k hk => by injection hk with hk; omega)⟩

set_option maxRecDepth 100000 in
set_option maxHeartbeats 1600000 in
theorem specNew_no (id many : Int) (w : World) (h : inB id 10 12 = false ∨ inB many 1 3 = false) :
    Calls Tryz.prog 7 #[.int .i64 id, .int .i64 many] w fun e w' => e = .returned (.agg #[.int .i64 0, .string ⟨#[]⟩, .bool false, .int .i64 0, .slice none 0 0, .slice none 0 0, .int .i64 0, .slice none 0 0, .int .i64 0, .int .i64 0, .int .i64 0, .slice none 0 0, .slice none 0 0, .slice none 0 0]) ∧ Below w.heap.size w w' := by
  have HB0 : Hid (Below w.heap.size w (w.alloc (.cells #[.int .i64 0, .string ⟨#[]⟩, .bool false, .int .i64 0, .slice none 0 0, .slice none 0 0, .int .i64 0, .slice none 0 0, .int .i64 0, .int .i64 0, .int .i64 0, .slice none 0 0, .slice none 0 0, .slice none 0 0] 28))) := (Below.refl _ _).alloc (Nat.le_refl _) _
  obtain ⟨b, hb⟩ : ∃ b, b = inB many 1 3 := ⟨_, rfl⟩
  have C2 : Hid (∀ w, Calls Tryz.prog 20 #[.int .i64 many, .int .i64 1, .int .i64 3] w fun e w' => e = .returned (.bool b) ∧ w' = w) := fun w => by rw [hb]; exact in_any _ _ _ w
  cases hi : inB id 10 12 with
  | false =>
    have C1 : Hid (∀ w, Calls Tryz.prog 19 #[.int .i64 id] w fun e w' => e = .returned (.bool false) ∧ w' = w) := fun w => by rw [← hi]; exact l9Rep_any id w
    clear hi hb h
    go_enter Tryz.func7, Tryz.ntmps7
    go_wp2_with fail
    refine (C1.out _).mono ?_
    rintro e w' ⟨rfl, hw⟩
    rw [hw]
    clear hw
    clear w'
    go_wp2
    refine bodyPost_ret (results_cell_row Tryz.results7 _ _ w.heap.size 28 _ _ _ rfl (block_alloc _ _) Tryz.underlying28 rfl (by kernel_rfl)) rfl ?_
    exact ⟨rfl, HB0.out⟩
  | true =>
    have hb' : b = false := by
      rcases h with h | h
      · rw [hi] at h; cases h
      · rw [hb]; exact h
    subst hb'
    have C1 : Hid (∀ w, Calls Tryz.prog 19 #[.int .i64 id] w fun e w' => e = .returned (.bool true) ∧ w' = w) := fun w => by rw [← hi]; exact l9Rep_any id w
    clear hi hb h
    go_enter Tryz.func7, Tryz.ntmps7
    go_wp2_with fail
    refine (C1.out _).mono ?_
    rintro e w' ⟨rfl, hw⟩
    rw [hw]
    clear hw
    clear w'
    go_wp2_with fail
    refine (C2.out _).mono ?_
    rintro e w' ⟨rfl, hw⟩
    rw [hw]
    clear hw
    clear w'
    go_wp2
    refine bodyPost_ret (results_cell_row Tryz.results7 _ _ w.heap.size 28 _ _ _ rfl (block_alloc _ _) Tryz.underlying28 rfl (by kernel_rfl)) rfl ?_
    exact ⟨rfl, HB0.out⟩

set_option maxRecDepth 100000 in
set_option maxHeartbeats 1600000 in
theorem implNew_no (id many : Int) (w : World) (h : inB id 10 12 = false ∨ inB many 1 3 = false) :
    Calls Tryz.prog 5 #[.int .i64 id, .int .i64 many] w fun e w' => e = .returned (.agg #[.int .i64 0, .string ⟨#[]⟩, .bool false, .int .i64 0, .slice none 0 0, .slice none 0 0, .int .i64 0, .slice none 0 0, .int .i64 0, .int .i64 0, .int .i64 0, .slice none 0 0, .slice none 0 0, .slice none 0 0]) ∧ Below w.heap.size w w' := by
  have HB0 : Hid (Below w.heap.size w (w.alloc (.cells #[.int .i64 0, .string ⟨#[]⟩, .bool false, .int .i64 0, .slice none 0 0, .slice none 0 0, .int .i64 0, .slice none 0 0, .int .i64 0, .int .i64 0, .int .i64 0, .slice none 0 0, .slice none 0 0, .slice none 0 0] 28))) := (Below.refl _ _).alloc (Nat.le_refl _) _
  obtain ⟨b, hb⟩ : ∃ b, b = inB many 1 3 := ⟨_, rfl⟩
  have C2 : Hid (∀ w, Calls Tryz.prog 15 #[.int .i64 many] w fun e w' => e = .returned (.bool b) ∧ w' = w) := fun w => by rw [hb]; exact many_any _ w
  cases hi : inB id 10 12 with
  | false =>
    have C1 : Hid (∀ w, Calls Tryz.prog 14 #[.int .i64 id] w fun e w' => e = .returned (.bool false) ∧ w' = w) := fun w => by rw [← hi]; exact rep_any id w
    clear hi hb h
    go_enter Tryz.func5, Tryz.ntmps5
    go_wp2_with fail
    refine (C1.out _).mono ?_
    rintro e w' ⟨rfl, hw⟩
    rw [hw]
    clear hw
    clear w'
    go_wp2
    refine bodyPost_ret (results_cell_row Tryz.results5 _ _ w.heap.size 28 _ _ _ rfl (block_alloc _ _) Tryz.underlying28 rfl (by kernel_rfl)) rfl ?_
    exact ⟨rfl, HB0.out⟩
  | true =>
    have hb' : b = false := by
      rcases h with h | h
      · rw [hi] at h; cases h
      · rw [hb]; exact h
    subst hb'
    have C1 : Hid (∀ w, Calls Tryz.prog 14 #[.int .i64 id] w fun e w' => e = .returned (.bool true) ∧ w' = w) := fun w => by rw [← hi]; exact rep_any id w
    clear hi hb h
    go_enter Tryz.func5, Tryz.ntmps5
    go_wp2_with fail
    refine (C1.out _).mono ?_
    rintro e w' ⟨rfl, hw⟩
    rw [hw]
    clear hw
    clear w'
    go_wp2_with fail
    refine (C2.out _).mono ?_
    rintro e w' ⟨rfl, hw⟩
    rw [hw]
    clear hw
    clear w'
    go_wp2
    refine bodyPost_ret (results_cell_row Tryz.results5 _ _ w.heap.size 28 _ _ _ rfl (block_alloc _ _) Tryz.underlying28 rfl (by kernel_rfl)) rfl ?_
    exact ⟨rfl, HB0.out⟩

end Go.Proofs.YtplbfllhimcpiaaGreatDoor
