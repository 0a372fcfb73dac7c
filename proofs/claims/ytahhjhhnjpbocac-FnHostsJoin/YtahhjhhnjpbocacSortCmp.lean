/- DERIVED. The walk of the method compare, and that it is an order: for slices.SortFunc. -/
import Derived.Test.YtahhjhhnjpbocacHsCmp
import Derived.Test.YtahhjhhnjpbocacJoinPlain
import Derived.Test.YtahhjhhnjpbocacRowCore
import Derived.Test.YtahhjhhnjpbocacSortShelf
namespace Go.Proofs.Ytahhjhhnjpbocac
open Go.RowKit Go.Sort Go.Lib

/-- Draws and new blocks alone. -/
def Grew (W w' : World) : Prop := ∃ q os', w' = grow (W.drewN q) os'

theorem Grew.refl (W : World) : Grew W W := ⟨0, #[], by rw [grow_empty]; rfl⟩
theorem Grew.alloc {W w' : World} (h : Grew W w') (o : Obj) : Grew W (w'.alloc o) := by
  obtain ⟨q, os, rfl⟩ := h
  exact ⟨q, os ++ #[o], by rw [alloc_eq_grow, grow_grow]⟩
theorem Grew.drew {W w' : World} (h : Grew W w') : Grew W w'.drew := by
  obtain ⟨q, os, rfl⟩ := h
  exact ⟨q + 1, os, rfl⟩
theorem Grew.drewN {W w' : World} (h : Grew W w') (n : Nat) : Grew W (w'.drewN n) := by
  obtain ⟨q, os, rfl⟩ := h
  exact ⟨q + n, os, by unfold grow World.drewN; simp [Nat.add_assoc]⟩

set_option maxHeartbeats 800000 in
theorem compare_grew (s t : ByteArray) (n m : Int) (w : World) :
    Calls Try.prog 13 #[.agg #[.string s, .int .i64 n], .agg #[.string t, .int .i64 m]] w fun e w' => e = .returned (.int .i64 (cmpI s n t m)) ∧ Grew w w' := by
  rw [cmp_parts]
  obtain ⟨x, hx⟩ : ∃ x, x = cmpS s t := ⟨_, rfl⟩
  obtain ⟨y, hy⟩ : ∃ y, y = cmpN n m := ⟨_, rfl⟩
  rw [← hx, ← hy]
  obtain ⟨z, hz⟩ : ∃ z, z = if (x != 0) = true then x else y := ⟨_, rfl⟩
  rw [← hz]
  have cO : ∀ B w, w.cell? ⟨B, 0, none⟩ = some (.int .i64 x) → w.cell? ⟨B, 1, none⟩ = some (.int .i64 y) → Calls Try.prog 25 #[.slice (some ⟨B, 0, none⟩) 2 2] w fun e w' => e = .returned (.int .i64 z) ∧ w' = w := fun B w h0 h1 => by rw [hz]; exact or_any x y B w h0 h1
  have CO := hid cO
  clear cO hz
  have HX := hid hx
  have HY := hid hy
  clear hx hy
  have cS : ∀ w, Calls Try.prog 26 #[.string s, .string t] w fun e w' => e = .returned (.int .i64 x) ∧ w' = w := fun w => by rw [HX.out]; exact cmpS_any s t w
  have cN : ∀ w, Calls Try.prog 27 #[.int .i64 n, .int .i64 m] w fun e w' => e = .returned (.int .i64 y) ∧ w' = w := fun w => by rw [HY.out]; exact cmpN_any n m w
  have CS := hid cS
  have CN := hid cN
  clear cS cN
  go_enter Try.func13, Try.ntmps13
  go_wp2
  go_region_held3 (fun w' => w'.cell? ⟨w.heap.size, 0, none⟩ = some (.string s) ∧ w'.cell? ⟨w.heap.size, 1, none⟩ = some (.int .i64 n) ∧ w'.cell? ⟨w.heap.size + 1, 0, none⟩ = some (.string t) ∧ w'.cell? ⟨w.heap.size + 1, 1, none⟩ = some (.int .i64 m)) (go_keep)
    (first
      | (go_at_call 26; refine (CS.out _).mono ?_; rintro e w' ⟨rfl, rfl⟩)
      | (go_at_call 27; refine (CN.out _).mono ?_; rintro e w' ⟨rfl, rfl⟩)
      | (go_at_call 25; refine (CO.out _ _ ?_ ?_).mono ?_; simp [go_sem]; simp [go_sem]; rintro e w' ⟨rfl, rfl⟩))
  all_goals
    go_wp2
    go_ret
    refine ⟨rfl, ?_⟩
    repeat (first | exact Grew.refl _ | refine Grew.drew ?_ | refine Grew.drewN ?_ _ | refine Grew.alloc ?_ _)

/-- How two hosts compare, as SortFunc asks it. -/
def cmpH (x y : ByteArray × Int) : Int := cmpI x.1 x.2 y.1 y.2

theorem lt_cmpH (x y : ByteArray × Int) : ltOf cmpH x y = lessH x y := by
  unfold ltOf cmpH lessH
  have := cmpI_less x.1 x.2 y.1 y.2
  cases h : lessB x.1 x.2 y.1 y.2
  · rw [h] at this; simp at this ⊢; omega
  · rw [h] at this; simp at this ⊢; omega

theorem swoH : SWO (ltOf cmpH) := by
  constructor
  · intro x; rw [lt_cmpH]; exact lessH_irrefl x
  · intro x y z h1 h2
    rw [lt_cmpH] at *
    exact lessH_trans x y z h1 h2
  · intro x y z h1 h2
    rw [lt_cmpH] at *
    cases h : lessH x z
    · rfl
    · cases hyx : lessH y x
      · have e := lessH_total x y h1 hyx
        rw [e, h2] at h; cases h
      · have := lessH_trans y x z hyx h
        rw [h2] at this; cases this

def encH (x : ByteArray × Int) : List Value := [.string x.1, .int .i64 x.2]

theorem cmpLaysH (blk off size : Nat) (w : World) : CmpLays Try.prog 13 #[] encH 2 cmpH blk off size w :=
  fun _ _ _ _ x y => compare_grew x.1 y.1 x.2 y.2 _

theorem totalH (x y : ByteArray × Int) (h1 : ltOf cmpH x y = false) (h2 : ltOf cmpH y x = false) : x = y := by
  rw [lt_cmpH] at h1 h2
  exact lessH_total x y h1 h2

end Go.Proofs.Ytahhjhhnjpbocac
