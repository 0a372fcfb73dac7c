/- DERIVED. The walks of HostGet: the program's and the model's. -/
import Derived.Test.YtiobgpoedohcoaaDoorNumImpl
import Derived.Deep.RegionWith
namespace Go.Proofs.YtiobgpoedohcoaaDoor
open Go.RowKit

/-- What HostGet reads of a text: the name, the number, and whether they are a host. -/
def getName (s : ByteArray) : ByteArray := s.extract 0 (lead s.data.toList)
def getRest (s : ByteArray) : ByteArray := s.extract (lead s.data.toList) s.size
def getNum (s : ByteArray) : Int := numOf (getRest s).data.toList
def getOk (s : ByteArray) : Bool := okB (getName s) (getNum s)

def getVal (s : ByteArray) : Value := if getOk s = true then .tuple #[.agg #[.string (getName s), .int .i64 (getNum s)], .bool true] else .tuple #[.agg #[.string ByteArray.empty, .int .i64 0], .bool false]

theorem lead_le (l : List UInt8) : lead l ≤ l.length := by
  induction l with
  | nil => simp [lead]
  | cons a t ih => unfold lead; split <;> simp; exact ih

theorem getName_size (s : ByteArray) : (getName s).size = lead s.data.toList := by
  have := lead_le s.data.toList
  have hl : s.data.toList.length = s.size := by simp
  unfold getName; rw [ByteArray.size_extract]; omega

theorem number_val (s : ByteArray) (n : Int) (w : World) (h : isNum s.data.toList = true) (hn : n = numOf s.data.toList) :
    Calls Tryd.prog 18 #[.string s] w fun e w' => e = .returned (.tuple #[.int .i64 n, .bool true]) ∧ w' = w := by
  subst hn; exact number_yes s w h

set_option maxHeartbeats 600000 in
theorem implGet_core (s r : ByteArray) (n : Int) (w : World) (hs : s.size ≤ maxLen) (hr : r.size ≤ s.size) (HR : Hid (r = s.extract 0 (lead s.data.toList))) (HV : Hid (n = numOf (s.extract r.size s.size).data.toList)) :
    Calls Tryd.prog 6 #[.string s] w fun e w' => e = .returned (if okB r (n) = true then .tuple #[.agg #[.string r, .int .i64 (n)], .bool true] else .tuple #[.agg #[.string ByteArray.empty, .int .i64 0], .bool false]) ∧ Below w.heap.size w w' := by
  have hs' : s.size ≤ 2 ^ 63 - 1 := hs
  have hrm : r.size ≤ maxLen := Nat.le_trans hr hs
  have hr' : r.size ≤ 2 ^ 63 - 1 := Nat.le_trans hr hs'
  have hxs : (s.extract r.size s.size).size ≤ maxLen := by rw [ByteArray.size_extract]; exact Nat.le_trans (by omega) hs
  cases hn : isNum (s.extract r.size s.size).data.toList
  · have ho : okB r (n) = false := by
      rw [HV.out, numOf_no _ hn]; simp [okB, inB]
    rw [if_neg (by rw [ho]; decide)]
    have HN := hid hn
    clear hn ho
    go_enter Tryd.func6, Tryd.ntmps6
    go_wp2_with fail
    refine (lead_no _ _ r hs HR.out).mono ?_
    rintro e w' ⟨rfl, rfl⟩
    go_wp2_with fail
    refine (number_no _ _ hxs HN.out).mono ?_
    rintro e w' ⟨rfl, rfl⟩
    go_wp2_with fail
    refine bodyPost_ret (v := .tuple #[.agg #[.string ByteArray.empty, .int .i64 0], .bool false]) (by simp [results, Tryd.results6, go_sem]; rfl) rfl ⟨rfl, ?_⟩
    repeat (first | exact Below.refl _ _ | refine below_drewN ?_ _ | refine Below.alloc ?_ (by simp; try omega) _)
  · have HN := hid hn
    clear hn
    cases ho : okB r (n)
    · rw [if_neg (by decide)]
      go_enter Tryd.func6, Tryd.ntmps6
      go_wp2_with fail
      refine (lead_no _ _ r hs HR.out).mono ?_
      rintro e w' ⟨rfl, rfl⟩
      go_wp2_with fail
      refine (number_val _ n _ HN.out HV.out).mono ?_
      rintro e w' ⟨rfl, rfl⟩
      go_wp2_with fail
      refine (ok_below _ _ _ hrm).mono ?_
      rintro e w2 ⟨rfl, hb⟩
      have B2 : Hid (Below w.heap.size w w2) := (((Below.refl _ _).alloc (Nat.le_refl _) _).alloc (by simp) _).trans (hb.mono (by simp; omega))
      have c0 : w2.cell? ⟨w.heap.size, 0, none⟩ = some (.string { data := #[] }) := by rw [hb.cell (by simp; omega)]; simp
      have c1 : w2.cell? ⟨w.heap.size, 1, none⟩ = some (.int .i64 0) := by rw [hb.cell (by simp; omega)]; simp
      have f0 : w2.frozen? ⟨w.heap.size, 0, none⟩ = false := by rw [hb.frozen (by simp; omega)]; simp
      have f1 : w2.frozen? ⟨w.heap.size, 1, none⟩ = false := by rw [hb.frozen (by simp; omega)]; simp
      have b0 : w2.cell? ⟨w.heap.size + 1, 0, none⟩ = some (.string r) := by rw [hb.cell (by simp)]; simp
      have b1 : w2.cell? ⟨w.heap.size + 1, 1, none⟩ = some (.int .i64 (n)) := by rw [hb.cell (by simp)]; simp
      clear hb
      go_wp2
      refine bodyPost_ret (v := .tuple #[.agg #[.string ByteArray.empty, .int .i64 0], .bool false]) (by simp [results, Tryd.results6, go_sem, c0, c1]; rfl) rfl ⟨rfl, ?_⟩
      exact (B2.out.setCell (Nat.le_refl _) _).setCell (Nat.le_refl _) _
    · rw [if_pos rfl]
      go_enter Tryd.func6, Tryd.ntmps6
      go_wp2_with fail
      refine (lead_no _ _ r hs HR.out).mono ?_
      rintro e w' ⟨rfl, rfl⟩
      go_wp2_with fail
      refine (number_val _ n _ HN.out HV.out).mono ?_
      rintro e w' ⟨rfl, rfl⟩
      go_wp2_with fail
      refine (ok_below _ _ _ hrm).mono ?_
      rintro e w2 ⟨rfl, hb⟩
      have B2 : Hid (Below w.heap.size w w2) := (((Below.refl _ _).alloc (Nat.le_refl _) _).alloc (by simp) _).trans (hb.mono (by simp; omega))
      have c0 : w2.cell? ⟨w.heap.size, 0, none⟩ = some (.string { data := #[] }) := by rw [hb.cell (by simp; omega)]; simp
      have c1 : w2.cell? ⟨w.heap.size, 1, none⟩ = some (.int .i64 0) := by rw [hb.cell (by simp; omega)]; simp
      have f0 : w2.frozen? ⟨w.heap.size, 0, none⟩ = false := by rw [hb.frozen (by simp; omega)]; simp
      have f1 : w2.frozen? ⟨w.heap.size, 1, none⟩ = false := by rw [hb.frozen (by simp; omega)]; simp
      have b0 : w2.cell? ⟨w.heap.size + 1, 0, none⟩ = some (.string r) := by rw [hb.cell (by simp)]; simp
      have b1 : w2.cell? ⟨w.heap.size + 1, 1, none⟩ = some (.int .i64 (n)) := by rw [hb.cell (by simp)]; simp
      clear hb
      go_wp2
      refine bodyPost_ret (v := .tuple #[.agg #[.string r, .int .i64 (n)], .bool true]) (by simp [results, Tryd.results6, go_sem, c0, c1]) rfl ⟨rfl, ?_⟩
      exact (B2.out.setCell (Nat.le_refl _) _).setCell (Nat.le_refl _) _

theorem implGet_any (s : ByteArray) (w : World) (hs : s.size ≤ maxLen) :
    Calls Tryd.prog 6 #[.string s] w fun e w' => e = .returned (getVal s) ∧ Below w.heap.size w w' := by
  have h1 := getName_size s
  have h2 := lead_le s.data.toList
  have hl : s.data.toList.length = s.size := by simp
  have := implGet_core s (getName s) _ w hs (by omega) rfl rfl
  unfold getVal getOk getNum getRest
  rw [← h1]
  exact this

end Go.Proofs.YtiobgpoedohcoaaDoor
