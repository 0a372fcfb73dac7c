/- DERIVED. The walks of join and takeSign. -/
import Derived.Test.YtaabcbpbijkmnabMathSign
namespace Go.Proofs.Ytaabcbpbijkmnab
open Go.RowKit

/-- A sign, as a value. -/
def signV (t : Bool) (c : UInt8) (F : Nat) : Value := .agg #[.int .u8 (c.toNat : Int), .bool t, .func (.func F) #[] #[]]

theorem sign_enters (c : UInt8) (hc : c = 43 ∨ c = 45 ∨ c = 42 ∨ c = 47 ∨ c = 37) (args : Array Value) (W : World) : (callFunc (signFn c) args).run Try.prog W = .ok (.enter (signFn c) args) W := by
  rcases hc with rfl | rfl | rfl | rfl | rfl <;> kernel_rfl

set_option maxRecDepth 100000 in
set_option maxHeartbeats 1600000 in
theorem join_any (R : Nat) (s : ByteArray) (p o : Nat) (ov : Value) (rk t : Bool) (c : UInt8) (a b : Int) (w : World) (h : MAt w R s p o ov rk) (ha : -999999 ≤ a ∧ a ≤ 999999) (hb : -999999 ≤ b ∧ b ≤ 999999) (hc : c = 43 ∨ c = 45 ∨ c = 42 ∨ c = 47 ∨ c = 37) :
    Calls Try.prog 33 #[.pointer (some ⟨R, 0, none⟩), signV t c (signFn c), .int .i64 a, .int .i64 b] w fun e w' => e = endE (joinP rk c a b) ∧ Below w.heap.size w w' := by
  have c4 := h.reck
  have hold := h.old
  have CW := hid (fun W => work_any c a b W ha hb hc)
  have hent := sign_enters c hc
  have hbd := opP_bd c a b ha hb
  have hJ : joinP rk c a b = if rk = false then .ok 0 else match workP c a b with
      | .error e => .error e
      | .ok z => if z < -999999 ∨ 999999 < z then .error 3 else .ok z := by
    unfold joinP workP
    cases rk
    · rfl
    · by_cases h1 : (c = 47 ∨ c = 37) ∧ b = 0
      · rw [if_pos h1, if_pos h1]
      · rw [if_neg h1, if_neg h1]
  obtain ⟨F, hF⟩ : ∃ F, F = signFn c := ⟨_, rfl⟩
  rw [← hF] at CW hent ⊢
  have c5 : (w.alloc (.cells #[.int .u8 (c.toNat : Int), .bool t, .func (.func F) #[] #[]] 71)).cell? ⟨R, 4, none⟩ = some (.bool rk) := by
    rw [((Below.refl w.heap.size w).alloc (Nat.le_refl _) _).cell (p := ⟨R, 4, none⟩) hold]; exact c4
  have HAL : Hid (Below w.heap.size w (w.alloc (.cells #[.int .u8 (c.toNat : Int), .bool t, .func (.func F) #[] #[]] 71))) := (Below.refl _ _).alloc (Nat.le_refl _) _
  rw [hJ]
  clear hJ hF h ha hb hc c4
  unfold signV
  cases rk
  · rw [if_pos rfl]
    go_enter Try.func33, Try.ntmps33
    go_wp2
    go_ret
    exact ⟨rfl, HAL.out⟩
  · rw [if_neg (by decide)]
    have hz : ∀ z, workP c a b = .ok z → z = opP c a b := fun z h => by
      unfold workP at h; split at h
      · cases h
      · injection h with h; exact h.symm
    cases hw : workP c a b with
    | error e1 =>
      rw [hw] at CW
      go_enter Try.func33, Try.ntmps33
      go_wp2_with fail
      refine (CW.out _).mono ?_
      rintro e w1 ⟨rfl, rfl⟩
      exact ⟨rfl, rfl, HAL.out⟩
    | ok z =>
      rw [hw] at CW
      have hz' := hz z hw
      rw [← hz'] at hbd
      have CZ : Hid (∀ W, Calls Try.prog F #[.int .i64 a, .int .i64 b] W fun e w' => e = .returned (.int .i64 z) ∧ w' = W) := CW
      clear hz hw hz' CW
      by_cases h1 : z < -999999
      · dsimp only
        rw [if_pos (Or.inl h1)]
        go_enter Try.func33, Try.ntmps33
        go_wp2_with fail
        refine (CZ.out _).mono ?_
        rintro e w1 ⟨rfl, rfl⟩
        go_wp2
        exact ⟨rfl, rfl, HAL.out⟩
      · by_cases h2 : 999999 < z
        · dsimp only
          rw [if_pos (Or.inr h2)]
          go_enter Try.func33, Try.ntmps33
          go_wp2_with fail
          refine (CZ.out _).mono ?_
          rintro e w1 ⟨rfl, rfl⟩
          go_wp2
          exact ⟨rfl, rfl, HAL.out⟩
        · dsimp only
          rw [if_neg (by omega)]
          go_enter Try.func33, Try.ntmps33
          go_wp2_with fail
          refine (CZ.out _).mono ?_
          rintro e w1 ⟨rfl, rfl⟩
          go_wp2
          go_ret
          exact ⟨rfl, HAL.out⟩

end Go.Proofs.Ytaabcbpbijkmnab
