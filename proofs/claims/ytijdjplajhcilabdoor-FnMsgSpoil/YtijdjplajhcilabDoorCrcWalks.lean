/- DERIVED. The walks of Crc: the program's and the model's, exactly. -/
import Derived.Test.YtijdjplajhcilabDoorRows
import Derived.Test.YtijdjplajhcilabDoorCrcPlain
import Derived.WalkKit
import Derived.WalkSpells
import Derived.WalkLawsBesides
import Derived.Deep.LoopGhost
namespace Go.Proofs.YtijdjplajhcilabDoor
open Go.RowKit

set_option maxHeartbeats 1600000 in
theorem implCrc_any (s : ByteArray) (w : World) (hs : s.size ≤ maxLen) :
    Calls Tryd.prog 13 #[.string s] w fun e w' => e = .returned (.int .i64 (crcP s : Nat)) ∧ w' = w := by
  unfold maxLen at hs
  go_enter Tryd.func13, Tryd.ntmps13
  go_wp2
  go_loopg [3, 8] s.size (fun gh v i wr => ∃ (x k : Nat), v = .int .u32 (x : Int) ∧ i = .int .i64 (k : Int) ∧ k + gh = s.size ∧ x < 4294967296 ∧ wr = w ∧ Aside (crcL (s.data.toList.drop k) x = crcL s.data.toList 4294967295))
  case atStart => exact ⟨4294967295, 0, rfl, rfl, by omega, by omega, rfl, rfl⟩
  case round =>
    obtain ⟨x, k, rfl, rfl, hk, hx, rfl, HC⟩ := hrel
    cases gk with
    | zero =>
      have hlt : ¬ ((k : Int) < (s.size : Int)) := by omega
      have hX : bits .xor .u32 4294967295 (x : Int) = (crcP s : Nat) := by
        have e : x = crcL s.data.toList 4294967295 := by rw [← HC.out, crcL_end s k x (by omega)]
        have := u32_xor_nat 4294967295 x (by omega) hx
        rw [show ((4294967295 : Nat) : Int) = 4294967295 from rfl] at this
        rw [this, crcP, ← e, Nat.xor_comm]
      have HP := crcP_lt s
      obtain ⟨z, hz⟩ : ∃ z, z = crcP s := ⟨_, rfl⟩
      rw [← hz] at hX HP
      have HZ : Hid (z = crcP s) := hz
      clear hz
      go_wp2
      go_ret
      refine ⟨congrArg (fun n => Ending.returned (.int .i64 n)) ?_, rfl⟩
      have hM : IntKind.u32.max = 4294967295 := rfl
      rw [hM, hX, ← HZ.out, IntWalk.wrap64_in _ (by omega)]
    | succ g =>
      have hlt : ((k : Int) < (s.size : Int)) := by omega
      have hb : ((s[k].toNat : Int) % 4294967296) = ((s[k].toNat : Nat) : Int) := by have := byte_lt32 s[k]; omega
      have hX := u32_xor_nat x s[k].toNat hx (byte_lt32 _)
      obtain ⟨y, hy⟩ : ∃ y, y = x ^^^ s[k].toNat := ⟨_, rfl⟩
      have hyl : y < 4294967296 := by rw [hy]; exact xor_lt hx (byte_lt32 _)
      have HN : Aside (crcL (s.data.toList.drop (k + 1)) (bsteps 8 y) = crcL s.data.toList 4294967295) := by
        show _ = _
        rw [hy, ← crcL_drop s k x (by omega)]; exact HC.out
      rw [← hy] at hX
      clear hy HC
      go_wp2
      go_loopg [3, 17] 8 (fun gh v i wy => ∃ (z j : Nat), v = .int .u32 (z : Int) ∧ i = .int .i64 (j : Int) ∧ j + gh = 8 ∧ z < 4294967296 ∧ wy = wr ∧ Aside (bsteps gh z = bsteps 8 y))
      case atStart => exact ⟨y, 0, rfl, rfl, by omega, hyl, rfl, rfl⟩
      case round =>
        obtain ⟨z, j, rfl, rfl, hj, hz, rfl, HB⟩ := hrel
        cases gk with
        | zero =>
          have hlt2 : ¬ ((j : Int) < 8) := by omega
          have HE : Aside (crcL (s.data.toList.drop (k + 1)) z = crcL s.data.toList 4294967295) := by
            show _ = _
            rw [← HN.out, ← HB.out]; rfl
          go_wp2
          go_roundg g
          case measure => omega
          case rel => exact ⟨z, k + 1, rfl, by go_num, by omega, hz, rfl, HE⟩
        | succ g2 =>
          have hlt2 : ((j : Int) < 8) := by omega
          have HS : Aside (bsteps g2 (bstep z) = bsteps 8 y) := HB.out
          have hbl := bstep_lt hz
          by_cases hodd : z % 2 = 1
          · have hA : bits .and .u32 (z : Int) 1 = 1 := by
              have := u32_and_nat z 1 hz (by omega)
              rw [nat_mask1, hodd] at this
              exact this
            have hX2 : bits .xor .u32 ((z : Int) / 2) 3988292384 = ((bstep z : Nat) : Int) := by
              have := u32_xor_nat (z / 2) 3988292384 (by omega) (by omega)
              unfold bstep
              rw [if_pos hodd, ← this]
              simp
            obtain ⟨b, hb2⟩ : ∃ b, b = bstep z := ⟨_, rfl⟩
            rw [← hb2] at hX2 HS hbl
            clear hb2 HB
            go_wp2
            go_roundg g2
            case measure => omega
            case rel => exact ⟨b, j + 1, rfl, by go_num, by omega, hbl, rfl, HS⟩
          · have hA : bits .and .u32 (z : Int) 1 = 0 := by
              have := u32_and_nat z 1 hz (by omega)
              rw [nat_mask1, show z % 2 = 0 by omega] at this
              exact this
            have HZ2 : Aside (bstep z = z / 2) := by show _ = _; unfold bstep; rw [if_neg hodd]
            clear HB
            go_wp2
            go_roundg g2
            case measure => omega
            case rel => exact ⟨bstep z, j + 1, by rw [HZ2.out]; simp, by go_num, by omega, hbl, rfl, HS⟩

set_option maxHeartbeats 1600000 in
theorem specL9Crc_any (s : ByteArray) (w : World) (hs : s.size ≤ maxLen) :
    Calls Tryd.prog 40 #[.string s] w fun e w' => e = .returned (.int .i64 (crcP s : Nat)) ∧ w' = w := by
  unfold maxLen at hs
  go_enter Tryd.func40, Tryd.ntmps40
  go_wp2
  go_loopg [3, 4] s.size (fun gh v i wr => ∃ (x k : Nat), v = .int .i64 (x : Int) ∧ i = .int .i64 (k : Int) ∧ k + gh = s.size ∧ x < 4294967296 ∧ wr = w ∧ Aside (crcL (s.data.toList.drop k) x = crcL s.data.toList 4294967295))
  case atStart => exact ⟨4294967295, 0, rfl, rfl, by omega, by omega, rfl, rfl⟩
  case round =>
    obtain ⟨x, k, rfl, rfl, hk, hx, rfl, HC⟩ := hrel
    cases gk with
    | zero =>
      have hlt : ¬ ((k : Int) < (s.size : Int)) := by omega
      have hX : bits .xor .i64 (x : Int) 4294967295 = (crcP s : Nat) := by
        have e : x = crcL s.data.toList 4294967295 := by rw [← HC.out, crcL_end s k x (by omega)]
        have := i64_xor32 hx (show 4294967295 < 4294967296 by omega)
        rw [show ((4294967295 : Nat) : Int) = 4294967295 from rfl] at this
        rw [this, crcP, ← e]
      have HP := crcP_lt s
      obtain ⟨z, hz⟩ : ∃ z, z = crcP s := ⟨_, rfl⟩
      rw [← hz] at hX HP
      have HZ : Hid (z = crcP s) := hz
      clear hz
      go_wp2
      go_ret
      exact ⟨congrArg (fun n => Ending.returned (.int .i64 (n : Nat))) HZ.out, rfl⟩
    | succ g =>
      have hlt : ((k : Int) < (s.size : Int)) := by omega
      have hX := i64_xor32 hx (byte_lt32 s[k])
      have hW : wrap64 ((s[k].toNat : Nat) : Int) = ((s[k].toNat : Nat) : Int) := IntWalk.wrap64_in _ (by have := byte_lt32 s[k]; omega)
      obtain ⟨y, hy⟩ : ∃ y, y = x ^^^ s[k].toNat := ⟨_, rfl⟩
      have hyl : y < 4294967296 := by rw [hy]; exact xor_lt hx (byte_lt32 _)
      have HN : Aside (crcL (s.data.toList.drop (k + 1)) (bsteps 8 y) = crcL s.data.toList 4294967295) := by
        show _ = _
        rw [hy, ← crcL_drop s k x (by omega)]; exact HC.out
      rw [← hy] at hX
      clear hy HC
      go_wp2
      go_loopg [3, 5] 8 (fun gh v i wy => ∃ (z j : Nat), v = .int .i64 (z : Int) ∧ i = .int .i64 (j : Int) ∧ j + gh = 8 ∧ z < 4294967296 ∧ wy = wr ∧ Aside (bsteps gh z = bsteps 8 y))
      case atStart => exact ⟨y, 0, rfl, rfl, by omega, hyl, rfl, rfl⟩
      case round =>
        obtain ⟨z, j, rfl, rfl, hj, hz, rfl, HB⟩ := hrel
        cases gk with
        | zero =>
          have hlt2 : ¬ ((j : Int) < 8) := by omega
          have HE : Aside (crcL (s.data.toList.drop (k + 1)) z = crcL s.data.toList 4294967295) := by
            show _ = _
            rw [← HN.out, ← HB.out]; rfl
          go_wp2
          go_roundg g
          case measure => omega
          case rel => exact ⟨z, k + 1, rfl, by go_num, by omega, hz, rfl, HE⟩
        | succ g2 =>
          have hlt2 : ((j : Int) < 8) := by omega
          have HS : Aside (bsteps g2 (bstep z) = bsteps 8 y) := HB.out
          have hbl := bstep_lt hz
          by_cases hodd : z % 2 = 1
          · have hA : (z : Int) % 2 = 1 := by omega
            have hX2 : bits .xor .i64 ((z : Int) / 2) 3988292384 = ((bstep z : Nat) : Int) := by
              have := i64_xor32 (a := z / 2) (b := 3988292384) (by omega) (by omega)
              unfold bstep
              rw [if_pos hodd, ← this]
              simp
            obtain ⟨b, hb2⟩ : ∃ b, b = bstep z := ⟨_, rfl⟩
            rw [← hb2] at hX2 HS hbl
            clear hb2 HB
            go_wp2
            go_roundg g2
            case measure => omega
            case rel => exact ⟨b, j + 1, rfl, by go_num, by omega, hbl, rfl, HS⟩
          · have hA : (z : Int) % 2 = 0 := by omega
            have HZ2 : Aside (bstep z = z / 2) := by show _ = _; unfold bstep; rw [if_neg hodd]
            clear HB
            go_wp2
            go_roundg g2
            case measure => omega
            case rel => exact ⟨bstep z, j + 1, by rw [HZ2.out]; simp, by go_num, by omega, hbl, rfl, HS⟩


end Go.Proofs.YtijdjplajhcilabDoor
