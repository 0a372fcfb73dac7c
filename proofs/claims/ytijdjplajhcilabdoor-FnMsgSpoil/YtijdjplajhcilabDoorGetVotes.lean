/- DERIVED. The reader of messages: votes. -/
import Derived.Test.YtijdjplajhcilabDoorGetRun
import Derived.Test.YtijdjplajhcilabDoorVoteRows
namespace Go.Proofs.YtijdjplajhcilabDoor
open Go.RowKit
variable {w w' : World} {R : Nat} {s : ByteArray} {p : Nat}

theorem infoInt : (Tryd.prog.info? 3).map (fun i => (i.zero, i.size, i.bytes)) = some (some (.int .i64 0), 1, 8) := by kernel_rfl

theorem rowv_shape {base : Nat} {e : TypeId} {size n : Nat} {v : Value} {xs : List Value} (h : w.ownsRow base e size v n xs) : ∃ oa cp, v = .slice oa n cp := by
  rcases h.2 with ⟨e1, e2⟩ | ⟨g, cap, cur, e1, _⟩
  · subst e2; exact ⟨_, _, e1⟩
  · exact ⟨_, _, e1⟩

theorem rowv_keeps {base : Nat} {e : TypeId} {size n : Nat} {v : Value} {xs : List Value} (h : w.ownsRow base e size v n xs) (hk : Keeps R w w') (hR : R < base) : w'.ownsRow base e size v n xs := by
  refine ⟨h.1, ?_⟩
  rcases h.2 with h0 | ⟨g, cap, cur, e1, e2, hb, e3⟩
  · exact Or.inl h0
  · refine Or.inr ⟨g, cap, cur, e1, e2, ?_, e3⟩
    rw [hk.block g (Array.getElem?_eq_some_iff.1 hb).1 (by omega)]
    exact hb

theorem row_base {base b' : Nat} {e : TypeId} {size n : Nat} {v : Value} {xs : List Value} (h : w.ownsRow b' e size v n xs) (hb : base ≤ b') : w.ownsRow base e size v n xs := by
  refine ⟨h.1, ?_⟩
  rcases h.2 with h0 | ⟨g, cap, cur, e1, e2, h3⟩
  · exact Or.inl h0
  · exact Or.inr ⟨g, cap, cur, e1, Nat.le_trans hb e2, h3⟩

theorem row_nil (w : World) (base : Nat) (e : TypeId) (size : Nat) : w.ownsRow base e size (.slice none 0 0) 0 [] := ⟨by simp, Or.inl ⟨rfl, rfl⟩⟩

set_option maxRecDepth 100000 in
set_option maxHeartbeats 3200000 in
theorem rvotes_any (h : RAt w R s p) :
    Calls Tryd.prog 44 #[.pointer (some ⟨R, 0, none⟩)] w fun e w' => (∃ v, e = .returned v ∧ w'.ownsRow w.heap.size 3 1 v (gVs (restL s p)).1.length ((gVs (restL s p)).1.map (Value.int .i64))) ∧ (∃ q, RAt w' R s q ∧ restL s q = (gVs (restL s p)).2) ∧ Keeps R w w' := by
  obtain ⟨i0, hi, hz0, hz1, hz2⟩ := info_parts infoInt
  have HRW : Hid (R < w.heap.size) := h.old
  have HR0 := hid h
  have hsm := h.small
  have hl0 := (gVs_len (restL s p)).2
  have hl1 := restL_len s p
  obtain ⟨G, hG⟩ : ∃ G, G = gVs (restL s p) := ⟨_, rfl⟩
  have HG := hid hG
  rw [← hG] at hl0 ⊢
  obtain ⟨n, hn⟩ : ∃ n, n = (restL s p).length + 1 := ⟨_, rfl⟩
  have HN := hid hn
  have HL0 : Hid (G.1.length ≤ 401) := by show _ ≤ _; omega
  clear hG hn hl0 hl1 h
  go_enter Tryd.func44, Tryd.ntmps44
  go_wp2
  go_loopg [3] n (fun gh v wr => ∃ (q : Nat) (A : List Int), Hid (RAt wr R s q) ∧ Hid (Keeps R w wr) ∧ Hid (wr.ownsRow w.heap.size 3 1 v A.length (A.map (Value.int .i64))) ∧ Hid (G = (A ++ (gVs (restL s q)).1, (gVs (restL s q)).2)) ∧ Hid ((restL s q).length < gh))
  case atStart => exact ⟨p, [], HR0, Keeps.refl _ _, row_nil _ _ _ _, by show G = _; rw [HG.out]; rfl, by show _ < _; have := HN.out; omega⟩
  case round =>
    obtain ⟨q, A, HR, HK, HROW, HE, HGH⟩ := hrel
    obtain ⟨ov, cv, rfl⟩ := rowv_shape HROW.out
    cases gk with
    | zero => exact absurd HGH.out (Nat.not_lt_zero _)
    | succ g =>
      have CN := hid (rnumber_any HR.out)
      have HEQ := hid (gVs_eq (restL s q))
      have hAl : A.length ≤ 401 := by
        have h1 := HL0.out
        rw [HE.out] at h1
        simp at h1
        omega
      obtain ⟨z, hz⟩ : ∃ z, z = gVal (restL s q) := ⟨_, rfl⟩
      obtain ⟨b, hb⟩ : ∃ b, b = gOk (restL s q) := ⟨_, rfl⟩
      rw [← hz, ← hb] at CN HEQ
      clear hz hb
      cases b
      · have HF : Hid (G = (A, gDrop (restL s q))) := by
          show G = _
          rw [HE.out, HEQ.out]
          simp
        clear hAl
        obtain ⟨m, hm⟩ : ∃ m, m = A.length := ⟨_, rfl⟩
        have HM := hid hm
        rw [← hm]
        clear hm
        go_wp2_with fail
        refine CN.out.mono ?_
        rintro e w1 ⟨rfl, ⟨q1, h1, e1⟩, k1⟩
        have HR1 := hid h1
        have HE1 := hid e1
        have HK1 := hid (HK.out.trans k1)
        have HROW1 := hid (rowv_keeps HROW.out k1 HRW.out)
        clear h1 e1 k1
        go_wp2
        go_ret
        exact ⟨⟨.slice ov m cv, rfl, by rw [HF.out, HM.out]; exact HROW1.out⟩, ⟨q1, HR1.out, by rw [HE1.out, HF.out]⟩, HK1.out⟩
      · obtain ⟨m, hm⟩ : ∃ m, m = A.length := ⟨_, rfl⟩
        have HM := hid hm
        rw [← hm] at hAl ⊢
        clear hm
        go_wp2_with fail
        refine CN.out.mono ?_
        rintro e w1 ⟨rfl, ⟨q1, h1, e1⟩, k1⟩
        have HR1 := hid h1
        have HE1 := hid e1
        have HK1 := hid (HK.out.trans k1)
        have hown := rowv_keeps HROW.out k1 HRW.out
        rw [← HM.out] at hown
        have HS1 : Hid (w.heap.size ≤ w1.heap.size) := HK1.out.size
        clear h1 e1 k1
        go_wp2_with (at_builtin; refine wpList_append_own _ rfl _ _ 23 rfl w.heap.size 3 i0 (.int .i64 0) 1 8 Tryd.underlying23 hi hz0 hz1 hz2 rfl (by decide) _ _ _ rfl (hown.alloc _) ⟨w1.heap.size, 0, none⟩ 1 1 [.int .i64 z] rfl rfl (cell_one _ _ _) (by simp [Value.oneCell']) (by unfold maxLen; omega) (by omega) (by have := HS1.out; simp; omega) ?_)
        intro v' w2 hown' hgrow _
        have hbl : Below w.heap.size w1 w2 := ((Below.refl _ _).alloc (by have := HS1.out; omega) _).trans (below_grown (hown.alloc _) (by have := HS1.out; simp; omega) hgrow)
        have HR2 := hid (HR1.out.under HRW.out hbl)
        have HK2 := hid (HK1.out.under HRW.out hbl)
        have HOWN2 : Hid (w2.ownsRow w.heap.size 3 1 v' (A ++ [z]).length ((A ++ [z]).map (Value.int .i64))) := by
          show w2.ownsRow _ _ _ _ _ _
          rw [List.length_append, List.map_append, ← HM.out]
          exact hown'
        have HM2 : Hid ((A ++ [z]).length = m + 1) := by show _ = _; rw [List.length_append, ← HM.out]; rfl
        clear hown hown' hgrow hbl
        obtain ⟨ov2, cv2, rfl⟩ := rowv_shape HOWN2.out
        rw [HM2.out]
        have CT := hid (rtake_any HR2.out 44 44 rfl)
        obtain ⟨c, hc⟩ : ∃ c, c = gHas 44 (restL s q1) := ⟨_, rfl⟩
        have HC := hid hc
        rw [← hc] at CT
        clear hc
        cases c
        · have HF : Hid (G = (A ++ [z], gSkip 44 (restL s q1))) := by
            show G = _
            rw [HE.out, HEQ.out, ← HE1.out, ← HC.out]
            simp
          go_wp2_with fail
          refine CT.out.mono ?_
          rintro e w3 ⟨rfl, ⟨q3, h3, e3⟩, k3⟩
          have HR3 := hid h3
          have HE3 := hid e3
          have HK3 := hid (HK2.out.trans k3)
          have HROW3 := hid (rowv_keeps HOWN2.out k3 HRW.out)
          clear h3 e3 k3
          go_wp2
          go_ret
          exact ⟨⟨.slice ov2 (m + 1) cv2, rfl, by rw [HF.out]; have := HROW3.out; rw [HM2.out] at this ⊢; exact this⟩, ⟨q3, HR3.out, by rw [HE3.out, HF.out]⟩, HK3.out⟩
        · have HF : Hid (G = ((A ++ [z]) ++ (gVs (gSkip 44 (restL s q1))).1, (gVs (gSkip 44 (restL s q1))).2)) := by
            show G = _
            rw [HE.out, HEQ.out, ← HE1.out, ← HC.out]
            simp
          have HLT : Hid ((gSkip 44 (restL s q1)).length < g) := by
            have h1 := gHas_len HC.out.symm
            have h2 := gDrop_len (restL s q)
            have h3 := HGH.out
            rw [← HE1.out] at h2
            show _ < _
            omega
          go_wp2_with fail
          refine CT.out.mono ?_
          rintro e w3 ⟨rfl, ⟨q3, h3, e3⟩, k3⟩
          have HR3 := hid h3
          have HE3 := hid e3
          have HK3 := hid (HK2.out.trans k3)
          have HROW3 := hid (rowv_keeps HOWN2.out k3 HRW.out)
          clear h3 e3 k3
          go_wp2
          go_roundg g
          case measure => omega
          case rel => exact ⟨q3, A ++ [z], HR3, HK3, by have := HROW3.out; rw [HM2.out] at this ⊢; exact this, by show G = _; rw [HE3.out]; exact HF.out, by show _ < _; rw [HE3.out]; exact HLT.out⟩

end Go.Proofs.YtijdjplajhcilabDoor
