/- DERIVED. How long a message is that was written, and that it is read. Another byte in one place makes another sum: plain. A text that is a message but for one byte, or that ends early, is none. -/
import Derived.Test.YtijdjplajhcilabDoorGetTrip
import Derived.Test.YtijdjplajhcilabDoorGetImpl
import Derived.Test.YtijdjplajhcilabDoorCrcPlain
namespace Go.Proofs.YtijdjplajhcilabDoor

theorem dI_len {n : Int} (h1 : -1 ≤ n) (h2 : n ≤ 9999) : (dI n).length ≤ 4 := by
  by_cases h : n = -1
  · subst h; rw [dI_minus]; decide
  · obtain ⟨u, rfl⟩ : ∃ u : Nat, n = (u : Int) := ⟨n.toNat, by omega⟩
    rw [dI_nat]
    exact dec_len_le u 3 (by omega)

theorem vL_len : ∀ V : List Int, (∀ n ∈ V, -1 ≤ n ∧ n ≤ 127) → (vL V).length ≤ 5 * V.length
  | [], _ => Nat.le_refl _
  | [v], h => by
    have := h v (by simp)
    have := dI_len this.1 (by omega)
    simp [vL]; omega
  | v :: x :: t, h => by
    have h0 := h v (by simp)
    have h1 := dI_len h0.1 (by omega)
    have h2 := vL_len (x :: t) (fun n hn => h n (by simp at hn ⊢; exact Or.inr hn))
    simp [vL] at h2 ⊢; omega

theorem vP_len {V : List Int} (h3 : V.length ≤ 3) (h : ∀ n ∈ V, -1 ≤ n ∧ n ≤ 127) : (vP V).length ≤ 15 := by
  unfold vP
  split
  · simp
  · have := vL_len V h; omega

theorem eL_len {e : Ent} (h : entOk e = true) : (eL e).length ≤ 25 := by
  simp only [entOk, Bool.and_eq_true] at h
  obtain ⟨⟨⟨h1, h2⟩, h3⟩, _⟩ := h
  have r1 : 0 ≤ e.1 ∧ e.1 ≤ 11 := by simpa [inB] using h1
  have r2 : 1 ≤ e.2.1 ∧ e.2.1 ≤ 9999 := by simpa [inB] using h2
  have r3 := okV_all h3
  have a1 := dI_len (n := e.1) (by omega) (by omega)
  have a2 := dI_len (n := e.2.1) (by omega) (by omega)
  have a3 := vP_len r3.1 r3.2
  simp [eL]; omega

theorem lL_len : ∀ L : List Ent, (∀ e ∈ L, entOk e = true) → (lL L).length ≤ 26 * L.length
  | [], _ => Nat.le_refl _
  | [v], h => by
    have := eL_len (h v (by simp))
    simp [lL]; omega
  | v :: x :: t, h => by
    have h1 := eL_len (h v (by simp))
    have h2 := lL_len (x :: t) (fun n hn => h n (by simp at hn ⊢; exact Or.inr hn))
    simp [lL] at h2 ⊢; omega

variable {kd fr tt bl ins : Int} {V : List Int} {L : List Ent}

theorem putText_l (hok : msgOkP kd fr tt bl ins V L = true) : (putText kd fr tt bl ins V L).data.toList = mL kd fr tt bl ins V L (32 :: Lib.decDigits (crcP (msgT kd fr tt bl ins V L))) := by
  unfold putText putMsg
  rw [if_pos hok, ← msgT_mL, ← dI_nat]
  simp [dI]

theorem putText_len (hok : msgOkP kd fr tt bl ins V L = true) (hl : L.length ≤ 6) : (putText kd fr tt bl ins V L).size ≤ 400 := by
  have e := putText_l hok
  have hs : (putText kd fr tt bl ins V L).size = (putText kd fr tt bl ins V L).data.toList.length := by simp
  rw [hs, e]
  simp only [msgOkP, Bool.and_eq_true] at hok
  obtain ⟨⟨⟨⟨⟨⟨g1, g2⟩, g3⟩, g4⟩, g5⟩, g6⟩, g7⟩ := hok
  have r1 : 1 ≤ kd ∧ kd ≤ 9 := by simpa [inB] using g1
  have r2 := party_range g2
  have r3 := party_range g3
  have r4 : 0 ≤ bl ∧ bl ≤ 9999 := by simpa [inB] using g4
  have r5 : 0 ≤ ins ∧ ins ≤ 12 := by simpa [inB] using g5
  have r6 := okV_all g6
  have r8 := okTo_each L L.length g7
  have hE : ∀ e ∈ L, entOk e = true := by
    intro e he
    obtain ⟨i, hi, rfl⟩ := List.getElem_of_mem he
    have := r8 i hi
    rw [List.getD_eq_getElem?_getD, List.getElem?_eq_getElem hi] at this
    exact this
  have a1 := dI_len (n := kd) (by omega) (by omega)
  have a2 := dI_len (n := fr) (by omega) (by omega)
  have a3 := dI_len (n := tt) (by omega) (by omega)
  have a4 := dI_len (n := bl) (by omega) (by omega)
  have a5 := dI_len (n := ins) (by omega) (by omega)
  have a6 := vP_len r6.1 r6.2
  have a7 : (lP L).length ≤ 157 := by
    unfold lP
    split
    · simp
    · have := lL_len L hE; omega
  have a8 := dec_len_le (crcP (msgT kd fr tt bl ins V L)) 9 (by have := crcP_lt (msgT kd fr tt bl ins V L); omega)
  simp [mL]
  omega

theorem putText_ne (hok : msgOkP kd fr tt bl ins V L = true) : putText kd fr tt bl ins V L ≠ (⟨#[]⟩ : ByteArray) := by
  intro h
  have e := putText_l hok
  rw [h] at e
  have := congrArg List.length e
  simp [mL] at this

theorem put_okay (hok : msgOkP kd fr tt bl ins V L = true) (hl : L.length ≤ 6) : gOkay (putText kd fr tt bl ins V L) = true := by
  have e := putText_l hok
  obtain ⟨p0, p1, p2, p3, p4, p5, p6⟩ := read_back hok (Lib.decDigits (crcP (msgT kd fr tt bl ins V L)))
  unfold gOkay
  rw [e, p0, p1, p2, p3, p4, p5, p6, hok, decide_eq_true (putText_len hok hl)]
  simp

end Go.Proofs.YtijdjplajhcilabDoor

namespace Go.Proofs.YtijdjplajhcilabDoor

theorem bstep_top {x : Nat} (h : x < 4294967296) : (bstep x).testBit 31 = decide (x % 2 = 1) := by
  have hf : (x / 2).testBit 31 = false := Nat.testBit_lt_two_pow (by omega)
  unfold bstep
  by_cases hx : x % 2 = 1
  · rw [if_pos hx, Nat.testBit_xor, hf, show Nat.testBit 3988292384 31 = true by decide]
    simp [hx]
  · rw [if_neg hx, hf]
    simp [hx]

theorem xor_cancel {a b c : Nat} (h : a ^^^ c = b ^^^ c) : a = b := by
  have := congrArg (fun z => z ^^^ c) h
  simpa [Nat.xor_assoc] using this

theorem xor_cancel_left {a b c : Nat} (h : c ^^^ a = c ^^^ b) : a = b := by
  rw [Nat.xor_comm c a, Nat.xor_comm c b] at h
  exact xor_cancel h

theorem bstep_inj {x y : Nat} (hx : x < 4294967296) (hy : y < 4294967296) (h : bstep x = bstep y) : x = y := by
  have h1 := bstep_top hx
  have h2 := bstep_top hy
  rw [h, h2] at h1
  have hp : (x % 2 = 1) ↔ (y % 2 = 1) := by simpa [eq_comm] using h1
  have hd : x / 2 = y / 2 := by
    unfold bstep at h
    by_cases hxo : x % 2 = 1
    · rw [if_pos hxo, if_pos (hp.1 hxo)] at h
      exact xor_cancel h
    · rw [if_neg hxo, if_neg (fun e => hxo (hp.2 e))] at h
      exact h
  omega

theorem bsteps_inj {k x y : Nat} (hx : x < 4294967296) (hy : y < 4294967296) (h : bsteps k x = bsteps k y) : x = y := by
  induction k generalizing x y with
  | zero => exact h
  | succ k ih => exact bstep_inj hx hy (ih (bstep_lt hx) (bstep_lt hy) h)

theorem crcL_inj (l : List UInt8) {x y : Nat} (hx : x < 4294967296) (hy : y < 4294967296) (h : crcL l x = crcL l y) : x = y := by
  induction l generalizing x y with
  | nil => exact h
  | cons c t ih =>
    have h1 := ih (bsteps_lt (xor_lt hx (byte_lt32 c))) (bsteps_lt (xor_lt hy (byte_lt32 c))) h
    exact xor_cancel (bsteps_inj (xor_lt hx (byte_lt32 c)) (xor_lt hy (byte_lt32 c)) h1)

theorem crcL_append (a b : List UInt8) (x : Nat) : crcL (a ++ b) x = crcL b (crcL a x) := by
  induction a generalizing x with
  | nil => rfl
  | cons c t ih => exact ih _

theorem crcL_other (a b : List UInt8) (c d : UInt8) (x : Nat) (hx : x < 4294967296) (h : crcL (a ++ c :: b) x = crcL (a ++ d :: b) x) : c = d := by
  rw [crcL_append, crcL_append] at h
  have ha := crcL_lt a hx
  have h1 := crcL_inj b (bsteps_lt (xor_lt ha (byte_lt32 c))) (bsteps_lt (xor_lt ha (byte_lt32 d))) h
  have h2 := bsteps_inj (xor_lt ha (byte_lt32 c)) (xor_lt ha (byte_lt32 d)) h1
  exact UInt8.toNat_inj.mp (xor_cancel_left h2)

theorem parts_list (s : ByteArray) (k : Nat) (h : k < s.size) : s.data.toList = s.data.toList.take k ++ s[k] :: s.data.toList.drop (k + 1) := by
  have h' : k < s.data.toList.length := by simpa using h
  rw [show s[k] = s.data.toList[k] from by simp [ByteArray.getElem_eq_getElem_data]]
  rw [List.getElem_cons_drop, List.take_append_drop]

/-- With another byte in one place. -/
def otherByte (s : ByteArray) (k : Nat) (c : UInt8) : ByteArray := s.extract 0 k ++ ⟨#[c]⟩ ++ s.extract (k + 1) s.size

theorem otherByte_list (s : ByteArray) (k : Nat) (c : UInt8) : (otherByte s k c).data.toList = s.data.toList.take k ++ c :: s.data.toList.drop (k + 1) := by
  unfold otherByte
  simp [ByteArray.data_append, ByteArray.data_extract, List.take_of_length_le]

theorem crcP_other (s : ByteArray) (k : Nat) (c : UInt8) (h : k < s.size) (hc : c ≠ s[k]) : crcP (otherByte s k c) ≠ crcP s := by
  intro e
  unfold crcP at e
  have e1 := xor_cancel e
  rw [otherByte_list s k c] at e1
  exact hc (crcL_other _ _ c s[k] _ (by omega) (e1.trans (congrArg (fun l => crcL l 4294967295) (parts_list s k h))))

end Go.Proofs.YtijdjplajhcilabDoor

namespace Go.Proofs.YtijdjplajhcilabDoor

/-- How many blanks. -/
def blanks : List UInt8 → Nat
  | [] => 0
  | c :: t => (if c = 32 then 1 else 0) + blanks t

theorem blanks_app (A B : List UInt8) : blanks (A ++ B) = blanks A + blanks B := by
  induction A with
  | nil => simp [blanks]
  | cons c t ih => simp [blanks, ih]; omega

theorem blanks_none {l : List UInt8} (h : ∀ c ∈ l, c ≠ 32) : blanks l = 0 := by
  induction l with
  | nil => rfl
  | cons c t ih =>
    simp only [blanks]
    rw [if_neg (h c (by simp)), ih (fun x hx => h x (by simp [hx]))]

theorem no_blanks {l : List UInt8} (h : blanks l = 0) : ∀ c ∈ l, c ≠ 32 := by
  induction l with
  | nil => intro c hc; cases hc
  | cons x t ih =>
    simp only [blanks] at h
    intro c hc
    rcases List.mem_cons.1 hc with rfl | hc
    · intro e; rw [if_pos e] at h; omega
    · exact ih (by omega) c hc

theorem dec_no32 (u : Nat) : ∀ c ∈ Lib.decDigits u, c ≠ 32 := by
  intro c hc e
  have := figAll_dec u
  have h2 := List.all_eq_true.1 this c hc
  rw [e] at h2
  exact absurd h2 (by decide)

theorem dI_no32 (n : Int) : ∀ c ∈ dI n, c ≠ 32 := by
  intro c hc
  unfold dI decI at hc
  split at hc
  · simp [decS] at hc
    rcases hc with rfl | hc
    · decide
    · exact dec_no32 _ c hc
  · simp [decS] at hc
    exact dec_no32 _ c hc

theorem vL_no32 : ∀ V : List Int, ∀ c ∈ vL V, c ≠ 32
  | [], c, hc => by cases hc
  | [v], c, hc => dI_no32 v c hc
  | v :: x :: t, c, hc => by
    simp only [vL, List.mem_append, List.mem_cons] at hc
    rcases hc with hc | rfl | hc
    · exact dI_no32 v c hc
    · decide
    · exact vL_no32 (x :: t) c hc

theorem vP_no32 (V : List Int) : ∀ c ∈ vP V, c ≠ 32 := by
  intro c hc
  unfold vP at hc
  split at hc
  · simp at hc; subst hc; decide
  · exact vL_no32 V c hc

theorem eL_no32 (e : Ent) : ∀ c ∈ eL e, c ≠ 32 := by
  intro c hc
  simp only [eL, List.mem_append, List.mem_cons] at hc
  rcases hc with hc | rfl | hc | rfl | hc
  · exact dI_no32 _ c hc
  · decide
  · exact dI_no32 _ c hc
  · decide
  · exact vP_no32 _ c hc

theorem lL_no32 : ∀ L : List Ent, ∀ c ∈ lL L, c ≠ 32
  | [], c, hc => by cases hc
  | [v], c, hc => eL_no32 v c hc
  | v :: x :: t, c, hc => by
    simp only [lL, List.mem_append, List.mem_cons] at hc
    rcases hc with hc | rfl | hc
    · exact eL_no32 v c hc
    · decide
    · exact lL_no32 (x :: t) c hc

theorem lP_no32 (L : List Ent) : ∀ c ∈ lP L, c ≠ 32 := by
  intro c hc
  unfold lP at hc
  split at hc
  · simp at hc; subst hc; decide
  · exact lL_no32 L c hc

variable {kd fr tt bl ins : Int} {V : List Int} {L : List Ent}

/-- Six blanks lie ahead of the sum's. -/
theorem msgT_blanks (kd fr tt bl ins : Int) (V : List Int) (L : List Ent) : blanks (msgT kd fr tt bl ins V L).data.toList = 6 := by
  have h := msgT_mL kd fr tt bl ins V L []
  rw [List.append_nil] at h
  rw [h]
  unfold mL
  simp only [blanks_app, blanks, blanks_none (dI_no32 _), blanks_none (vP_no32 _), blanks_none (lP_no32 _), List.append_nil]
  rfl

/-- A text that is read: its body, a blank, the body's sum. -/
def Split (l : List UInt8) (B : ByteArray) : Prop := l = B.data.toList ++ 32 :: Lib.decDigits (crcP B) ∧ blanks B.data.toList = 6

theorem put_split (hok : msgOkP kd fr tt bl ins V L = true) : Split (putText kd fr tt bl ins V L).data.toList (msgT kd fr tt bl ins V L) := by
  refine ⟨?_, msgT_blanks _ _ _ _ _ _ _⟩
  unfold putText putMsg
  rw [if_pos hok, ← dI_nat]
  simp [dI]

theorem okay_split {s : ByteArray} (h : gOkay s = true) : ∃ B, Split s.data.toList B := by
  unfold gOkay at h
  rw [Bool.and_eq_true, Bool.and_eq_true] at h
  have h2 := of_decide_eq_true h.2.2
  exact ⟨_, by rw [← h2]; exact put_split h.2.1⟩

/-- The last blank parts a text in one way. -/
theorem last_blank : ∀ (A A' D D' : List UInt8), (∀ c ∈ D, c ≠ 32) → (∀ c ∈ D', c ≠ 32) → A ++ 32 :: D = A' ++ 32 :: D' → A = A' ∧ D = D'
  | [], [], D, D', _, _, h => by simp at h; exact ⟨rfl, h⟩
  | [], a :: t, D, D', hD, _, h => by
    simp at h
    exact absurd rfl (hD 32 (by rw [h.2]; simp))
  | a :: t, [], D, D', _, hD', h => by
    simp at h
    exact absurd rfl (hD' 32 (by rw [← h.2]; simp))
  | a :: t, b :: u, D, D', hD, hD', h => by
    simp at h
    obtain ⟨h1, h2⟩ := last_blank t u D D' hD hD' h.2
    exact ⟨by rw [h.1, h1], h2⟩

theorem split_blanks {l : List UInt8} {B : ByteArray} (h : Split l B) : blanks l = 7 := by
  rw [h.1, blanks_app, h.2]
  simp only [blanks]
  rw [blanks_none (dec_no32 _)]
  rfl

theorem bytes_eq {a b : ByteArray} (h : a.data.toList = b.data.toList) : a = b := by
  apply ByteArray.ext
  apply Array.ext'
  exact h

/-- What was cut is none. -/
theorem cut_no {l : List UInt8} {B B' : ByteArray} (h : Split l B) (k : Nat) (hk : k < l.length) (h' : Split (l.take k) B') : False := by
  have hc : blanks (l.drop k) = 0 := by
    have h1 := split_blanks h
    have h2 := split_blanks h'
    have h3 := blanks_app (l.take k) (l.drop k)
    rw [List.take_append_drop] at h3
    omega
  have e : B'.data.toList ++ 32 :: (Lib.decDigits (crcP B') ++ l.drop k) = B.data.toList ++ 32 :: Lib.decDigits (crcP B) := by
    rw [← h.1, ← List.cons_append, ← List.append_assoc, ← h'.1, List.take_append_drop]
  obtain ⟨e1, e2⟩ := last_blank _ _ _ _ (by
    intro c hc'
    rcases List.mem_append.1 hc' with hc' | hc'
    · exact dec_no32 _ c hc'
    · exact no_blanks hc c hc') (dec_no32 _) e
  have eb := bytes_eq e1
  subst eb
  have e3 := congrArg List.length e2
  rw [List.length_append, List.length_drop] at e3
  omega

theorem dec_inj {a b : Nat} (h : Lib.decDigits a = Lib.decDigits b) : a = b := by
  have h1 := numVal_dec a
  have h2 := numVal_dec b
  rw [h, h2] at h1
  omega

/-- A part that has no blank lies behind the last blank. -/
theorem last_app : ∀ (P T A D : List UInt8), (∀ c ∈ T, c ≠ 32) → P ++ T = A ++ 32 :: D → ∃ Q, P = A ++ 32 :: Q ∧ D = Q ++ T
  | P, T, [], D, hT, h => by
    cases P with
    | nil =>
      simp at h
      exact absurd rfl (hT 32 (by rw [h]; simp))
    | cons a t =>
      simp at h
      exact ⟨t, by rw [h.1]; rfl, h.2.symm⟩
  | [], T, a :: u, D, hT, h => by
    simp at h
    exact absurd rfl (hT 32 (by rw [h]; simp))
  | b :: t, T, a :: u, D, hT, h => by
    simp at h
    obtain ⟨Q, q1, q2⟩ := last_app t T u D hT h.2
    exact ⟨Q, by rw [h.1, q1]; rfl, q2⟩

theorem last_of : ∀ R : List UInt8, blanks R ≠ 0 → ∃ U D, R = U ++ 32 :: D ∧ ∀ c ∈ D, c ≠ 32
  | [], h => absurd rfl h
  | a :: t, h => by
    by_cases ht : blanks t = 0
    · have ha : a = 32 := by
        by_cases e : a = 32
        · exact e
        · simp only [blanks] at h; rw [if_neg e, ht] at h; exact absurd rfl h
      exact ⟨[], t, by rw [ha]; rfl, no_blanks ht⟩
    · obtain ⟨U, D, h1, h2⟩ := last_of t ht
      exact ⟨a :: U, D, by rw [h1]; rfl, h2⟩

/-- One byte another one, and it is none. -/
theorem spoil_no {s : ByteArray} {B B' : ByteArray} (h : Split s.data.toList B) (k : Nat) (hk : k < s.size) (c : UInt8) (hc : c ≠ s[k]) (h' : Split (otherByte s k c).data.toList B') : False := by
  obtain ⟨P, hP⟩ : ∃ P, P = s.data.toList.take k := ⟨_, rfl⟩
  obtain ⟨R, hR⟩ : ∃ R, R = s.data.toList.drop (k + 1) := ⟨_, rfl⟩
  have hs := parts_list s k hk
  have ho := otherByte_list s k c
  obtain ⟨x, hx⟩ : ∃ x, x = s[k] := ⟨_, rfl⟩
  rw [← hx] at hs hc
  rw [← hP, ← hR] at hs ho
  have b1 := split_blanks h
  have b2 := split_blanks h'
  rw [hs, blanks_app, blanks] at b1
  rw [ho, blanks_app, blanks] at b2
  have hx32 : x ≠ 32 := by
    intro e
    rw [if_pos e] at b1
    by_cases e2 : c = 32
    · exact hc (e2.trans e.symm)
    · rw [if_neg e2] at b2; omega
  have hc32 : c ≠ 32 := by
    intro e
    rw [if_pos e] at b2
    rw [if_neg hx32] at b1
    omega
  have e1 := h.1
  have e2 := h'.1
  rw [hs] at e1
  rw [ho] at e2
  by_cases hr : blanks R = 0
  · -- the byte lies behind the last blank
    have hP7 : blanks P = 7 := by rw [if_neg hx32] at b1; omega
    rcases last_app P (x :: R) B.data.toList (Lib.decDigits (crcP B)) (by intro d hd; rcases List.mem_cons.1 hd with rfl | hd; exact hx32; exact no_blanks hr d hd) e1 with ⟨Q, q1, q2⟩
    rcases last_app P (c :: R) B'.data.toList (Lib.decDigits (crcP B')) (by intro d hd; rcases List.mem_cons.1 hd with rfl | hd; exact hc32; exact no_blanks hr d hd) e2 with ⟨Q', q3, q4⟩
    have hq : ∀ d ∈ Q, d ≠ 32 := fun d hd => dec_no32 _ d (by rw [q2]; simp [hd])
    have hq' : ∀ d ∈ Q', d ≠ 32 := fun d hd => dec_no32 _ d (by rw [q4]; simp [hd])
    obtain ⟨f1, f2⟩ := last_blank _ _ _ _ hq hq' (q1.symm.trans q3)
    have eb := bytes_eq f1
    subst eb
    rw [q2, f2] at q4
    simp at q4
    exact hc q4.symm
  · -- ahead of it
    obtain ⟨U, D, u1, u2⟩ := last_of R hr
    have v1 : (P ++ x :: U) ++ 32 :: D = B.data.toList ++ 32 :: Lib.decDigits (crcP B) := by rw [← e1, u1]; simp
    have v2 : (P ++ c :: U) ++ 32 :: D = B'.data.toList ++ 32 :: Lib.decDigits (crcP B') := by rw [← e2, u1]; simp
    obtain ⟨g1, g2⟩ := last_blank _ _ _ _ u2 (dec_no32 _) v1
    obtain ⟨g3, g4⟩ := last_blank _ _ _ _ u2 (dec_no32 _) v2
    have hsum := dec_inj (g2.symm.trans g4)
    have hkB : k < B.size := by
      have : B.data.toList.length = B.size := by simp
      rw [← this, ← g1]
      have : P.length = k := by rw [hP]; simp; omega
      simp; omega
    have hPk : P.length = k := by rw [hP]; simp; omega
    have hB' : B' = otherByte B k c := by
      apply bytes_eq
      rw [otherByte_list, ← g3, ← g1]
      rw [List.take_left' hPk]
      congr 1
      congr 1
      have : P ++ x :: U = (P ++ [x]) ++ U := by simp
      rw [this, List.drop_left' (by simp [hPk])]
    rw [hB'] at hsum
    refine crcP_other B k c hkB ?_ hsum.symm
    have hp := parts_list B k hkB
    rw [← g1, List.take_left' hPk] at hp
    intro e
    have h3 := List.append_cancel_left hp
    injection h3 with h3 _
    rw [← e] at h3
    exact hc h3.symm

end Go.Proofs.YtijdjplajhcilabDoor

