/- A number's text, read and written again: pure. -/
import Derived.Test.YtihhbngpajephaaDoorNumP
import Derived.Lib.AtoiAll
import Derived.Lib.ItoaNum
namespace Go.Proofs.YtihhbngpajephaaDoor.Sha
open Go.ChangeShapes Go.WideShapes Go.ChangeAt Go.RowKit
set_option linter.unusedVariables false
set_option linter.unusedSimpArgs false

def valF (acc : Nat) : List UInt8 → Nat
  | [] => acc
  | b :: r => valF (acc * 10 + (b.toNat - 48)) r
def digL (l : List UInt8) : Prop := ∀ b ∈ l, 48 ≤ b.toNat ∧ b.toNat ≤ 57
theorem valF_app (b : UInt8) : ∀ (l : List UInt8) (acc : Nat), valF acc (l ++ [b]) = valF acc l * 10 + (b.toNat - 48)
  | [], acc => rfl
  | c :: r, acc => valF_app b r _
theorem valF_ge : ∀ (l : List UInt8) (acc : Nat), acc ≤ valF acc l
  | [], acc => Nat.le_refl _
  | c :: r, acc => by
    have := valF_ge r (acc * 10 + (c.toNat - 48))
    show acc ≤ valF (acc * 10 + (c.toNat - 48)) r
    omega
theorem valF_lt : ∀ (l : List UInt8) (acc : Nat), digL l → valF acc l < (acc + 1) * 10 ^ l.length := by
  intro l
  induction l with
  | nil => intro acc _; rw [List.length_nil, Nat.pow_zero, Nat.mul_one]; exact Nat.lt_succ_self acc
  | cons c r ih =>
    intro acc h
    have h1 := h c (List.mem_cons_self ..)
    have ih := ih (acc * 10 + (c.toNat - 48)) (fun b hb => h b (List.mem_cons_of_mem _ hb))
    have hle : acc * 10 + (c.toNat - 48) + 1 ≤ (acc + 1) * 10 := by omega
    have h2 := Nat.mul_le_mul_right (10 ^ r.length) hle
    rw [List.length_cons, Nat.pow_succ, Nat.mul_comm (10 ^ r.length) 10, ← Nat.mul_assoc]
    exact Nat.lt_of_lt_of_le ih h2
theorem ofN (n : Nat) (h : n < 256) : (UInt8.ofNat n).toNat = n := by
  simp [UInt8.toNat_ofNat]; omega
theorem dec_val (u : Nat) : valF 0 (Lib.decDigits u) = u ∧ digL (Lib.decDigits u) := by
  induction u using Nat.strongRecOn with
  | _ u ih =>
    rw [Lib.decDigits]
    by_cases h : u < 10
    · rw [dif_pos h]
      have e := ofN (48 + u) (by omega)
      refine ⟨?_, fun b hb => ?_⟩
      · show 0 * 10 + ((UInt8.ofNat (48 + u)).toNat - 48) = u
        omega
      · rw [List.mem_singleton] at hb; subst hb; omega
    · rw [dif_neg h]
      obtain ⟨h1, h2⟩ := ih (u / 10) (by omega)
      have e := ofN (48 + u % 10) (by omega)
      refine ⟨?_, fun b hb => ?_⟩
      · rw [valF_app, h1]; omega
      · rcases List.mem_append.1 hb with hb | hb
        · exact h2 b hb
        · rw [List.mem_singleton] at hb; subst hb; omega
theorem dec_ne (u : Nat) : Lib.decDigits u ≠ [] := by
  rw [Lib.decDigits]; split <;> simp
theorem dec_head (u : Nat) (h1 : 1 ≤ u) : ∃ b r, Lib.decDigits u = b :: r ∧ b.toNat ≠ 48 := by
  induction u using Nat.strongRecOn with
  | _ u ih =>
    rw [Lib.decDigits]
    by_cases h : u < 10
    · rw [dif_pos h]
      have e := ofN (48 + u) (by omega)
      exact ⟨_, _, rfl, by omega⟩
    · rw [dif_neg h]
      obtain ⟨b, r, e, hb⟩ := ih (u / 10) (by omega) (by omega)
      exact ⟨b, _, by rw [e]; rfl, hb⟩
theorem dec_len : ∀ (k u : Nat), u < 10 ^ (k + 1) → (Lib.decDigits u).length ≤ k + 1
  | 0, u, h => by rw [Lib.decDigits, dif_pos (by simpa using h)]; simp
  | k + 1, u, h => by
    rw [Lib.decDigits]
    by_cases h1 : u < 10
    · rw [dif_pos h1]; simp
    · rw [dif_neg h1]
      have := dec_len k (u / 10) (by rw [Nat.pow_succ] at h; omega)
      simp; omega
theorem back_byte (b : UInt8) (h : 48 ≤ b.toNat ∧ b.toNat ≤ 57) : UInt8.ofNat (48 + (b.toNat - 48)) = b := by
  apply UInt8.toNat_inj.1
  rw [ofN _ (by omega)]
  omega
theorem dec_back : ∀ (n : Nat) (l : List UInt8), l.length = n + 1 → digL l → (n = 0 ∨ ∀ b r, l = b :: r → b.toNat ≠ 48) → Lib.decDigits (valF 0 l) = l
  | 0, l, hl, hd, _ => by
    match l, hl with
    | [b], _ =>
      have h := hd b (by simp)
      show Lib.decDigits (0 * 10 + (b.toNat - 48)) = [b]
      rw [Lib.decDigits, dif_pos (by omega), show 0 * 10 + (b.toNat - 48) = b.toNat - 48 by omega, back_byte b h]
  | n + 1, l, hl, hd, hz => by
    have hne : l ≠ [] := by intro e; subst e; simp at hl
    obtain ⟨l', b, rfl⟩ : ∃ l' b, l = l' ++ [b] := ⟨l.dropLast, l.getLast hne, (List.dropLast_concat_getLast hne).symm⟩
    have hl' : l'.length = n + 1 := by simp at hl; omega
    have hb := hd b (by simp)
    have hd' : digL l' := fun c hc => hd c (by simp [hc])
    have hz' : ∀ c r, l' = c :: r → c.toNat ≠ 48 := by
      intro c r e
      rcases hz with hz | hz
      · omega
      · exact hz c (r ++ [b]) (by rw [e]; rfl)
    have ih := dec_back n l' hl' hd' (.inr hz')
    have h1 : 1 ≤ valF 0 l' := by
      match l', hl' with
      | c :: r, _ =>
        have hc := hd' c (by simp)
        have hc2 := hz' c r rfl
        have := valF_ge r (0 * 10 + (c.toNat - 48))
        show 1 ≤ valF (0 * 10 + (c.toNat - 48)) r
        omega
    rw [valF_app, Lib.decDigits, dif_neg (by omega)]
    have e1 : (valF 0 l' * 10 + (b.toNat - 48)) / 10 = valF 0 l' := by omega
    have e2 : (valF 0 l' * 10 + (b.toNat - 48)) % 10 = b.toNat - 48 := by omega
    rw [e1, e2, ih, back_byte b hb]
/-- The library's reader of digits. -/
theorem parse_val : ∀ (l : List UInt8) (acc : Nat), digL l → valF acc l < 1000000000000000000 → Lib.parseUint10 acc l = .ok (valF acc l)
  | [], acc, _, _ => rfl
  | c :: r, acc, h, hv => by
    have hc := h c (by simp)
    have hv' : valF (acc * 10 + (c.toNat - 48)) r < 1000000000000000000 := hv
    have hge := valF_ge r (acc * 10 + (c.toNat - 48))
    unfold Lib.parseUint10
    rw [if_pos hc, if_neg (by omega), if_neg (by omega)]
    exact parse_val r _ (fun b hb => h b (by simp [hb])) hv'
theorem atoi_itoa (n : Int) (h0 : -1000000000000000000 < n) (h1 : n < 1000000000000000000) : Lib.atoiAll (Lib.itoa n) = .ok n := by
  have key : ∀ u : Nat, u < 1000000000000000000 → Lib.parseMag (Lib.decDigits u) = .ok u := by
    intro u hu
    obtain ⟨e, hd⟩ := dec_val u
    unfold Lib.parseMag
    rw [if_neg (dec_ne u), parse_val _ 0 hd (by rw [e]; exact hu), e]
  have h45 : (45 : UInt8).toNat = 45 := rfl
  by_cases hn : n < 0
  · have hk := key n.natAbs (by omega)
    unfold Lib.itoa
    rw [if_pos hn]
    unfold Lib.atoiAll
    simp only
    rw [if_pos (by right; rfl), hk]
    simp only
    rw [if_neg (by intro h; exact h.1 rfl), if_neg (by intro h; have := h.2; omega), if_pos h45]
    congr 1
    omega
  · have hk := key n.toNat (by omega)
    have hd := (dec_val n.toNat).2
    unfold Lib.itoa
    rw [if_neg hn]
    cases hl : Lib.decDigits n.toNat with
    | nil => exact absurd hl (dec_ne _)
    | cons b r =>
      rw [hl] at hk hd
      have hb := hd b (by simp)
      unfold Lib.atoiAll
      simp only
      rw [if_neg (by omega), hk]
      simp only
      rw [if_neg (by intro h; have := h.2; omega), if_neg (by intro h; have := h.1; omega), if_neg (by omega)]
      congr 1
      omega
end Go.Proofs.YtihhbngpajephaaDoor.Sha
