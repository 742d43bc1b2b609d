/- A text's number: pure. (Out of NumA.) -/
import Derived.Test.YtihhbngpajephaaDoorBytes
namespace Go.Proofs.YtihhbngpajephaaDoor.Sha
open Go.ChangeShapes Go.WideShapes Go.ChangeAt Go.RowKit
set_option linter.unusedVariables false
set_option linter.unusedSimpArgs false

def accN (u : ByteArray) : Nat → Int
  | 0 => 0
  | k + 1 => accN u k * 10 + bAt u k - 48
def digs (u : ByteArray) (k : Nat) : Bool := (List.range k).all fun j => decide (48 ≤ bAt u j ∧ bAt u j ≤ 57)
theorem digs_next (u : ByteArray) (k : Nat) : digs u (k + 1) = (digs u k && decide (48 ≤ bAt u k ∧ bAt u k ≤ 57)) := by
  unfold digs; rw [List.range_succ]; simp
theorem digs_no {u : ByteArray} {n k : Nat} (hk : k < n) (h : ¬ (48 ≤ bAt u k ∧ bAt u k ≤ 57)) : digs u n = false := by
  unfold digs
  rw [Bool.eq_false_iff]
  intro h2
  rw [List.all_eq_true] at h2
  have := h2 k (by simpa using hk)
  simp only [decide_eq_true_eq] at this
  exact h this
theorem accN_in (u : ByteArray) : ∀ k, digs u k = true → 0 ≤ accN u k ∧ accN u k + 1 ≤ 10 ^ k := by
  intro k
  induction k with
  | zero => intro _; exact ⟨Int.le_refl _, Int.le_refl _⟩
  | succ k ih =>
    intro h
    rw [digs_next, Bool.and_eq_true, decide_eq_true_eq] at h
    obtain ⟨a, b⟩ := ih h.1
    have e : accN u (k + 1) = accN u k * 10 + bAt u k - 48 := rfl
    rw [e, Int.pow_succ]
    omega
theorem pow18 {k : Nat} (h : k ≤ 18) : (10 : Int) ^ k ≤ 1000000000000000000 := by
  have : ∀ m : Fin 19, (10 : Int) ^ m.val ≤ 1000000000000000000 := by decide +kernel
  exact this ⟨k, by omega⟩
theorem pow17 {k : Nat} (h : k ≤ 17) : (10 : Int) ^ k ≤ 100000000000000000 := by
  have : ∀ m : Fin 18, (10 : Int) ^ m.val ≤ 100000000000000000 := by decide +kernel
  exact this ⟨k, by omega⟩
theorem wrapW (x : Int) (h0 : -9223372036854775808 ≤ x) (h1 : x ≤ 9223372036854775807) : IntKind.i64.wrap x = x := by
  simp only [IntKind.wrap, IntKind.bits, IntKind.signed]
  simp
  omega
def sgnT (t : ByteArray) : Bool := decide (0 < t.size) && bAt t 0 == 45
def unsT (t : ByteArray) : ByteArray := if sgnT t = true then t.extract 1 t.size else t
def numT (t : ByteArray) : Int × Bool :=
  if (unsT t).size = 0 ∨ 18 < (unsT t).size ∨ (bAt (unsT t) 0 = 48 ∧ (1 < (unsT t).size ∨ sgnT t = true)) then (0, false)
  else if digs (unsT t) (unsT t).size = true then ((if sgnT t = true then -1 else 1) * accN (unsT t) (unsT t).size, true) else (0, false)
theorem numT_bad {t : ByteArray} (h : (unsT t).size = 0 ∨ 18 < (unsT t).size ∨ (bAt (unsT t) 0 = 48 ∧ (1 < (unsT t).size ∨ sgnT t = true))) : numT t = (0, false) := by
  unfold numT; rw [if_pos h]
theorem numT_go {t : ByteArray} (h : ¬ ((unsT t).size = 0 ∨ 18 < (unsT t).size ∨ (bAt (unsT t) 0 = 48 ∧ (1 < (unsT t).size ∨ sgnT t = true)))) :
    numT t = if digs (unsT t) (unsT t).size = true then ((if sgnT t = true then -1 else 1) * accN (unsT t) (unsT t).size, true) else (0, false) := by
  unfold numT; rw [if_neg h]
end Go.Proofs.YtihhbngpajephaaDoor.Sha
