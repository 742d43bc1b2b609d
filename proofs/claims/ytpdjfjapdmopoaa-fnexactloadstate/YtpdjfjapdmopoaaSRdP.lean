/- The laws' own reader told by what is left. -/
import Derived.Test.YtpdjfjapdmopoaaSRd
namespace Go.Proofs.Ytpdjfjapdmopoaa
open Go.ChangeShapes Go.WideShapes Go.ChangeAt Go.RowKit
set_option linter.unusedVariables false
set_option linter.unusedSimpArgs false

def SRd (w : World) (b : Nat) (a : Option Addr) (cap : Nat) (l : List Int) : Option (List Int) → Prop
  | none => ∃ p, SR w b a cap l p true
  | some rs => ∃ p, SR w b a cap l p false ∧ rs = l.drop p
theorem SRd.kept {T : Nat → Prop} {w w' : World} {b : Nat} {a : Option Addr} {cap : Nat} {l : List Int} {st : Option (List Int)} (h : SRd w b a cap l st) (ht : Touch T w w') (hn : ∀ k, k ≤ b → ¬ T k) : SRd w' b a cap l st := by
  cases st with
  | none => obtain ⟨p, h⟩ := h; exact ⟨p, h.kept ht hn⟩
  | some rs => obtain ⟨p, h, e⟩ := h; exact ⟨p, h.kept ht hn, e⟩
theorem SRd.alloc {w : World} {b : Nat} {a : Option Addr} {cap : Nat} {l : List Int} {st : Option (List Int)} (h : SRd w b a cap l st) (o : Obj) : SRd (w.alloc o) b a cap l st := h.kept (T := fun _ => False) ((Touch.refl _ _).alloc o) (fun _ _ h => h)
theorem SRd.other {w : World} {b C : Nat} {a : Option Addr} {cap : Nat} {l : List Int} {st : Option (List Int)} (h : SRd w b a cap l st) (j : Nat) (v : Value) (hne : b < C) : SRd (w.setCell ⟨C, j, none⟩ v) b a cap l st :=
  h.kept (T := fun k => k = C) ((Touch.refl _ _).setCell _ _ (fun _ => rfl)) (fun k hk e => by omega)
theorem SRd.range {w : World} {b : Nat} {a : Option Addr} {cap : Nat} {l : List Int} {st : Option (List Int)} (h : SRd w b a cap l st) : rangeP st := by
  cases st with
  | none => trivial
  | some rs =>
    obtain ⟨p, ⟨_, _, _, _, _, _, ⟨_, _, _, _, _, _, hr⟩, _⟩, rfl⟩ := h
    exact range_drop p hr
theorem decN_take (l : List Int) (n : Nat) : ∀ k, k ≤ n → decN (l.take n) k = decN l k := by
  intro k
  induction k with
  | zero => intro _; rfl
  | succ k ih => intro hk; simp only [decN]; rw [ih (by omega), getD_take (by omega)]

theorem specNumberP (n : Nat) (ni : Int) (hni : ni = (n : Int)) (b : Nat) (a : Option Addr) (cap : Nat) (l : List Int) (st : Option (List Int)) (w : World) (h : SRd w b a cap l st) (hn : 1 ≤ n) (hn4 : n ≤ 4) :
    Calls Try.prog 49 #[.pointer (some ⟨b, 0, none⟩), .int .i64 ni] w fun e w' => e = .returned (.int .i64 (numP n st).1) ∧ SRd w' b a cap l (numP n st).2 ∧ Touch (fun k => k = b) w w' ∧ w'.heap.size = w.heap.size := by
  cases st with
  | none =>
    obtain ⟨p, h⟩ := h
    refine (specNumber_bad n ni hni b a cap l p w h hn hn4).mono ?_
    rintro e w' ⟨rfl, hS, hT, hz⟩
    exact ⟨rfl, ⟨p, hS⟩, hT, hz⟩
  | some rs =>
    obtain ⟨p, h, rfl⟩ := h
    have hp := h.2.2.2.2.2.1
    refine (specNumber_any n ni hni b a cap l p w h hn4).mono ?_
    rintro e w' ⟨x, q, bad, rfl, hS, h1, h2, hT, hz⟩
    by_cases hin : p + n ≤ l.length
    · obtain ⟨rfl, rfl, rfl⟩ := h1 hin
      have e : takeP n (some (l.drop p)) = ((l.drop p).take n, some ((l.drop p).drop n)) := by simp [takeP]; omega
      have hl : ((l.drop p).take n).length = n := by simp; omega
      refine ⟨ret_int ?_, ?_, hT, hz⟩
      · unfold numP; rw [e]; unfold dec; rw [hl, decN_take _ _ _ (Nat.le_refl _)]
      · unfold numP; rw [e]; exact ⟨p + n, hS, by rw [List.drop_drop]⟩
    · obtain ⟨rfl, rfl⟩ := h2 hin
      have e : takeP n (some (l.drop p)) = ([], none) := by simp [takeP]; omega
      refine ⟨ret_int ?_, ?_, hT, hz⟩
      · unfold numP; rw [e]; rfl
      · unfold numP; rw [e]; exact ⟨q, hS⟩
theorem specTextP (n : Nat) (b : Nat) (a : Option Addr) (cap : Nat) (l : List Int) (st : Option (List Int)) (w : World) (h : SRd w b a cap l st) (hn : n ≤ 255) :
    Calls Try.prog 66 #[.pointer (some ⟨b, 0, none⟩), .int .i64 n] w fun e w' => e = .returned (.string (strOfNums (takeP n st).1)) ∧ SRd w' b a cap l (takeP n st).2 ∧ Touch (fun k => k = b) w w' ∧ w'.heap.size = w.heap.size := by
  cases st with
  | none =>
    obtain ⟨p, h⟩ := h
    refine (specText_bad n b a cap l p w h).mono ?_
    rintro e w' ⟨rfl, hS, hT, hz⟩
    exact ⟨rfl, ⟨p, hS⟩, hT, hz⟩
  | some rs =>
    obtain ⟨p, h, rfl⟩ := h
    have hp := h.2.2.2.2.2.1
    refine (specText_any n b a cap l p w h hn).mono ?_
    rintro e w' ⟨x, q, bad, rfl, hS, h1, h2, hT, hz⟩
    by_cases hin : p + n ≤ l.length
    · obtain ⟨rfl, rfl, rfl⟩ := h1 hin
      have e : takeP n (some (l.drop p)) = ((l.drop p).take n, some ((l.drop p).drop n)) := by simp [takeP]; omega
      rw [e]
      exact ⟨rfl, ⟨p + n, hS, by rw [List.drop_drop]⟩, hT, hz⟩
    · obtain ⟨rfl, rfl⟩ := h2 hin
      have e : takeP n (some (l.drop p)) = ([], none) := by simp [takeP]; omega
      rw [e]
      exact ⟨rfl, ⟨q, hS⟩, hT, hz⟩

theorem strOfNums_small (l : List Int) (h : l.length ≤ 65536) : (strOfNums l).size ≤ maxLen := by rw [strOfNums_size]; unfold maxLen; omega
theorem doneP_some (l : List Int) (p : Nat) : doneP (some (l.drop p)) = decide (l.length ≤ p) := by
  by_cases h : l.length ≤ p
  · rw [List.drop_eq_nil_of_le h]; simp [doneP, h]
  · have : (l.drop p).length ≠ 0 := by simp; omega
    cases hd : l.drop p with
    | nil => rw [hd] at this; simp at this
    | cons x r => simp [doneP]; omega
theorem textP_len {st : Option (List Int)} (h : rangeP st) : (textP st).1.length ≤ 255 := by
  have h1 := takeP_len (numP 1 st).1.toNat (numP 1 st).2
  have h2 := num1_range h
  show (takeP (numP 1 st).1.toNat (numP 1 st).2).1.length ≤ 255
  omega
end Go.Proofs.Ytpdjfjapdmopoaa
