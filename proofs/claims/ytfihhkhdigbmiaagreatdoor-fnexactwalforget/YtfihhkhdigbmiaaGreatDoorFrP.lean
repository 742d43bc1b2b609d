/- Frames read from the front on, in plain terms. -/
import Derived.Test.YtfihhkhdigbmiaaGreatDoorFr
import Derived.Test.YtfihhkhdigbmiaaGreatDoorRdD
namespace Go.Proofs.YtfihhkhdigbmiaaGreatDoor
open Go.ChangeShapes Go.WideShapes Go.ChangeAt Go.RowKit fnExactCheck32
set_option linter.unusedVariables false
/-- One frame at the front: 0 and its data, or why there is none. -/
def frStep (rs : List Int) : Int × List Int :=
  if rs.length < 6 then (16, [])
  else if inB (dec (rs.take 2)) 1 200 = false then (8, [])
  else if rs.length - 6 < (dec (rs.take 2)).toNat then (16, [])
  else if sumF ((rs.drop 6).take (dec (rs.take 2)).toNat) = dec ((rs.drop 2).take 4) then (0, (rs.drop 6).take (dec (rs.take 2)).toNat)
  else (8, [])
/-- All frames from a place on: their data, the place behind them, the code of what is there. -/
def frP (b : List Int) (p : Nat) : List (List Int) × Nat × Int :=
  if h : p < b.length then
    (if (frStep (b.drop p)).1 = 0 then ((frStep (b.drop p)).2 :: (frP b (p + 6 + (frStep (b.drop p)).2.length)).1, (frP b (p + 6 + (frStep (b.drop p)).2.length)).2) else ([], p, (frStep (b.drop p)).1))
  else ([], p, 0)
termination_by b.length - p
def rfOut (b : List Int) : List (List Int) × Nat × Int := if 65536 < b.length then ([], 0, 2) else frP b 0
/-- Where a reading stands: what was read, ahead of what is read from here on. -/
def FrAt (b : List Int) (p : Nat) (ds : List (List Int)) : Prop := frP b 0 = (ds ++ (frP b p).1, (frP b p).2) ∧ p ≤ b.length ∧ ds.length ≤ p ∧ ∀ d ∈ ds, d.length ≤ 200
theorem FrAt.zero (b : List Int) : FrAt b 0 [] := ⟨rfl, Nat.zero_le _, Nat.zero_le _, fun d h => by cases h⟩
theorem dec2 (a b : Int) : dec [a, b] = a * 256 + b := by simp [dec, decN]
theorem dec4 (a b c d : Int) : dec [a, b, c, d] = ((a * 256 + b) * 256 + c) * 256 + d := by simp [dec, decN]
theorem frStep_ok {rs d : List Int} (h : frStep rs = (0, d)) : 6 ≤ rs.length ∧ dec (rs.take 2) = (d.length : Int) ∧ 1 ≤ d.length ∧ d.length ≤ 200 ∧ d.length ≤ rs.length - 6 ∧ d = (rs.drop 6).take d.length ∧ sumF d = dec ((rs.drop 2).take 4) := by
  unfold frStep at h
  split at h
  · simp at h
  · rename_i h6
    split at h
    · simp at h
    · rename_i hin
      rw [Bool.not_eq_false, inB_iff] at hin
      split at h
      · simp at h
      · rename_i hle
        split at h
        · rename_i hs
          simp only [Prod.mk.injEq, true_and] at h
          have hl : d.length = (dec (rs.take 2)).toNat := by rw [← h, List.length_take, List.length_drop]; omega
          refine ⟨by omega, by omega, by omega, by omega, by omega, ?_, ?_⟩
          · rw [hl]; exact h.symm
          · rw [← h]; exact hs
        · simp at h
theorem FrAt.next {b : List Int} {p : Nat} {ds : List (List Int)} {d : List Int} (h : FrAt b p ds) (hp : p < b.length) (hs : frStep (b.drop p) = (0, d)) : FrAt b (p + 6 + d.length) (ds ++ [d]) := by
  obtain ⟨h1, h2, h3, h4⟩ := h
  obtain ⟨q1, q2, q3, q4, q5, q6, q7⟩ := frStep_ok hs
  rw [List.length_drop] at q1 q5
  refine ⟨?_, by omega, by simp; omega, fun x hx => ?_⟩
  · rw [h1]
    conv => lhs; rw [frP, dif_pos hp, hs]
    simp
  · rcases List.mem_append.1 hx with h | h
    · exact h4 x h
    · rw [List.mem_singleton] at h; subst h; exact q4
theorem FrAt.stop {b : List Int} {p : Nat} {ds : List (List Int)} (h : FrAt b p ds) (hp : p < b.length) (hs : (frStep (b.drop p)).1 ≠ 0) : frP b 0 = (ds, p, (frStep (b.drop p)).1) := by
  rw [h.1, frP, dif_pos hp, if_neg hs]; simp
theorem FrAt.done {b : List Int} {p : Nat} {ds : List (List Int)} (h : FrAt b p ds) (hp : ¬ p < b.length) : frP b 0 = (ds, p, 0) := by
  rw [h.1, frP, dif_neg hp]; simp
theorem six {rs : List Int} (h : 6 ≤ rs.length) : ∃ a b c d e f r, rs = a :: b :: c :: d :: e :: f :: r := by
  match rs, h with
  | a :: b :: c :: d :: e :: f :: r, _ => exact ⟨a, b, c, d, e, f, r, rfl⟩
theorem frame_iff {rs : List Int} (hr : ∀ i, 0 ≤ rs.getD i 0 ∧ rs.getD i 0 ≤ 255) (h6 : 6 ≤ rs.length) {n : Nat} (hn : dec (rs.take 2) = (n : Int)) (hle : n ≤ rs.length - 6) :
    frameL ((rs.drop 6).take n) = rs.take (6 + n) ↔ sumF ((rs.drop 6).take n) = dec ((rs.drop 2).take 4) := by
  obtain ⟨a, b, c, d, e, f, r, rfl⟩ := six h6
  have ha := hr 0
  have hb := hr 1
  have hc := hr 2
  have hd := hr 3
  have he := hr 4
  have hf := hr 5
  simp only [List.getD_cons_zero, List.getD_cons_succ] at ha hb hc hd he hf
  simp only [List.take_succ_cons, List.take_zero, List.drop_succ_cons, List.drop_zero, List.length_cons] at hn hle ⊢
  rw [dec2] at hn
  rw [dec4]
  have hl : (r.take n).length = n := by rw [List.length_take]; omega
  have hrr : ∀ i, 0 ≤ (r.take n).getD i 0 ∧ (r.take n).getD i 0 ≤ 255 := range_take n (fun i => by have := hr (6 + i); rw [show 6 + i = i + 1 + 1 + 1 + 1 + 1 + 1 by omega] at this; simpa only [List.getD_cons_succ] using this)
  have hs := sumF_range (r.take n) hrr
  unfold frameL
  rw [hl, show 6 + n = n + 1 + 1 + 1 + 1 + 1 + 1 by omega]
  simp only [List.take_succ_cons]
  generalize sumF (r.take n) = s at *
  generalize r.take n = t at *
  simp [encN]
  omega
theorem bytes_back2 (l : List Int) (h : ∀ i, 0 ≤ l.getD i 0 ∧ l.getD i 0 ≤ 255) : l = (strOfNums l).data.toList.map fun c => (c.toNat : Int) := by
  rw [strOfNums_data, List.map_map]
  apply List.ext_getElem?
  intro i
  rw [List.getElem?_map]
  by_cases hi : i < l.length
  · have := h i
    rw [List.getD_eq_getElem?_getD, List.getElem?_eq_getElem hi] at this
    rw [List.getElem?_eq_getElem hi]
    simp at this ⊢
    omega
  · rw [List.getElem?_eq_none (by omega)]; rfl
theorem str_inj {l l2 : List Int} (h : ∀ i, 0 ≤ l.getD i 0 ∧ l.getD i 0 ≤ 255) (h2 : ∀ i, 0 ≤ l2.getD i 0 ∧ l2.getD i 0 ≤ 255) : strOfNums l = strOfNums l2 ↔ l = l2 :=
  ⟨fun e => by rw [bytes_back2 l h, e, ← bytes_back2 l2 h2], fun e => by rw [e]⟩
end Go.Proofs.YtfihhkhdigbmiaaGreatDoor
