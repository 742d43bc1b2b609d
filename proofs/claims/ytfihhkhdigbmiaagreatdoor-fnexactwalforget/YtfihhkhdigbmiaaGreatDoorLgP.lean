/- The log on a disk, in plain terms: its segments, read one by one. -/
import Derived.Test.YtfihhkhdigbmiaaGreatDoorPlc
import Derived.Test.YtfihhkhdigbmiaaGreatDoorFilO
import Derived.Test.YtfihhkhdigbmiaaGreatDoorFrR
namespace Go.Proofs.YtfihhkhdigbmiaaGreatDoor
open Go.ChangeShapes Go.WideShapes Go.ChangeAt Go.RowKit
set_option linter.unusedVariables false

/-- The segments among files. -/
def segsP (l : List Fl) : List Fl := l.filter fun f => decide (0 < plcP f.n)
/-- A file read as frames. -/
def frF (f : Fl) : List (List Int) × Nat × Int := frP (bytesI f.d) 0
structure Lg where
  first : Int
  recs : List ByteArray
  names : List ByteArray
  torn : Int
def lg0 : Lg := ⟨0, [], [], 0⟩
/-- The code of segment i, behind the log of those ahead of it. -/
def lgCode (sg : List Fl) (i : Nat) (L : Lg) : Int :=
  if (frF (sg.getD i default)).2.2 = 8 ∨ ((frF (sg.getD i default)).2.2 = 16 ∧ i + 1 < sg.length) then 8
  else if 0 < i ∧ plcP (sg.getD i default).n ≠ plcP (sg.getD (i - 1) default).n + 1 then 3
  else if (frF (sg.getD i default)).1 = [] then (if i + 1 = sg.length then 0 else 3)
  else if ((frF (sg.getD i default)).1.getD 0 []).length ≠ 4 then 3
  else if 0 < i ∧ dec ((frF (sg.getD i default)).1.getD 0 []) ≠ L.first + L.recs.length then 3
  else 0
def lgNext (sg : List Fl) (i : Nat) (L : Lg) : Lg :=
  ⟨if (frF (sg.getD i default)).1 = [] then L.first else if i = 0 then dec ((frF (sg.getD i default)).1.getD 0 []) else L.first,
   L.recs ++ ((frF (sg.getD i default)).1.drop 1).map strOfNums, L.names ++ [(sg.getD i default).n], (sg.getD i default).d.size - (frF (sg.getD i default)).2.1⟩
def lgAt (sg : List Fl) : Nat → Lg
  | 0 => lg0
  | i + 1 => lgNext sg i (lgAt sg i)
def lgRun (sg : List Fl) (i : Nat) : Lg × Int :=
  if h : i < sg.length then (if lgCode sg i (lgAt sg i) = 0 then lgRun sg (i + 1) else (lg0, lgCode sg i (lgAt sg i))) else (lgAt sg i, 0)
termination_by sg.length - i
def lgGood (sg : List Fl) (i : Nat) : Prop := lgRun sg 0 = lgRun sg i
theorem lgGood.zero (sg : List Fl) : lgGood sg 0 := rfl
theorem lgGood.next {sg : List Fl} {i : Nat} (h : lgGood sg i) (hi : i < sg.length) (hc : lgCode sg i (lgAt sg i) = 0) : lgGood sg (i + 1) := by
  unfold lgGood at h ⊢
  rw [h, lgRun, dif_pos hi, if_pos hc]
theorem lgGood.bad {sg : List Fl} {i : Nat} (h : lgGood sg i) (hi : i < sg.length) (hc : lgCode sg i (lgAt sg i) ≠ 0) : lgRun sg 0 = (lg0, lgCode sg i (lgAt sg i)) := by
  unfold lgGood at h
  rw [h, lgRun, dif_pos hi, if_neg hc]
theorem lgGood.done {sg : List Fl} {i : Nat} (h : lgGood sg i) (hi : ¬ i < sg.length) : lgRun sg 0 = (lgAt sg i, 0) := by
  unfold lgGood at h
  rw [h, lgRun, dif_neg hi]
def walOut (room : Int) (l : List Fl) : Lg × Int := if diskB room l then lgRun (segsP l) 0 else (lg0, 1)

theorem frP_len2 (b : List Int) : ∀ n p, b.length - p = n → (frP b p).1.length ≤ n := by
  intro n
  induction n using Nat.strongRecOn with
  | ind n ih =>
    intro p hp
    rw [frP]
    split
    · split
      · have := ih (b.length - (p + 6 + (frStep (b.drop p)).2.length)) (by omega) _ rfl
        simp only [List.length_cons]
        omega
      · simp
    · simp
theorem bytesI_len2 (s : ByteArray) : (bytesI s).length = s.size := by simp [bytesI]
theorem frF_len (f : Fl) : (frF f).1.length ≤ f.d.size := by
  have := frP_len2 (bytesI f.d) _ 0 rfl
  rw [bytesI_len2] at this
  exact this
theorem usedTo_mono (l : List Fl) (i j : Nat) (h : i ≤ j) : usedTo l i ≤ usedTo l j := by
  induction j with
  | zero =>
    obtain rfl : i = 0 := by omega
    exact Int.le_refl _
  | succ j ih =>
    by_cases e : i = j + 1
    · subst e; exact Int.le_refl _
    · have := ih (by omega)
      show usedTo l i ≤ usedTo l j + _
      omega
theorem file_small {room : Int} {l : List Fl} (h : diskB room l = true) (i : Nat) (hi : i < l.length) : (l.getD i default).d.size ≤ 3000 := by
  unfold diskB at h
  simp only [Bool.and_eq_true, decide_eq_true_eq] at h
  obtain ⟨⟨⟨h1, _⟩, _⟩, h2⟩ := h
  have := (inB_iff.1 h1).2
  have h3 := usedTo_mono l (i + 1) l.length (by omega)
  have h4 : 0 ≤ usedTo l i := by have := usedTo_mono l 0 i (by omega); exact this
  have h5 : usedTo l (i + 1) = usedTo l i + ((l.getD i default).d.size : Int) := rfl
  omega
theorem seg_small {room : Int} {l : List Fl} (h : diskB room l = true) : ∀ f ∈ l, f.d.size ≤ 3000 := by
  intro f hf
  obtain ⟨i, hi, rfl⟩ := List.getElem_of_mem hf
  have := file_small h i hi
  rwa [List.getD_eq_getElem?_getD, List.getElem?_eq_getElem hi] at this
theorem rfOut_small {f : Fl} (h : f.d.size ≤ 65536) : rfOut (bytesI f.d) = frF f := by
  unfold rfOut
  rw [if_neg (by rw [bytesI_len2]; omega)]
  rfl
theorem lgAt_recs (sg : List Fl) (hs : ∀ f ∈ sg, f.d.size ≤ 3000) : ∀ i, i ≤ sg.length → (lgAt sg i).recs.length ≤ i * 3000
  | 0, _ => by simp [lgAt, lg0]
  | i + 1, h => by
    have ih := lgAt_recs sg hs i (by omega)
    have hf := frF_len (sg.getD i default)
    have hd := hs (sg.getD i default) (by rw [List.getD_eq_getElem?_getD, List.getElem?_eq_getElem (by omega)]; exact List.getElem_mem _)
    simp only [lgAt, lgNext, List.length_append, List.length_map, List.length_drop]
    omega
theorem lgAt_names (sg : List Fl) : ∀ i, (lgAt sg i).names.length = i
  | 0 => rfl
  | i + 1 => by simp [lgAt, lgNext, lgAt_names sg i]
end Go.Proofs.YtfihhkhdigbmiaaGreatDoor
