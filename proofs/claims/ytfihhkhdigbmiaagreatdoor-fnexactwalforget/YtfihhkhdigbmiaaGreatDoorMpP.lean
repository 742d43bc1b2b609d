/- A file put in its place by its name: pure. -/
import Derived.Test.YtfihhkhdigbmiaaGreatDoorMpA
namespace Go.Proofs.YtfihhkhdigbmiaaGreatDoor
open Go.ChangeShapes Go.WideShapes Go.ChangeAt Go.RowKit Go.Maps Go.Sort
set_option linter.unusedVariables false
set_option linter.unusedSimpArgs false

def ltF (f g : Fl) : Bool := bb g f
/-- Whether f's place was passed. -/
def plF (f : Fl) (l : List Fl) : Bool := l.any fun g => !bb g f
def poF (f : Fl) (l : List Fl) : List Fl := l.filter (fun g => bb g f) ++ (if plF f l = true then f :: l.filter (fun g => bb f g) else [])
def putL (f : Fl) (l : List Fl) : List Fl := l.filter (fun g => bb g f) ++ f :: l.filter (fun g => bb f g)
theorem plF_snoc (f : Fl) (l : List Fl) (g : Fl) : plF f (l ++ [g]) = (plF f l || !bb g f) := by simp [plF]
theorem flt_snoc (f : Fl) (l : List Fl) (g : Fl) : (l ++ [g]).filter (fun g => bb g f) = l.filter (fun g => bb g f) ++ (if bb g f = true then [g] else []) := by
  rw [List.filter_append]
  cases h : bb g f <;> simp [h]
theorem fgt_snoc (f : Fl) (l : List Fl) (g : Fl) : (l ++ [g]).filter (fun g => bb f g) = l.filter (fun g => bb f g) ++ (if bb f g = true then [g] else []) := by
  rw [List.filter_append]
  cases h : bb f g <;> simp [h]
theorem no_gt {f : Fl} {l : List Fl} (h : plF f l = false) : l.filter (fun g => bb f g) = [] := by
  refine List.filter_eq_nil_iff.2 fun g hg => ?_
  unfold plF at h
  have := List.any_eq_false.1 h g hg
  have h1 : bb g f = true := by simpa using this
  rw [bb_asym h1]; decide
theorem po_before {f g : Fl} {l : List Fl} (h : plF f l = false) (hg : bb g f = true) : poF f (l ++ [g]) = poF f l ++ [g] ∧ plF f (l ++ [g]) = false := by
  have h2 : plF f (l ++ [g]) = false := by rw [plF_snoc, h, hg]; rfl
  refine ⟨?_, h2⟩
  unfold poF
  rw [flt_snoc, if_pos hg, if_neg (by rw [h2]; decide), if_neg (by rw [h]; decide)]
  simp
theorem po_same {f g : Fl} {l : List Fl} (h : plF f l = false) (hg : nmL g = nmL f) : poF f (l ++ [g]) = poF f l ++ [f] ∧ plF f (l ++ [g]) = true := by
  have h1 : bb g f = false := by unfold bb; rw [hg]; exact WideAt.bytes_irrefl _
  have h3 : bb f g = false := by unfold bb; rw [hg]; exact WideAt.bytes_irrefl _
  have h2 : plF f (l ++ [g]) = true := by rw [plF_snoc, h1]; simp
  refine ⟨?_, h2⟩
  unfold poF
  rw [flt_snoc, fgt_snoc, if_neg (by rw [h1]; decide), if_pos h2, if_neg (by rw [h3]; decide), if_neg (by rw [h]; decide), no_gt h]
  simp
theorem po_first {f g : Fl} {l : List Fl} (h : plF f l = false) (hg : bb f g = true) : poF f (l ++ [g]) = poF f l ++ [f] ++ [g] ∧ plF f (l ++ [g]) = true := by
  have h1 : bb g f = false := bb_asym hg
  have h2 : plF f (l ++ [g]) = true := by rw [plF_snoc, h1]; simp
  refine ⟨?_, h2⟩
  unfold poF
  rw [flt_snoc, fgt_snoc, if_neg (by rw [h1]; decide), if_pos h2, if_pos hg, if_neg (by rw [h]; decide), no_gt h]
  simp
theorem po_behind {f g : Fl} {l : List Fl} (h : plF f l = true) (hr : Ris (l ++ [g])) : poF f (l ++ [g]) = poF f l ++ [g] ∧ plF f (l ++ [g]) = true ∧ bb f g = true := by
  have hg : bb f g = true := by
    unfold plF at h
    obtain ⟨x, hx, hx2⟩ := List.any_eq_true.1 h
    have hxg : bb x g = true := by
      unfold Ris at hr
      rw [List.pairwise_append] at hr
      exact hr.2.2 x hx g (List.mem_singleton.2 rfl)
    have h1 : bb x f = false := by simpa using hx2
    by_cases e : nmL x = nmL f
    · unfold bb at *; rw [← e]; exact hxg
    · rcases WideAt.bytes_total _ _ e with h2 | h2
      · unfold bb at h1; rw [h2] at h1; cases h1
      · exact bytes_trans _ _ _ h2 hxg
  have h1 : bb g f = false := bb_asym hg
  have h2 : plF f (l ++ [g]) = true := by rw [plF_snoc, h]; rfl
  refine ⟨?_, h2, hg⟩
  unfold poF
  rw [flt_snoc, fgt_snoc, if_neg (by rw [h1]; decide), if_pos h2, if_pos hg, if_pos h]
  simp
theorem po_end (f : Fl) (l : List Fl) : putL f l = poF f l ++ (if plF f l = true then [] else [f]) := by
  unfold putL poF
  cases h : plF f l with
  | true => simp
  | false => rw [no_gt h]; simp
theorem putL_mid {A B : List Fl} {f g : Fl} (hn : nmL f = nmL g) (h : Ris (A ++ g :: B)) : putL f (A ++ g :: B) = A ++ f :: B := by
  obtain ⟨hA, hB, _, _⟩ := ris_mid h
  have a1 : ∀ x ∈ A, bb x f = true := fun x hx => by have := hA x hx; unfold bb at *; rwa [hn]
  have b1 : ∀ x ∈ B, bb f x = true := fun x hx => by have := hB x hx; unfold bb at *; rwa [hn]
  have g1 : bb g f = false := by unfold bb; rw [hn]; exact WideAt.bytes_irrefl _
  have g2 : bb f g = false := by unfold bb; rw [hn]; exact WideAt.bytes_irrefl _
  unfold putL
  rw [List.filter_append, List.filter_append, List.filter_cons_of_neg (by rw [g1]; decide), List.filter_cons_of_neg (by rw [g2]; decide), List.filter_eq_self.2 a1, List.filter_eq_self.2 b1, List.filter_eq_nil_iff.2 (fun x hx => by rw [bb_asym (b1 x hx)]; decide), List.filter_eq_nil_iff.2 (fun x hx => by rw [bb_asym (a1 x hx)]; decide)]
  simp
end Go.Proofs.YtfihhkhdigbmiaaGreatDoor
