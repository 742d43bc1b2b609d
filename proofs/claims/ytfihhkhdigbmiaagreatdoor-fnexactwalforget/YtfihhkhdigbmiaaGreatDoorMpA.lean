/- A table of files: a map by their names that reads as a list in the names' order (pure). -/
import Derived.Test.YtfihhkhdigbmiaaGreatDoorFilO
import Derived.Maps.Own
import Derived.Maps.OwnSet
import Derived.Sort.Walk0
import Derived.Sort.KeysCollected
namespace Go.Proofs.YtfihhkhdigbmiaaGreatDoor
open Go.ChangeShapes Go.WideShapes Go.ChangeAt Go.RowKit Go.Maps Go.Sort
set_option linter.unusedVariables false
set_option linter.unusedSimpArgs false

def nmL (f : Fl) : List UInt8 := f.n.data.toList
def flD (f : Fl) : DataW Unit := .agg [.lit (.string f.n.data.toList), .lit (.string f.d.data.toList), .lit (.int .i64 f.s)]
def flV (f : Fl) : Value := .agg #[.string f.n, .string f.d, .int .i64 f.s]
/-- How a file reads that lies in a map. -/
def flR (v : Value) : Option (DataW Unit × List MemPlace) :=
  match v with
  | .agg a => match a.toList with
    | [.string x, .string y, .int .i64 z] => some (.agg [.lit (.string x.data.toList), .lit (.string y.data.toList), .lit (.int .i64 z)], [])
    | _ => none
  | _ => none
theorem flR_mk (f : Fl) : flR (flV f) = some (flD f, []) := rfl
theorem ba_inj {x y : ByteArray} (h : x.data.toList = y.data.toList) : x = y := by cases x; cases y; exact congrArg ByteArray.mk (Array.toList_inj.1 h)
theorem flR_inv {v : Value} {f : Fl} {ps : List MemPlace} (h : flR v = some (flD f, ps)) : v = flV f := by
  unfold flR at h
  split at h
  · rename_i a
    split at h
    · rename_i x y z ha
      simp only [flD, Option.some.injEq, Prod.mk.injEq, DataW.agg.injEq, List.cons.injEq, DataW.lit.injEq, Lit.string.injEq, Lit.int.injEq, true_and, and_true] at h
      obtain ⟨⟨h1, h2, h3⟩, _⟩ := h
      obtain rfl := ba_inj h1
      obtain rfl := ba_inj h2
      subst h3
      unfold flV
      congr 1
      exact Array.toList_inj.1 ha
    · cases h
  · cases h
def flE (f : Fl) : Lit × DataW Unit := (.string (nmL f), flD f)
/-- The map that reads as these files. -/
def mapD (l : List Fl) : DataW Unit := .map (l.map flE)
def bb (f g : Fl) : Bool := bytesBefore (nmL f) (nmL g)
theorem bb_less : ∀ x y : List UInt8, bytesBefore x y = Op.bytesLess x y
  | [], [] => rfl
  | [], _ :: _ => rfl
  | _ :: _, [] => rfl
  | a :: x, b :: y => by simp only [bytesBefore, Op.bytesLess, bb_less x y]
theorem bb_lessB (f g : Fl) : bb f g = lessB f.n g.n := by unfold bb lessB nmL; rw [bb_less, ByteArray.toList_eq, ByteArray.toList_eq]
theorem bb_irr (f g : Fl) (h : f.n = g.n) : bb f g = false := by unfold bb nmL; rw [h]; exact WideAt.bytes_irrefl _
theorem bb_ne {f g : Fl} (h : bb f g = true) : nmL f ≠ nmL g := fun e => by unfold bb at h; rw [e, WideAt.bytes_irrefl] at h; cases h
theorem bb_asym {f g : Fl} (h : bb f g = true) : bb g f = false := by
  cases h2 : bb g f with
  | false => rfl
  | true => exact absurd (bytes_trans _ _ _ h h2) (by rw [WideAt.bytes_irrefl]; decide)
/-- Names that rise. -/
def Ris (l : List Fl) : Prop := l.Pairwise (fun f g => bb f g = true)
theorem ris_of_disk {room : Int} {l : List Fl} (h : diskB room l = true) : Ris l := by
  have hall : allTo l l.length := by
    unfold diskB at h
    simp only [Bool.and_eq_true, List.all_eq_true, List.mem_range] at h
    exact fun i hi => h.1.2 i hi
  have hstep : ∀ i, i + 1 < l.length → bb (l.getD i default) (l.getD (i + 1) default) = true := by
    intro i hi
    have := hall (i + 1) hi
    unfold fileB at this
    simp only [Bool.and_eq_true, Bool.or_eq_true, decide_eq_true_eq] at this
    rw [bb_lessB]
    rcases this.2 with h0 | h0
    · omega
    · exact h0
  have hgo : ∀ k i, i + 1 + k < l.length → bb (l.getD i default) (l.getD (i + 1 + k) default) = true := by
    intro k
    induction k with
    | zero => exact fun i hi => hstep i hi
    | succ k ih => exact fun i hi => bytes_trans _ _ _ (ih i (by omega)) (by have := hstep (i + 1 + k) hi; exact this)
  refine List.pairwise_iff_getElem.2 fun i j hi hj hij => ?_
  have := hgo (j - i - 1) i (by omega)
  rw [show i + 1 + (j - i - 1) = j by omega] at this
  rw [List.getD_eq_getElem?_getD, List.getD_eq_getElem?_getD, List.getElem?_eq_getElem hi, List.getElem?_eq_getElem hj] at this
  exact this
theorem same_no {f : Fl} {l : List Fl} (h : ∀ g ∈ l, nmL g ≠ nmL f) : (l.map flE).filter (fun p => !p.1.sameKey (.string (nmL f))) = l.map flE := by
  refine List.filter_eq_self.2 fun p hp => ?_
  obtain ⟨g, hg, rfl⟩ := List.mem_map.1 hp
  simp only [flE, Lit.sameKey, Bool.not_eq_true']
  exact beq_eq_false_iff_ne.2 (h g hg)
theorem ins_mid (f : Fl) (B : List Fl) (hB : ∀ g ∈ B, bb f g = true) : ∀ A : List Fl, (∀ g ∈ A, bb f g = false) → DataW.insert (flE f) (A.map flE ++ B.map flE) = A.map flE ++ flE f :: B.map flE
  | [], _ => by
    cases B with
    | nil => rfl
    | cons g B =>
      show (if (flE f).1.before (flE g).1 then _ else _) = _
      rw [if_pos (show (flE f).1.before (flE g).1 = true from hB g (List.mem_cons_self ..))]
      rfl
  | g :: A, hA => by
    show (if (flE f).1.before (flE g).1 then _ else _) = _
    rw [if_neg (by rw [show (flE f).1.before (flE g).1 = bb f g from rfl, hA g (List.mem_cons_self ..)]; decide)]
    exact congrArg (flE g :: ·) (ins_mid f B hB A (fun x hx => hA x (List.mem_cons_of_mem _ hx)))
/-- A file is put between those before it and those behind it. -/
theorem put_mid (A B : List Fl) (f : Fl) (hA : ∀ g ∈ A, bb g f = true) (hB : ∀ g ∈ B, bb f g = true) : (mapD (A ++ B)).put (.string (nmL f)) (flD f) = mapD (A ++ f :: B) := by
  have hno : ∀ g ∈ A ++ B, nmL g ≠ nmL f := fun g hg => by
    rcases List.mem_append.1 hg with h | h
    · exact bb_ne (hA g h)
    · exact (bb_ne (hB g h)).symm
  show DataW.map (DataW.insert (flE f) (((A ++ B).map flE).filter _)) = _
  rw [same_no hno, List.map_append, ins_mid f B hB A (fun g hg => bb_asym (hA g hg))]
  show _ = DataW.map ((A ++ f :: B).map flE)
  rw [List.map_append]
  rfl
/-- A file is struck. -/
theorem del_mid (A B : List Fl) (f : Fl) (h : ∀ g ∈ A ++ B, nmL g ≠ nmL f) : (mapD (A ++ f :: B)).del (.string (nmL f)) = mapD (A ++ B) := by
  show DataW.map (((A ++ f :: B).map flE).filter _) = _
  have h1 := same_no (l := A) (f := f) (fun g hg => h g (List.mem_append_left _ hg))
  have h2 := same_no (l := B) (f := f) (fun g hg => h g (List.mem_append_right _ hg))
  rw [List.map_append, List.filter_append, h1, List.map_cons, List.filter_cons_of_neg (by simp [flE, Lit.sameKey]), h2, ← List.map_append]
  rfl
theorem at_mid (A B : List Fl) (f : Fl) (h : ∀ g ∈ A, nmL g ≠ nmL f) (z : DataW Unit) : (mapD (A ++ f :: B)).atKey (.string (nmL f)) z = flD f := by
  unfold mapD DataW.atKey
  dsimp only
  rw [List.map_append, List.find?_append, List.find?_eq_none.2 (by
    intro p hp
    obtain ⟨g, hg, rfl⟩ := List.mem_map.1 hp
    simp only [flE, Lit.sameKey, beq_iff_eq]
    exact h g hg)]
  simp [flE, Lit.sameKey]
theorem has_mid (A B : List Fl) (f : Fl) : has (mapD (A ++ f :: B)) (.string (nmL f)) = true := by
  unfold mapD
  rw [has_eq, List.any_eq_true]
  exact ⟨flE f, List.mem_map.2 ⟨f, by simp, rfl⟩, by simp [flE, Lit.sameKey]⟩
theorem has_no {l : List Fl} {s : List UInt8} (h : ∀ g ∈ l, nmL g ≠ s) : has (mapD l) (.string s) = false := by
  unfold mapD
  rw [has_eq, List.any_eq_false]
  intro p hp
  obtain ⟨g, hg, rfl⟩ := List.mem_map.1 hp
  simp only [flE, Lit.sameKey, beq_iff_eq]
  exact h g hg
theorem size_mapD (l : List Fl) : Maps.size (mapD l) = l.length := by simp [mapD, Maps.size_eq]
theorem keys_mapD (l : List Fl) : strKeys (mapD l) = l.map nmL := by
  simp only [strKeys, mapD, List.map_map]
  rfl
theorem sort_keys {l : List Fl} (h : Ris l) {ss : List (List UInt8)} (hp : ss.Perm (strKeys (mapD l))) : ss.mergeSort (fun x y => decide (x ≤ y)) = l.map nmL := by
  rw [keys_mapD] at hp
  have e := mergeSort_of_perm hp
  refine e.trans (List.mergeSort_of_pairwise ?_)
  refine List.pairwise_map.2 (h.imp fun {f g} hfg => ?_)
  have h1 : nmL f < nmL g := by
    have : bb f g = true := hfg
    unfold bb at this
    rw [bb_less, bytesLess_eq] at this
    exact of_decide_eq_true this
  exact decide_eq_true (Std.le_of_lt h1)
/-- A rising list, cut at one of its places. -/
theorem ris_mid {A B : List Fl} {f : Fl} (h : Ris (A ++ f :: B)) : (∀ g ∈ A, bb g f = true) ∧ (∀ g ∈ B, bb f g = true) ∧ Ris (A ++ B) ∧ ∀ g ∈ A ++ B, nmL g ≠ nmL f := by
  unfold Ris at *
  rw [List.pairwise_append, List.pairwise_cons] at h
  obtain ⟨h1, ⟨h2, h3⟩, h4⟩ := h
  refine ⟨fun g hg => h4 g hg f (List.mem_cons_self ..), h2, List.pairwise_append.2 ⟨h1, h3, fun a ha b hb => h4 a ha b (List.mem_cons_of_mem _ hb)⟩, fun g hg => ?_⟩
  rcases List.mem_append.1 hg with hh | hh
  · exact bb_ne (h4 g hh f (List.mem_cons_self ..))
  · exact (bb_ne (h2 g hh)).symm
end Go.Proofs.YtfihhkhdigbmiaaGreatDoor
