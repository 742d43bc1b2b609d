/- Peaks: slices of structs of two cells; what the laws do with them: sz, to, eq; a list that came in opened. -/
import Derived.Test.YtnaoccndghnmpaaDoorMkH
import Derived.Test.YtnaoccndghnmpaaDoorIn
import Derived.Deep.Fields
import Derived.Deep.Slices
import Derived.Test.YtnaoccndghnmpaaDoorLawG
import Derived.Deep.RegionHeld3
namespace Go.Proofs.YtnaoccndghnmpaaDoor
open Go.ChangeShapes Go.WideShapes Go.ChangeAt Go.RowKit Go.Deep
set_option linter.unusedVariables false

/-- A peak: size, hash. -/
structure Pk where
  s : Int
  h : ByteArray
deriving Inhabited
def pkC (f : Pk) : List Value := [.int .i64 f.s, .string f.h]
def pksC (l : List Pk) : List Value := l.flatMap pkC
/-- The value is a slice that holds these peaks. -/
def Pks (w : World) (v : Value) (l : List Pk) : Prop :=
  ∃ a cap, v = .slice a l.length cap ∧ l.length ≤ cap ∧ cap ≤ maxLen ∧ (l.length = 0 ∨ ∃ b off, a = some ⟨b, off, none⟩ ∧ b < w.heap.size ∧ ∀ i, i < l.length → w.cell? ⟨b, off + i * 2, none⟩ = some (.int .i64 (l.getD i default).s) ∧ w.cell? ⟨b, off + i * 2 + 1, none⟩ = some (.string (l.getD i default).h))
theorem Pks.below {w w' : World} {v : Value} {l : List Pk} (h : Pks w v l) (hb : Below w.heap.size w w') : Pks w' v l := by
  obtain ⟨a, cap, hv, hn, hm, hc⟩ := h
  refine ⟨a, cap, hv, hn, hm, ?_⟩
  rcases hc with h0 | ⟨b, off, ha, hlt, hc⟩
  · exact .inl h0
  · exact .inr ⟨b, off, ha, Nat.lt_of_lt_of_le hlt hb.size, fun i hi => ⟨(hb.cell (p := ⟨b, off + i * 2, none⟩) hlt).trans (hc i hi).1, (hb.cell (p := ⟨b, off + i * 2 + 1, none⟩) hlt).trans (hc i hi).2⟩⟩
theorem pksC_len (l : List Pk) : (pksC l).length = l.length * 2 := by
  induction l with
  | nil => rfl
  | cons f r ih => simp only [pksC, List.flatMap_cons, List.length_append, List.length_cons] at ih ⊢; rw [ih]; simp [pkC]; omega
theorem pksC_get : ∀ (l : List Pk) (i : Nat), i < l.length → (pksC l)[i * 2]? = some (.int .i64 (l.getD i default).s) ∧ (pksC l)[i * 2 + 1]? = some (.string (l.getD i default).h)
  | [], i, h => by simp at h
  | f :: r, 0, h => ⟨rfl, rfl⟩
  | f :: r, i + 1, h => by
    have ih := pksC_get r i (by simpa using h)
    have e : pksC (f :: r) = .int .i64 f.s :: .string f.h :: pksC r := rfl
    rw [e, show (i + 1) * 2 = i * 2 + 1 + 1 by omega, show i * 2 + 1 + 1 + 1 = (i * 2 + 1) + 1 + 1 by omega]
    simp only [List.getElem?_cons_succ, List.getD_cons_succ]
    exact ih
theorem pksC_set : ∀ (l : List Pk) (k : Nat) (f : Pk), k < l.length → ((pksC l).set (k * 2) (.int .i64 f.s)).set (k * 2 + 1) (.string f.h) = pksC (l.set k f)
  | [], k, f, h => by simp at h
  | g :: r, 0, f, h => rfl
  | g :: r, k + 1, f, h => by
    have ih := pksC_set r k f (by simpa using h)
    have e : ∀ (g : Pk) (r : List Pk), pksC (g :: r) = .int .i64 g.s :: .string g.h :: pksC r := fun _ _ => rfl
    rw [List.set_cons_succ, e, e, ← ih, show (k + 1) * 2 = k * 2 + 1 + 1 by omega, show k * 2 + 1 + 1 + 1 = (k * 2 + 1) + 1 + 1 by omega]
    simp only [List.set_cons_succ]
/-- A slice of the call's own that holds these peaks. -/
def OwnP (B : Nat) (w : World) (v : Value) (l : List Pk) : Prop := w.ownsRow B 81 2 v l.length (pksC l)
theorem OwnP.nil (B : Nat) (w : World) : OwnP B w (.slice none 0 0) [] := World.ownsRow_nil w B 81 2
theorem OwnP.cells {B : Nat} {w : World} {g cap n : Nat} {l : List Pk} (h : w.ownsRow B 81 2 (.slice (some ⟨g, 0, none⟩) n cap) n (pksC l)) (i : Nat) (hi : i < l.length) (hn : n = l.length) :
    w.cell? ⟨g, i * 2, none⟩ = some (.int .i64 (l.getD i default).s) ∧ w.cell? ⟨g, i * 2 + 1, none⟩ = some (.string (l.getD i default).h) := by
  obtain ⟨e0, e1⟩ := pksC_get l i hi
  exact ⟨(h.cellAt _ (by omega)).trans e0, (h.cellAt _ (by omega)).trans e1⟩
theorem OwnP.pks {B : Nat} {w : World} {v : Value} {l : List Pk} (h : OwnP B w v l) : Pks w v l := by
  rcases h.2 with ⟨rfl, h0⟩ | ⟨g, cap, cur, rfl, hb, hg, hn, hm, _⟩
  · obtain rfl := List.eq_nil_of_length_eq_zero h0
    exact ⟨none, 0, rfl, Nat.le_refl _, by unfold maxLen; omega, .inl rfl⟩
  · refine ⟨_, _, rfl, hn, hm, .inr ⟨g, 0, rfl, (Array.getElem?_eq_some_iff.1 hg).1, fun i hi => ?_⟩⟩
    have := OwnP.cells h i hi rfl
    simpa using this
theorem OwnP.kept {T : Nat → Prop} {B : Nat} {w w' : World} {v : Value} {l : List Pk} (h : OwnP B w v l) (ht : Touch T w w') (hn : ∀ k, v.ownBlock = some k → ¬ T k) : OwnP B w' v l := own_kept h ht hn
theorem OwnP.below {B : Nat} {w w' : World} {v : Value} {l : List Pk} (h : OwnP B w v l) (hb : Below w.heap.size w w') : OwnP B w' v l := h.kept (T := fun _ => False) (Touch.ofBelow hb) (fun _ _ h => h)
theorem OwnP.lt {B : Nat} {w : World} {v : Value} {l : List Pk} (h : OwnP B w v l) : ∀ k, v.ownBlock = some k → B ≤ k ∧ k < w.heap.size := World.ownsRow.lt h
theorem infoPk : (Tryd.prog.info? 81).map (fun i => (i.zero, i.size, i.bytes)) = some (some (.agg #[.int .i64 0, .string ⟨#[]⟩]), 2, 24) := by kernel_rfl

/-- Bytes of the hashes of the first k peaks. -/
def pwTo (l : List Pk) : Nat → Int
  | 0 => 0
  | k + 1 => pwTo l k + ((l.getD k default).h.size : Int)
theorem pw_mono (l : List Pk) (i j : Nat) (h : i ≤ j) : pwTo l i ≤ pwTo l j := by
  induction j with
  | zero => obtain rfl : i = 0 := by omega
            exact Int.le_refl _
  | succ j ih =>
    by_cases e : i = j + 1
    · subst e; exact Int.le_refl _
    · have := ih (by omega)
      show _ ≤ pwTo l j + _
      omega
def pszR (L : Int) (l : List Pk) : Int := if (l.length : Int) + pwTo l l.length ≤ L then L - (l.length : Int) - pwTo l l.length else -1
def pszF (f : Pk) (left : Int) : Int := if left - (f.h.size : Int) < 0 then -1 else left - (f.h.size : Int)
theorem pszR_cases (L : Int) (l : List Pk) : pszR L l = -1 ∨ (0 ≤ pszR L l ∧ pszR L l ≤ L) := by
  have hw0 := pw_mono l 0 l.length (Nat.zero_le _)
  have hw00 : pwTo l 0 = 0 := rfl
  unfold pszR; split
  · right; omega
  · left; rfl
theorem psmall_of (L : Int) (hL : L ≤ 1048576) (l : List Pk) (h : 0 ≤ pszR L l) : l.length ≤ 1048576 ∧ ∀ i, (l.getD i default).h.size ≤ 1048576 := by
  have h1 : (l.length : Int) + pwTo l l.length ≤ L := by
    unfold pszR at h
    split at h
    · assumption
    · omega
  have hw0 := pw_mono l 0 l.length (Nat.zero_le _)
  have hw00 : pwTo l 0 = 0 := rfl
  refine ⟨by omega, fun i => ?_⟩
  by_cases hi : i < l.length
  · have e2 : pwTo l (i + 1) = pwTo l i + ((l.getD i default).h.size : Int) := rfl
    have := pw_mono l (i + 1) l.length (by omega)
    have := pw_mono l 0 i (Nat.zero_le _)
    omega
  · rw [List.getD_eq_getElem?_getD, List.getElem?_eq_none (by omega)]
    have e : (default : Pk).h.size = 0 := rfl
    simp only [Option.getD_none]
    omega
def zeroPk : Pk := ⟨0, ⟨#[]⟩⟩
def fillP (l : List Pk) (k : Nat) : List Pk := (List.range l.length).map fun j => if j < k then l.getD j default else zeroPk
theorem fillP_len (l : List Pk) (k : Nat) : (fillP l k).length = l.length := by simp [fillP]
theorem fillP_all (l : List Pk) : fillP l l.length = l := by
  apply List.ext_getElem?
  intro j
  by_cases hj : j < l.length
  · simp [fillP, hj, List.getD_eq_getElem?_getD]
  · simp [fillP, hj]
theorem fillP_set (l : List Pk) (k : Nat) (hk : k < l.length) : (fillP l k).set k (l.getD k default) = fillP l (k + 1) := by
  apply List.ext_getElem?
  intro j
  rw [List.getElem?_set]
  simp only [fillP_len]
  by_cases e : k = j
  · subst e
    rw [if_pos rfl, if_pos hk]
    simp [fillP, hk]
  · rw [if_neg e]
    by_cases hj : j < l.length
    · by_cases h1 : j < k
      · simp [fillP, hj, h1, show j < k + 1 by omega]
      · simp [fillP, hj, h1, show ¬ j < k + 1 by omega]
    · simp [fillP, hj]
theorem made2p (a b : Value) (n j : Nat) (hj : j < n) : (madeCells #[a, b] n).toList[j]? = some (if j % 2 = 0 then a else b) := by
  have h3 : (#[a, b] : Array Value).size = 2 := rfl
  unfold madeCells
  rw [h3, Array.getElem?_toList, Array.getElem?_map]
  have hr : (Array.range n)[j]? = some j := by simp [hj]
  rw [hr, Option.map_some]
  rcases (show j % 2 = 0 ∨ j % 2 = 1 by omega) with e | e
  · rw [e]; rfl
  · rw [e]; rfl
theorem made_pk (l : List Pk) : (madeCells (Value.agg #[.int .i64 0, .string ⟨#[]⟩]).cells (l.length * 2)).toList = pksC (fillP l 0) := by
  have hcs : (Value.agg #[.int .i64 0, .string ⟨#[]⟩]).cells = #[Value.int .i64 0, .string ⟨#[]⟩] := rfl
  rw [hcs]
  apply List.ext_getElem?
  intro j
  by_cases hj : j < l.length * 2
  · have hq : j / 2 < (fillP l 0).length := by rw [fillP_len]; omega
    obtain ⟨g0, g1⟩ := pksC_get (fillP l 0) (j / 2) hq
    have hz : (fillP l 0).getD (j / 2) default = zeroPk := by
      rw [fillP_len] at hq
      rw [List.getD_eq_getElem?_getD]
      simp [fillP, hq]
    rw [hz] at g0 g1
    rw [made2p _ _ _ _ hj]
    rcases (show j % 2 = 0 ∨ j % 2 = 1 by omega) with e | e
    · rw [show j / 2 * 2 = j by omega] at g0; rw [g0, e]; rfl
    · rw [show j / 2 * 2 + 1 = j by omega] at g1; rw [g1, e]; rfl
  · have e1 : (madeCells #[Value.int .i64 0, .string ⟨#[]⟩] (l.length * 2)).toList[j]? = none := List.getElem?_eq_none (by rw [Array.length_toList, size_madeCells]; omega)
    have e2 : (pksC (fillP l 0))[j]? = none := List.getElem?_eq_none (by rw [pksC_len, fillP_len]; omega)
    rw [e1, e2]
end Go.Proofs.YtnaoccndghnmpaaDoor
