/- Lists of texts as the laws take them: szStringS, toStringS, a list that came in opened. -/
import Derived.Test.YtnaoccndghnmpaaDoorStr
import Derived.SliceStrings
namespace Go.Proofs.YtnaoccndghnmpaaDoor
open Go.ChangeShapes Go.WideShapes Go.ChangeAt Go.RowKit
set_option linter.unusedVariables false

theorem info9L : (Tryd.prog.info? 9).map (fun i => (i.zero, i.size, i.bytes)) = some (some (.string ⟨#[]⟩), 1, 16) := by kernel_rfl
theorem info_parts9 : ∃ i, Tryd.prog.info? 9 = some i ∧ i.zero = some (.string ⟨#[]⟩) ∧ i.size = 1 ∧ i.bytes = 16 := by
  have h := info9L
  cases e : Tryd.prog.info? 9 with
  | none => rw [e] at h; cases h
  | some i =>
    rw [e] at h
    simp only [Option.map_some, Option.some.injEq, Prod.mk.injEq] at h
    exact ⟨i, rfl, h.1, h.2.1, h.2.2⟩

/-- Bytes of the first k texts. -/
def swTo (l : List ByteArray) : Nat → Int
  | 0 => 0
  | k + 1 => swTo l k + ((l.getD k ByteArray.empty).size : Int)
theorem sw_mono (l : List ByteArray) (i j : Nat) (h : i ≤ j) : swTo l i ≤ swTo l j := by
  induction j with
  | zero => obtain rfl : i = 0 := by omega
            exact Int.le_refl _
  | succ j ih =>
    by_cases e : i = j + 1
    · subst e; exact Int.le_refl _
    · have := ih (by omega)
      show _ ≤ swTo l j + _
      omega
/-- What the measure of all of it leaves of L, or -1. -/
def sszR (L : Int) (l : List ByteArray) : Int := if (l.length : Int) + swTo l l.length ≤ L then L - (l.length : Int) - swTo l l.length else -1
theorem sszR_cases (L : Int) (l : List ByteArray) : sszR L l = -1 ∨ (0 ≤ sszR L l ∧ sszR L l ≤ L) := by
  have hw0 := sw_mono l 0 l.length (Nat.zero_le _)
  have hw00 : swTo l 0 = 0 := rfl
  unfold sszR; split
  · right; omega
  · left; rfl
/-- A list that the laws measure is small. -/
theorem ssmall_of (L : Int) (hL : L ≤ 1048576) (l : List ByteArray) (h : 0 ≤ sszR L l) : l.length ≤ 1048576 ∧ ∀ i, (l.getD i ByteArray.empty).size ≤ 1048576 := by
  have h1 : (l.length : Int) + swTo l l.length ≤ L := by
    unfold sszR at h
    split at h
    · assumption
    · omega
  have hw0 := sw_mono l 0 l.length (Nat.zero_le _)
  have hw00 : swTo l 0 = 0 := rfl
  refine ⟨by omega, fun i => ?_⟩
  by_cases hi : i < l.length
  · have e2 : swTo l (i + 1) = swTo l i + ((l.getD i ByteArray.empty).size : Int) := rfl
    have := sw_mono l (i + 1) l.length (by omega)
    have := sw_mono l 0 i (Nat.zero_le _)
    omega
  · rw [List.getD_eq_getElem?_getD, List.getElem?_eq_none (by omega)]
    have e : (ByteArray.empty).size = 0 := rfl
    simp only [Option.getD_none]
    omega

def copS (l : List ByteArray) (k : Nat) : List ByteArray := (List.range l.length).map fun j => if j < k then l.getD j ByteArray.empty else ByteArray.empty
theorem copS_len (l : List ByteArray) (k : Nat) : (copS l k).length = l.length := by simp [copS]
theorem copS_zero (l : List ByteArray) : (copS l 0).map Value.string = List.replicate l.length (Value.string ⟨#[]⟩) := by
  apply List.ext_getElem?
  intro j
  by_cases hj : j < l.length
  · simp [copS, hj]; rfl
  · simp [copS, hj]
theorem copS_all (l : List ByteArray) : copS l l.length = l := by
  apply List.ext_getElem?
  intro j
  by_cases hj : j < l.length
  · simp [copS, hj, List.getD_eq_getElem?_getD]
  · simp [copS, hj]
theorem copS_set (l : List ByteArray) (k : Nat) (hk : k < l.length) : ((copS l k).map Value.string).set k (.string (l.getD k ByteArray.empty)) = (copS l (k + 1)).map Value.string := by
  apply List.ext_getElem?
  intro j
  rw [List.getElem?_set]
  simp only [List.length_map, copS_len, List.getElem?_map]
  by_cases e : k = j
  · subst e
    rw [if_pos rfl, if_pos hk]
    simp [copS, hk]
  · rw [if_neg e]
    by_cases hj : j < l.length
    · by_cases h1 : j < k
      · simp [copS, hj, h1, show j < k + 1 by omega]
      · simp [copS, hj, h1, show ¬ j < k + 1 by omega]
    · simp [copS, hj]

set_option maxRecDepth 100000 in
/-- A list of texts that came in, opened. -/
theorem open_texts {H : Type} {enc : TypeId × Value → H} {W : World} {base b0 : Nat} {r : Reach} {sp : Nat → Bool} {held : Bool} {v : Value} {d : DataW H} {p : List MemPlace}
    (hv : Value.okWide Tryd.prog W r b0 23 v) (h : DataW.Trod enc Tryd.prog W base sp held 23 v d p) :
    ∃ l : List ByteArray, Strs W v l ∧ ∀ i, i < l.length → (l.getD i ByteArray.empty).size ≤ maxLen := by
  obtain ⟨a0, len0, cap0, rfl⟩ := okWide_slice Tryd.underlying23 hv
  obtain ⟨fuel, hf⟩ := h
  rcases open_strings Tryd.underlying23 Tryd.underlying9 (by kernel_rfl) hf with ⟨hcs, _⟩ | ⟨x, l, c, ss, hcs, _, hl, hm, hz, _, hcell, hsz⟩
  · simp [Value.cells] at hcs
    obtain ⟨rfl, rfl, rfl⟩ := hcs
    exact ⟨[], ⟨none, 0, rfl, by unfold maxLen; simp, .inl rfl⟩, fun i hi => by simp at hi⟩
  · simp [Value.cells] at hcs
    obtain ⟨rfl, rfl, rfl⟩ := hcs
    have hlz : len0 ≤ ss.length := by rw [hz]; split <;> omega
    have hlen : (ss.take len0).length = len0 := by rw [List.length_take]; omega
    have hget : ∀ i, i < len0 → (ss.take len0).getD i ByteArray.empty = ss.getD i ByteArray.empty := fun i hi => by
      simp [List.getD_eq_getElem?_getD, hi]
    refine ⟨ss.take len0, ⟨some x, cap0, by rw [hlen], by rw [hlen]; omega, ?_⟩, fun i hi => ?_⟩
    · by_cases h0 : len0 = 0
      · exact .inl (by rw [hlen]; exact h0)
      · obtain ⟨b, off, spot⟩ := x
        have hc := hcell 0 (by omega)
        have hspot : spot = none := by simpa [Addr.add] using World.cell?_spot hc
        subst hspot
        have hblk := World.block_lt_of_cell? W _ hc
        have e0 : ∀ i, (⟨b, off, none⟩ : Addr).add i = ⟨b, off + i, none⟩ := fun i => by unfold Addr.add; split <;> simp_all
        rw [e0] at hblk
        refine .inr ⟨b, off, rfl, hblk, fun i hi => ?_⟩
        rw [hlen] at hi
        rw [hget i hi, ← e0, hcell i (by omega)]
    · rw [hlen] at hi
      rw [hget i hi]
      have hi' : i < ss.length := by omega
      have hm' : ss.getD i ByteArray.empty ∈ ss := by
        rw [List.getD_eq_getElem?_getD, List.getElem?_eq_getElem hi']; exact List.getElem_mem hi'
      exact hsz _ hm'
end Go.Proofs.YtnaoccndghnmpaaDoor
