/- What is no hash: hashFault, notHash. Where a log is split: splitPlace, l06Half; what is no hash: hashesFault, l06Code, worstFault. The hash of a log: treeHash, l06Tree; TreeHash. Lists of texts as the laws take them: szStringS, toStringS, a list that came in opened. The hashes beside the way from a leaf up: inclusion, l06Path; InclusionProof. -/
import Derived.Test.YtkcpdjeemdlgcaaDoorIn
import Derived.Test.YtkcpdjeemdlgcaaDoorStrO
import Derived.Deep.RegionHeld3
import Derived.Lib.BitFns
import Derived.Test.YtkcpdjeemdlgcaaDoorMkA
import Derived.Test.YtkcpdjeemdlgcaaDoorStr
import Derived.SliceStrings
namespace Go.Proofs.YtkcpdjeemdlgcaaDoor
open Go.ChangeShapes Go.WideShapes Go.ChangeAt Go.RowKit
set_option linter.unusedVariables false

/-- The code of a text that was handed in as a hash. -/
def hfC (s : ByteArray) : Int := if 65536 < s.size then 2 else if s.size = 32 then 0 else 1
set_option maxRecDepth 100000 in
theorem hashFault_any (s : ByteArray) (w : World) (hs : s.size ≤ maxLen) :
    Calls Tryd.prog 50 #[.string s] w fun e w' => e = .returned (.int .i64 (hfC s)) ∧ w' = w := by
  unfold maxLen at hs
  by_cases h1 : 65536 < s.size
  · have H : Hid (hfC s = 2) := hide (by unfold hfC; rw [if_pos h1])
    go_enter Tryd.func50, Tryd.ntmps50
    go_wp2_with fail
    go_ret
    exact ⟨ret_int (unhide H).symm, rfl⟩
  · by_cases h2 : s.size = 32
    · have H : Hid (hfC s = 0) := hide (by unfold hfC; rw [if_neg h1, if_pos h2])
      go_enter Tryd.func50, Tryd.ntmps50
      go_wp2_with fail
      go_ret
      exact ⟨ret_int (unhide H).symm, rfl⟩
    · have H : Hid (hfC s = 1) := hide (by unfold hfC; rw [if_neg h1, if_neg h2])
      have h3 : (s.size : Int) ≠ 32 := by omega
      go_enter Tryd.func50, Tryd.ntmps50
      go_wp2_with fail
      go_ret
      exact ⟨ret_int (unhide H).symm, rfl⟩
set_option maxRecDepth 100000 in
theorem notHash_any (s : ByteArray) (w : World) (hs : s.size ≤ maxLen) :
    Calls Tryd.prog 92 #[.string s] w fun e w' => e = .returned (.bool (!decide (s.size = 32))) ∧ w' = w := by
  have H : Hid (s.size = 32 ↔ hfC s = 0) := hide (by
    unfold hfC; constructor
    · intro h; rw [if_neg (by omega), if_pos h]
    · intro h; split at h
      · cases h
      · split at h
        · assumption
        · cases h)
  have HF := hide (hashFault_any s w hs)
  generalize hfC s = c at *
  go_enter Tryd.func92, Tryd.ntmps92
  go_wp2_with fail
  refine (unhide HF).mono ?_
  rintro e w' ⟨rfl, rfl⟩
  by_cases h : c = 0
  · have h32 := (unhide H).2 h
    subst h
    go_wp2_with fail
    go_ret
    exact ⟨ret_bool (by simp [h32]), rfl⟩
  · have h32 : ¬ s.size = 32 := fun e => h ((unhide H).1 e)
    have HN := hide h32
    clear h32
    go_wp2_with fail
    go_ret
    exact ⟨ret_bool (by simp [unhide HN, h]), rfl⟩
end Go.Proofs.YtkcpdjeemdlgcaaDoor
namespace Go.Proofs.YtkcpdjeemdlgcaaDoor
open Go.ChangeShapes Go.WideShapes Go.ChangeAt Go.RowKit
set_option linter.unusedVariables false

/-- The greatest power of two below n. -/
def half (n : Nat) : Nat := 2 ^ (Lib.bitLen (n - 1) - 1)
theorem half_all : ∀ n : Fin 65, 2 ≤ n.val → half n.val < n.val ∧ 1 ≤ half n.val ∧ n.val ≤ 2 * half n.val := by decide +kernel
theorem half_facts {n : Nat} (h2 : 2 ≤ n) (h : n ≤ 64) : half n < n ∧ 1 ≤ half n ∧ n ≤ 2 * half n := half_all ⟨n, by omega⟩ h2
theorem half_uniq : ∀ n : Fin 65, ∀ j : Fin 7, 2 ≤ n.val → 2 ^ j.val < n.val → n.val ≤ 2 * 2 ^ j.val → 2 ^ j.val = half n.val := by decide +kernel
theorem bl_all : ∀ x : Fin 64, 1 ≤ x.val → Lib.bitLen x.val = 1 ∨ Lib.bitLen x.val = 2 ∨ Lib.bitLen x.val = 3 ∨ Lib.bitLen x.val = 4 ∨ Lib.bitLen x.val = 5 ∨ Lib.bitLen x.val = 6 := by decide +kernel

theorem wrap64_small {n : Int} (h0 : 0 ≤ n) (h1 : n < 1000000) : wrap64 n = n := by unfold wrap64; omega
def allH (l : List ByteArray) : Bool := l.all fun s => decide (s.size = 32)
theorem allH_yes {l : List ByteArray} (h : ∀ j, j < l.length → (l.getD j ByteArray.empty).size = 32) : allH l = true := by
  unfold allH; rw [List.all_eq_true]
  intro s hs
  obtain ⟨j, hj⟩ := List.getElem?_of_mem hs
  have := h j (List.getElem?_eq_some_iff.1 hj).1
  rw [List.getD_eq_getElem?_getD, hj] at this
  simpa using this
theorem allH_at {l : List ByteArray} (h : allH l = true) (j : Nat) (hj : j < l.length) : (l.getD j ByteArray.empty).size = 32 := by
  unfold allH at h; rw [List.all_eq_true] at h
  have := h _ (List.getElem_mem hj)
  rw [List.getD_eq_getElem?_getD, List.getElem?_eq_getElem hj]
  simpa using this
theorem allH_no {l : List ByteArray} {j : Nat} (hj : j < l.length) (h : (l.getD j ByteArray.empty).size ≠ 32) : allH l = false := by
  rcases Bool.eq_false_or_eq_true (allH l) with e | e
  · exact absurd (allH_at e j hj) h
  · exact e
/-- The code of a list that was handed in as leaves or as a proof. -/
def codeL (l : List ByteArray) : Int := if 4096 < l.length then 2 else if l.length ≤ 64 ∧ allH l = true then 0 else 1
theorem codeL_ok {l : List ByteArray} (h : codeL l = 0) : l.length ≤ 64 ∧ ∀ j, j < l.length → (l.getD j ByteArray.empty).size = 32 := by
  unfold codeL at h
  split at h
  · cases h
  · split at h
    · rename_i h1; exact ⟨h1.1, allH_at h1.2⟩
    · cases h
theorem codeL_cases (l : List ByteArray) : codeL l = 0 ∨ codeL l = 1 ∨ codeL l = 2 := by
  unfold codeL; split
  · exact .inr (.inr rfl)
  · split
    · exact .inl rfl
    · exact .inr (.inl rfl)
/-- A slice of texts that is there, with room for its length. -/
structure SA (w : World) (b off cap : Nat) (l : List ByteArray) : Prop where
  le : l.length ≤ cap
  mx : cap ≤ maxLen
  lt : b < w.heap.size
  cell : ∀ i, i < l.length → w.cell? ⟨b, off + i, none⟩ = some (.string (l.getD i ByteArray.empty))
theorem SA.below {w w' : World} {b off cap : Nat} {l : List ByteArray} (h : SA w b off cap l) (hb : Below w.heap.size w w') : SA w' b off cap l :=
  ⟨h.le, h.mx, Nat.lt_of_lt_of_le h.lt hb.size, fun i hi => (hb.cell (p := ⟨b, off + i, none⟩) h.lt).trans (h.cell i hi)⟩
theorem SA.drewN {w : World} {b off cap : Nat} {l : List ByteArray} (h : SA w b off cap l) (n : Nat) : SA (w.drewN n) b off cap l := h.below (below_drewN (Below.refl _ _) n)
theorem SA.take {w : World} {b off cap : Nat} {l : List ByteArray} (h : SA w b off cap l) (k : Nat) (hk : k ≤ l.length) : SA w b off cap (l.take k) := by
  have e : (l.take k).length = k := by rw [List.length_take]; omega
  refine ⟨by have := h.le; omega, h.mx, h.lt, fun i hi => ?_⟩
  rw [e] at hi
  rw [h.cell i (by omega)]
  simp [List.getD_eq_getElem?_getD, hi]
theorem SA.drop {w : World} {b off cap : Nat} {l : List ByteArray} (h : SA w b off cap l) (k : Nat) (hk : k ≤ l.length) : SA w b (off + k) (cap - k) (l.drop k) := by
  have e : (l.drop k).length = l.length - k := List.length_drop ..
  refine ⟨by have := h.le; omega, by have := h.mx; omega, h.lt, fun i hi => ?_⟩
  rw [e] at hi
  rw [show off + k + i = off + (k + i) by omega, h.cell (k + i) (by omega)]
  simp [List.getD_eq_getElem?_getD, List.getElem?_drop]
theorem SA.strs {w : World} {b off cap : Nat} {l : List ByteArray} (h : SA w b off cap l) : Strs w (.slice (some ⟨b, off, none⟩) l.length cap) l :=
  ⟨_, _, rfl, Nat.le_trans h.le h.mx, .inr ⟨b, off, rfl, h.lt, h.cell⟩⟩
theorem SA.own {B : Nat} {w : World} {g cap : Nat} {l : List ByteArray} (h : OwnS B w (.slice (some ⟨g, 0, none⟩) l.length cap) l) : SA w g 0 cap l := by
  rcases own_shape h with ⟨hv, _⟩ | ⟨g', cap', hv, hb, hlt, hn, hm⟩
  · cases hv
  · simp only [Value.slice.injEq, Option.some.injEq, Addr.mk.injEq] at hv
    obtain ⟨⟨rfl, _⟩, _, rfl⟩ := hv
    exact ⟨hn, hm, hlt, fun i hi => by rw [Nat.zero_add]; exact h.cell i hi⟩

end Go.Proofs.YtkcpdjeemdlgcaaDoor
namespace Go.Proofs.YtkcpdjeemdlgcaaDoor.Sha
open Go.ChangeShapes Go.WideShapes Go.ChangeAt Go.RowKit
set_option linter.unusedVariables false

theorem take_lt {l : List ByteArray} (h : ¬ (l.length < 2 ∨ 64 < l.length)) : (l.take (half l.length)).length < l.length := by
  have := half_facts (n := l.length) (by omega) (by omega)
  rw [List.length_take]; omega
theorem drop_lt {l : List ByteArray} (h : ¬ (l.length < 2 ∨ 64 < l.length)) : (l.drop (half l.length)).length < l.length := by
  have := half_facts (n := l.length) (by omega) (by omega)
  rw [List.length_drop]; omega
/-- The hash of a log. -/
def treeV (l : List ByteArray) : ByteArray :=
  if h : l.length < 2 ∨ 64 < l.length then (if l.length = 0 then hashV [] else l.getD 0 ByteArray.empty)
  else nodeV (treeV (l.take (half l.length))) (treeV (l.drop (half l.length)))
termination_by l.length
decreasing_by
  · exact take_lt h
  · exact drop_lt h
theorem treeV_none {l : List ByteArray} (h : l.length = 0) : treeV l = hashV [] := by rw [treeV, dif_pos (by omega), if_pos h]
theorem treeV_one {l : List ByteArray} (h : l.length = 1) : treeV l = l.getD 0 ByteArray.empty := by rw [treeV, dif_pos (by omega), if_neg (by omega)]
theorem treeV_two {l : List ByteArray} (h : 2 ≤ l.length) (h2 : l.length ≤ 64) : treeV l = nodeV (treeV (l.take (half l.length))) (treeV (l.drop (half l.length))) := by rw [treeV, dif_neg (by omega)]
def AllH (l : List ByteArray) : Prop := ∀ j, j < l.length → (l.getD j ByteArray.empty).size = 32
theorem AllH.take {l : List ByteArray} (h : AllH l) (k : Nat) : AllH (l.take k) := by
  intro j hj
  rw [List.length_take] at hj
  have := h j (by omega)
  rw [List.getD_eq_getElem?_getD] at this ⊢
  rw [List.getElem?_take, if_pos (by omega)]; exact this
theorem AllH.drop {l : List ByteArray} (h : AllH l) (k : Nat) : AllH (l.drop k) := by
  intro j hj
  rw [List.length_drop] at hj
  have := h (k + j) (by omega)
  rw [List.getD_eq_getElem?_getD] at this ⊢
  rw [List.getElem?_drop]; exact this
theorem tree_size : ∀ (n : Nat) (l : List ByteArray), l.length = n → n ≤ 64 → AllH l → (treeV l).size = 32 := by
  intro n
  induction n using Nat.strongRecOn with
  | ind n ih =>
    intro l hl hn ha
    rcases (show n = 0 ∨ n = 1 ∨ 2 ≤ n by omega) with h | h | h
    · rw [treeV_none (by omega)]; exact hash_size (by simp)
    · rw [treeV_one (by omega)]; exact ha 0 (by omega)
    · rw [treeV_two (by omega) (by omega)]
      have hf := half_facts (n := l.length) (by omega) (by omega)
      have e1 : (l.take (half l.length)).length = half l.length := by rw [List.length_take]; omega
      have e2 : (l.drop (half l.length)).length = l.length - half l.length := List.length_drop ..
      exact node_size (ih _ (by omega) _ e1 (by omega) (ha.take _)) (ih _ (by omega) _ e2 (by omega) (ha.drop _))

end Go.Proofs.YtkcpdjeemdlgcaaDoor.Sha
namespace Go.Proofs.YtkcpdjeemdlgcaaDoor
open Go.ChangeShapes Go.WideShapes Go.ChangeAt Go.RowKit
set_option linter.unusedVariables false

theorem info9L : (Tryd.prog.info? 9).map (fun i => (i.zero, i.size, i.bytes)) = some (some (.string ⟨#[]⟩), 1, 16) := by kernel_rfl
theorem info_parts9 : ∃ i, Tryd.prog.info? 9 = some i ∧ i.zero = some (.string ⟨#[]⟩) ∧ i.size = 1 ∧ i.bytes = 16 := by
  have h := info9L
  cases e : Tryd.prog.info? 9 with
  | none => rw [e] at h; cases h
  | some i =>
    rw [e] at h
    simp only [Option.map_some, Option.some.injEq, Prod.mk.injEq] at h
    exact ⟨i, rfl, h.1, h.2.1, h.2.2⟩

/-- Bytes of the first k texts. -/
def swTo (l : List ByteArray) : Nat → Int
  | 0 => 0
  | k + 1 => swTo l k + ((l.getD k ByteArray.empty).size : Int)
theorem sw_mono (l : List ByteArray) (i j : Nat) (h : i ≤ j) : swTo l i ≤ swTo l j := by
  induction j with
  | zero => obtain rfl : i = 0 := by omega
            exact Int.le_refl _
  | succ j ih =>
    by_cases e : i = j + 1
    · subst e; exact Int.le_refl _
    · have := ih (by omega)
      show _ ≤ swTo l j + _
      omega
/-- What the measure of all of it leaves of L, or -1. -/
def sszR (L : Int) (l : List ByteArray) : Int := if (l.length : Int) + swTo l l.length ≤ L then L - (l.length : Int) - swTo l l.length else -1
theorem sszR_cases (L : Int) (l : List ByteArray) : sszR L l = -1 ∨ (0 ≤ sszR L l ∧ sszR L l ≤ L) := by
  have hw0 := sw_mono l 0 l.length (Nat.zero_le _)
  have hw00 : swTo l 0 = 0 := rfl
  unfold sszR; split
  · right; omega
  · left; rfl
/-- A list that the laws measure is small. -/
theorem ssmall_of (L : Int) (hL : L ≤ 1048576) (l : List ByteArray) (h : 0 ≤ sszR L l) : l.length ≤ 1048576 ∧ ∀ i, (l.getD i ByteArray.empty).size ≤ 1048576 := by
  have h1 : (l.length : Int) + swTo l l.length ≤ L := by
    unfold sszR at h
    split at h
    · assumption
    · omega
  have hw0 := sw_mono l 0 l.length (Nat.zero_le _)
  have hw00 : swTo l 0 = 0 := rfl
  refine ⟨by omega, fun i => ?_⟩
  by_cases hi : i < l.length
  · have e2 : swTo l (i + 1) = swTo l i + ((l.getD i ByteArray.empty).size : Int) := rfl
    have := sw_mono l (i + 1) l.length (by omega)
    have := sw_mono l 0 i (Nat.zero_le _)
    omega
  · rw [List.getD_eq_getElem?_getD, List.getElem?_eq_none (by omega)]
    have e : (ByteArray.empty).size = 0 := rfl
    simp only [Option.getD_none]
    omega

def copS (l : List ByteArray) (k : Nat) : List ByteArray := (List.range l.length).map fun j => if j < k then l.getD j ByteArray.empty else ByteArray.empty
theorem copS_len (l : List ByteArray) (k : Nat) : (copS l k).length = l.length := by simp [copS]
theorem copS_zero (l : List ByteArray) : (copS l 0).map Value.string = List.replicate l.length (Value.string ⟨#[]⟩) := by
  apply List.ext_getElem?
  intro j
  by_cases hj : j < l.length
  · simp [copS, hj]; rfl
  · simp [copS, hj]
theorem copS_all (l : List ByteArray) : copS l l.length = l := by
  apply List.ext_getElem?
  intro j
  by_cases hj : j < l.length
  · simp [copS, hj, List.getD_eq_getElem?_getD]
  · simp [copS, hj]
theorem copS_set (l : List ByteArray) (k : Nat) (hk : k < l.length) : ((copS l k).map Value.string).set k (.string (l.getD k ByteArray.empty)) = (copS l (k + 1)).map Value.string := by
  apply List.ext_getElem?
  intro j
  rw [List.getElem?_set]
  simp only [List.length_map, copS_len, List.getElem?_map]
  by_cases e : k = j
  · subst e
    rw [if_pos rfl, if_pos hk]
    simp [copS, hk]
  · rw [if_neg e]
    by_cases hj : j < l.length
    · by_cases h1 : j < k
      · simp [copS, hj, h1, show j < k + 1 by omega]
      · simp [copS, hj, h1, show ¬ j < k + 1 by omega]
    · simp [copS, hj]

set_option maxRecDepth 100000 in
/-- A list of texts that came in, opened. -/
theorem open_texts {H : Type} {enc : TypeId × Value → H} {W : World} {base b0 : Nat} {r : Reach} {sp : Nat → Bool} {held : Bool} {v : Value} {d : DataW H} {p : List MemPlace}
    (hv : Value.okWide Tryd.prog W r b0 23 v) (h : DataW.Trod enc Tryd.prog W base sp held 23 v d p) :
    ∃ l : List ByteArray, Strs W v l ∧ ∀ i, i < l.length → (l.getD i ByteArray.empty).size ≤ maxLen := by
  obtain ⟨a0, len0, cap0, rfl⟩ := okWide_slice Tryd.underlying23 hv
  obtain ⟨fuel, hf⟩ := h
  rcases open_strings Tryd.underlying23 Tryd.underlying9 (by kernel_rfl) hf with ⟨hcs, _⟩ | ⟨x, l, c, ss, hcs, _, hl, hm, hz, _, hcell, hsz⟩
  · simp [Value.cells] at hcs
    obtain ⟨rfl, rfl, rfl⟩ := hcs
    exact ⟨[], ⟨none, 0, rfl, by unfold maxLen; simp, .inl rfl⟩, fun i hi => by simp at hi⟩
  · simp [Value.cells] at hcs
    obtain ⟨rfl, rfl, rfl⟩ := hcs
    have hlz : len0 ≤ ss.length := by rw [hz]; split <;> omega
    have hlen : (ss.take len0).length = len0 := by rw [List.length_take]; omega
    have hget : ∀ i, i < len0 → (ss.take len0).getD i ByteArray.empty = ss.getD i ByteArray.empty := fun i hi => by
      simp [List.getD_eq_getElem?_getD, hi]
    refine ⟨ss.take len0, ⟨some x, cap0, by rw [hlen], by rw [hlen]; omega, ?_⟩, fun i hi => ?_⟩
    · by_cases h0 : len0 = 0
      · exact .inl (by rw [hlen]; exact h0)
      · obtain ⟨b, off, spot⟩ := x
        have hc := hcell 0 (by omega)
        have hspot : spot = none := by simpa [Addr.add] using World.cell?_spot hc
        subst hspot
        have hblk := World.block_lt_of_cell? W _ hc
        have e0 : ∀ i, (⟨b, off, none⟩ : Addr).add i = ⟨b, off + i, none⟩ := fun i => by unfold Addr.add; split <;> simp_all
        rw [e0] at hblk
        refine .inr ⟨b, off, rfl, hblk, fun i hi => ?_⟩
        rw [hlen] at hi
        rw [hget i hi, ← e0, hcell i (by omega)]
    · rw [hlen] at hi
      rw [hget i hi]
      have hi' : i < ss.length := by omega
      have hm' : ss.getD i ByteArray.empty ∈ ss := by
        rw [List.getD_eq_getElem?_getD, List.getElem?_eq_getElem hi']; exact List.getElem_mem hi'
      exact hsz _ hm'
end Go.Proofs.YtkcpdjeemdlgcaaDoor
namespace Go.Proofs.YtkcpdjeemdlgcaaDoor.Sha
open Go.ChangeShapes Go.WideShapes Go.ChangeAt Go.RowKit
set_option linter.unusedVariables false

/-- The hashes beside the way from a leaf up. -/
def pathV (l : List ByteArray) (p : Nat) : List ByteArray :=
  if h : l.length < 2 ∨ 64 < l.length then []
  else if p < half l.length then pathV (l.take (half l.length)) p ++ [treeV (l.drop (half l.length))]
  else pathV (l.drop (half l.length)) (p - half l.length) ++ [treeV (l.take (half l.length))]
termination_by l.length
decreasing_by
  · exact take_lt h
  · exact drop_lt h
theorem pathV_one {l : List ByteArray} (h : l.length = 1) (p : Nat) : pathV l p = [] := by rw [pathV, dif_pos (by omega)]
theorem pathV_lo {l : List ByteArray} (h : 2 ≤ l.length) (h2 : l.length ≤ 64) {p : Nat} (hp : p < half l.length) : pathV l p = pathV (l.take (half l.length)) p ++ [treeV (l.drop (half l.length))] := by rw [pathV, dif_neg (by omega), if_pos hp]
theorem pathV_hi {l : List ByteArray} (h : 2 ≤ l.length) (h2 : l.length ≤ 64) {p : Nat} (hp : ¬ p < half l.length) : pathV l p = pathV (l.drop (half l.length)) (p - half l.length) ++ [treeV (l.take (half l.length))] := by rw [pathV, dif_neg (by omega), if_neg hp]
theorem path_len : ∀ (n : Nat) (l : List ByteArray) (p : Nat), l.length = n → (pathV l p).length ≤ n := by
  intro n
  induction n using Nat.strongRecOn with
  | ind n ih =>
    intro l p hl
    by_cases h : l.length < 2 ∨ 64 < l.length
    · rw [pathV, dif_pos h]; simp
    · have hf := half_facts (n := l.length) (by omega) (by omega)
      have e1 : (l.take (half l.length)).length = half l.length := by rw [List.length_take]; omega
      have e2 : (l.drop (half l.length)).length = l.length - half l.length := List.length_drop ..
      by_cases hp : p < half l.length
      · rw [pathV_lo (by omega) (by omega) hp]
        have := ih _ (by omega) (l.take (half l.length)) p e1
        simp; omega
      · rw [pathV_hi (by omega) (by omega) hp]
        have := ih _ (by omega) (l.drop (half l.length)) (p - half l.length) e2
        simp; omega
theorem own_noneS (w : World) (B X : Nat) (hX : w.heap.size = X) (hB : B ≤ X) : OwnS B (w.alloc (.cells #[] 9)) (.slice (some ⟨X, 0, none⟩) 0 0) [] :=
  ⟨rfl, .inr ⟨X, 0, #[], rfl, hB, heap_new hX, Nat.le_refl _, by unfold maxLen; omega, rfl, rfl⟩⟩
theorem OwnS.pushed {B g cap n : Nat} {w : World} {l : List ByteArray} {t : ByteArray} (h : w.ownsRow B 9 1 (.slice (some ⟨g, 0, none⟩) n cap) n (l.map Value.string ++ [.string t])) : OwnS B w (.slice (some ⟨g, 0, none⟩) n cap) (l ++ [t]) := by
  have hn : n = (l ++ [t]).length := by have := h.1; simp at this; simp; omega
  unfold OwnS
  rw [← hn]
  simpa using h
theorem OwnS.onB {B B' : Nat} {w : World} {v : Value} {l : List ByteArray} (h : OwnS B w v l) (hB : B' ≤ B) : OwnS B' w v l := by
  obtain ⟨hl, hc⟩ := h
  refine ⟨hl, ?_⟩
  rcases hc with hn | ⟨g, cap, cur, hv, hb, rest⟩
  · exact .inl hn
  · exact .inr ⟨g, cap, cur, hv, by omega, rest⟩

theorem wrapQ {q : Nat} (h : q ≤ 1000000) : IntKind.i64.wrap (q : Int) = (q : Int) := by
  simp [IntKind.wrap, IntKind.bits, IntKind.signed]; omega
/-- What InclusionProof answers: the hashes, the code. -/
def incOut (l : List ByteArray) (p : Int) : List ByteArray × Int := if codeL l = 0 then (if inB p 0 ((l.length : Int) - 1) then (pathV l p.toNat, 0) else ([], 4)) else ([], codeL l)
theorem inc_len (l : List ByteArray) (p : Int) : (incOut l p).1.length ≤ l.length := by
  unfold incOut; split
  · split
    · exact path_len _ l _ rfl
    · simp
  · simp
end Go.Proofs.YtkcpdjeemdlgcaaDoor.Sha
