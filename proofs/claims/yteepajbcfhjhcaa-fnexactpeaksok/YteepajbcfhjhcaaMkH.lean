/- Where a log is split: splitPlace, l06Half; what is no hash: hashesFault, l06Code, worstFault. -/
import Derived.Test.YteepajbcfhjhcaaStrO
import Derived.Test.YteepajbcfhjhcaaIn
import Derived.Deep.RegionHeld3
import Derived.Lib.BitFns
namespace Go.Proofs.Yteepajbcfhjhcaa
open Go.ChangeShapes Go.WideShapes Go.ChangeAt Go.RowKit
set_option linter.unusedVariables false

/-- The greatest power of two below n. -/
def half (n : Nat) : Nat := 2 ^ (Lib.bitLen (n - 1) - 1)
theorem half_all : ∀ n : Fin 65, 2 ≤ n.val → half n.val < n.val ∧ 1 ≤ half n.val ∧ n.val ≤ 2 * half n.val := by decide +kernel
theorem half_facts {n : Nat} (h2 : 2 ≤ n) (h : n ≤ 64) : half n < n ∧ 1 ≤ half n ∧ n ≤ 2 * half n := half_all ⟨n, by omega⟩ h2
theorem half_uniq : ∀ n : Fin 65, ∀ j : Fin 7, 2 ≤ n.val → 2 ^ j.val < n.val → n.val ≤ 2 * 2 ^ j.val → 2 ^ j.val = half n.val := by decide +kernel
theorem bl_all : ∀ x : Fin 64, 1 ≤ x.val → Lib.bitLen x.val = 1 ∨ Lib.bitLen x.val = 2 ∨ Lib.bitLen x.val = 3 ∨ Lib.bitLen x.val = 4 ∨ Lib.bitLen x.val = 5 ∨ Lib.bitLen x.val = 6 := by decide +kernel

theorem wrap64_small {n : Int} (h0 : 0 ≤ n) (h1 : n < 1000000) : wrap64 n = n := by unfold wrap64; omega
/-- The code of a text that was handed in as a hash. -/
def hfC (s : ByteArray) : Int := if 65536 < s.size then 2 else if s.size = 32 then 0 else 1
def allH (l : List ByteArray) : Bool := l.all fun s => decide (s.size = 32)
theorem allH_yes {l : List ByteArray} (h : ∀ j, j < l.length → (l.getD j ByteArray.empty).size = 32) : allH l = true := by
  unfold allH; rw [List.all_eq_true]
  intro s hs
  obtain ⟨j, hj⟩ := List.getElem?_of_mem hs
  have := h j (List.getElem?_eq_some_iff.1 hj).1
  rw [List.getD_eq_getElem?_getD, hj] at this
  simpa using this
theorem allH_at {l : List ByteArray} (h : allH l = true) (j : Nat) (hj : j < l.length) : (l.getD j ByteArray.empty).size = 32 := by
  unfold allH at h; rw [List.all_eq_true] at h
  have := h _ (List.getElem_mem hj)
  rw [List.getD_eq_getElem?_getD, List.getElem?_eq_getElem hj]
  simpa using this
theorem allH_no {l : List ByteArray} {j : Nat} (hj : j < l.length) (h : (l.getD j ByteArray.empty).size ≠ 32) : allH l = false := by
  rcases Bool.eq_false_or_eq_true (allH l) with e | e
  · exact absurd (allH_at e j hj) h
  · exact e
/-- The code of a list that was handed in as leaves or as a proof. -/
def codeL (l : List ByteArray) : Int := if 4096 < l.length then 2 else if l.length ≤ 64 ∧ allH l = true then 0 else 1
theorem codeL_ok {l : List ByteArray} (h : codeL l = 0) : l.length ≤ 64 ∧ ∀ j, j < l.length → (l.getD j ByteArray.empty).size = 32 := by
  unfold codeL at h
  split at h
  · cases h
  · split at h
    · rename_i h1; exact ⟨h1.1, allH_at h1.2⟩
    · cases h
theorem codeL_cases (l : List ByteArray) : codeL l = 0 ∨ codeL l = 1 ∨ codeL l = 2 := by
  unfold codeL; split
  · exact .inr (.inr rfl)
  · split
    · exact .inl rfl
    · exact .inr (.inl rfl)
/-- A slice of texts that is there, with room for its length. -/
structure SA (w : World) (b off cap : Nat) (l : List ByteArray) : Prop where
  le : l.length ≤ cap
  mx : cap ≤ maxLen
  lt : b < w.heap.size
  cell : ∀ i, i < l.length → w.cell? ⟨b, off + i, none⟩ = some (.string (l.getD i ByteArray.empty))
theorem SA.below {w w' : World} {b off cap : Nat} {l : List ByteArray} (h : SA w b off cap l) (hb : Below w.heap.size w w') : SA w' b off cap l :=
  ⟨h.le, h.mx, Nat.lt_of_lt_of_le h.lt hb.size, fun i hi => (hb.cell (p := ⟨b, off + i, none⟩) h.lt).trans (h.cell i hi)⟩
theorem SA.drewN {w : World} {b off cap : Nat} {l : List ByteArray} (h : SA w b off cap l) (n : Nat) : SA (w.drewN n) b off cap l := h.below (below_drewN (Below.refl _ _) n)
theorem SA.take {w : World} {b off cap : Nat} {l : List ByteArray} (h : SA w b off cap l) (k : Nat) (hk : k ≤ l.length) : SA w b off cap (l.take k) := by
  have e : (l.take k).length = k := by rw [List.length_take]; omega
  refine ⟨by have := h.le; omega, h.mx, h.lt, fun i hi => ?_⟩
  rw [e] at hi
  rw [h.cell i (by omega)]
  simp [List.getD_eq_getElem?_getD, hi]
theorem SA.drop {w : World} {b off cap : Nat} {l : List ByteArray} (h : SA w b off cap l) (k : Nat) (hk : k ≤ l.length) : SA w b (off + k) (cap - k) (l.drop k) := by
  have e : (l.drop k).length = l.length - k := List.length_drop ..
  refine ⟨by have := h.le; omega, by have := h.mx; omega, h.lt, fun i hi => ?_⟩
  rw [e] at hi
  rw [show off + k + i = off + (k + i) by omega, h.cell (k + i) (by omega)]
  simp [List.getD_eq_getElem?_getD, List.getElem?_drop]
theorem SA.strs {w : World} {b off cap : Nat} {l : List ByteArray} (h : SA w b off cap l) : Strs w (.slice (some ⟨b, off, none⟩) l.length cap) l :=
  ⟨_, _, rfl, Nat.le_trans h.le h.mx, .inr ⟨b, off, rfl, h.lt, h.cell⟩⟩
theorem SA.own {B : Nat} {w : World} {g cap : Nat} {l : List ByteArray} (h : OwnS B w (.slice (some ⟨g, 0, none⟩) l.length cap) l) : SA w g 0 cap l := by
  rcases own_shape h with ⟨hv, _⟩ | ⟨g', cap', hv, hb, hlt, hn, hm⟩
  · cases hv
  · simp only [Value.slice.injEq, Option.some.injEq, Addr.mk.injEq] at hv
    obtain ⟨⟨rfl, _⟩, _, rfl⟩ := hv
    exact ⟨hn, hm, hlt, fun i hi => by rw [Nat.zero_add]; exact h.cell i hi⟩

set_option maxRecDepth 100000 in
theorem hashFault_any (s : ByteArray) (w : World) (hs : s.size ≤ maxLen) :
    Calls Try.prog 19 #[.string s] w fun e w' => e = .returned (.int .i64 (hfC s)) ∧ w' = w := by
  unfold maxLen at hs
  by_cases h1 : 65536 < s.size
  · have H : Hid (hfC s = 2) := hide (by unfold hfC; rw [if_pos h1])
    go_enter Try.func19, Try.ntmps19
    go_wp2_with fail
    go_ret
    exact ⟨ret_int (unhide H).symm, rfl⟩
  · by_cases h2 : s.size = 32
    · have H : Hid (hfC s = 0) := hide (by unfold hfC; rw [if_neg h1, if_pos h2])
      go_enter Try.func19, Try.ntmps19
      go_wp2_with fail
      go_ret
      exact ⟨ret_int (unhide H).symm, rfl⟩
    · have H : Hid (hfC s = 1) := hide (by unfold hfC; rw [if_neg h1, if_neg h2])
      have h3 : (s.size : Int) ≠ 32 := by omega
      go_enter Try.func19, Try.ntmps19
      go_wp2_with fail
      go_ret
      exact ⟨ret_int (unhide H).symm, rfl⟩
set_option maxRecDepth 100000 in
theorem notHash_any (s : ByteArray) (w : World) (hs : s.size ≤ maxLen) :
    Calls Try.prog 14 #[.string s] w fun e w' => e = .returned (.bool (!decide (s.size = 32))) ∧ w' = w := by
  have H : Hid (s.size = 32 ↔ hfC s = 0) := hide (by
    unfold hfC; constructor
    · intro h; rw [if_neg (by omega), if_pos h]
    · intro h; split at h
      · cases h
      · split at h
        · assumption
        · cases h)
  have HF := hide (hashFault_any s w hs)
  generalize hfC s = c at *
  go_enter Try.func14, Try.ntmps14
  go_wp2_with fail
  refine (unhide HF).mono ?_
  rintro e w' ⟨rfl, rfl⟩
  by_cases h : c = 0
  · have h32 := (unhide H).2 h
    subst h
    go_wp2_with fail
    go_ret
    exact ⟨ret_bool (by simp [h32]), rfl⟩
  · have h32 : ¬ s.size = 32 := fun e => h ((unhide H).1 e)
    have HN := hide h32
    clear h32
    go_wp2_with fail
    go_ret
    exact ⟨ret_bool (by simp [unhide HN, h]), rfl⟩
--FI
end Go.Proofs.Yteepajbcfhjhcaa
