/- What is no hash: hashFault, notHash. Where a log is split: splitPlace, l06Half; what is no hash: hashesFault, l06Code, worstFault. The worst of a list of codes: worstFault; texts that are held against each other. -/
import Derived.Test.YtnajpeaieeaflaaDoorIn
import Derived.Test.YtnajpeaieeaflaaDoorStrO
import Derived.Deep.RegionHeld3
import Derived.Lib.BitFns
import Derived.Test.YtnajpeaieeaflaaDoorWst
namespace Go.Proofs.YtnajpeaieeaflaaDoor
open Go.ChangeShapes Go.WideShapes Go.ChangeAt Go.RowKit
set_option linter.unusedVariables false

/-- The code of a text that was handed in as a hash. -/
def hfC (s : ByteArray) : Int := if 65536 < s.size then 2 else if s.size = 32 then 0 else 1
set_option maxRecDepth 100000 in
theorem hashFault_any (s : ByteArray) (w : World) (hs : s.size ≤ maxLen) :
    Calls Tryd.prog 27 #[.string s] w fun e w' => e = .returned (.int .i64 (hfC s)) ∧ w' = w := by
  unfold maxLen at hs
  by_cases h1 : 65536 < s.size
  · have H : Hid (hfC s = 2) := hide (by unfold hfC; rw [if_pos h1])
    go_enter Tryd.func27, Tryd.ntmps27
    go_wp2_with fail
    go_ret
    exact ⟨ret_int (unhide H).symm, rfl⟩
  · by_cases h2 : s.size = 32
    · have H : Hid (hfC s = 0) := hide (by unfold hfC; rw [if_neg h1, if_pos h2])
      go_enter Tryd.func27, Tryd.ntmps27
      go_wp2_with fail
      go_ret
      exact ⟨ret_int (unhide H).symm, rfl⟩
    · have H : Hid (hfC s = 1) := hide (by unfold hfC; rw [if_neg h1, if_neg h2])
      have h3 : (s.size : Int) ≠ 32 := by omega
      go_enter Tryd.func27, Tryd.ntmps27
      go_wp2_with fail
      go_ret
      exact ⟨ret_int (unhide H).symm, rfl⟩
set_option maxRecDepth 100000 in
theorem notHash_any (s : ByteArray) (w : World) (hs : s.size ≤ maxLen) :
    Calls Tryd.prog 67 #[.string s] w fun e w' => e = .returned (.bool (!decide (s.size = 32))) ∧ w' = w := by
  have H : Hid (s.size = 32 ↔ hfC s = 0) := hide (by
    unfold hfC; constructor
    · intro h; rw [if_neg (by omega), if_pos h]
    · intro h; split at h
      · cases h
      · split at h
        · assumption
        · cases h)
  have HF := hide (hashFault_any s w hs)
  generalize hfC s = c at *
  go_enter Tryd.func67, Tryd.ntmps67
  go_wp2_with fail
  refine (unhide HF).mono ?_
  rintro e w' ⟨rfl, rfl⟩
  by_cases h : c = 0
  · have h32 := (unhide H).2 h
    subst h
    go_wp2_with fail
    go_ret
    exact ⟨ret_bool (by simp [h32]), rfl⟩
  · have h32 : ¬ s.size = 32 := fun e => h ((unhide H).1 e)
    have HN := hide h32
    clear h32
    go_wp2_with fail
    go_ret
    exact ⟨ret_bool (by simp [unhide HN, h]), rfl⟩
end Go.Proofs.YtnajpeaieeaflaaDoor
namespace Go.Proofs.YtnajpeaieeaflaaDoor
open Go.ChangeShapes Go.WideShapes Go.ChangeAt Go.RowKit
set_option linter.unusedVariables false

/-- The greatest power of two below n. -/
def half (n : Nat) : Nat := 2 ^ (Lib.bitLen (n - 1) - 1)
theorem half_all : ∀ n : Fin 65, 2 ≤ n.val → half n.val < n.val ∧ 1 ≤ half n.val ∧ n.val ≤ 2 * half n.val := by decide +kernel
theorem half_facts {n : Nat} (h2 : 2 ≤ n) (h : n ≤ 64) : half n < n ∧ 1 ≤ half n ∧ n ≤ 2 * half n := half_all ⟨n, by omega⟩ h2
theorem half_uniq : ∀ n : Fin 65, ∀ j : Fin 7, 2 ≤ n.val → 2 ^ j.val < n.val → n.val ≤ 2 * 2 ^ j.val → 2 ^ j.val = half n.val := by decide +kernel
theorem bl_all : ∀ x : Fin 64, 1 ≤ x.val → Lib.bitLen x.val = 1 ∨ Lib.bitLen x.val = 2 ∨ Lib.bitLen x.val = 3 ∨ Lib.bitLen x.val = 4 ∨ Lib.bitLen x.val = 5 ∨ Lib.bitLen x.val = 6 := by decide +kernel

theorem wrap64_small {n : Int} (h0 : 0 ≤ n) (h1 : n < 1000000) : wrap64 n = n := by unfold wrap64; omega
def allH (l : List ByteArray) : Bool := l.all fun s => decide (s.size = 32)
theorem allH_yes {l : List ByteArray} (h : ∀ j, j < l.length → (l.getD j ByteArray.empty).size = 32) : allH l = true := by
  unfold allH; rw [List.all_eq_true]
  intro s hs
  obtain ⟨j, hj⟩ := List.getElem?_of_mem hs
  have := h j (List.getElem?_eq_some_iff.1 hj).1
  rw [List.getD_eq_getElem?_getD, hj] at this
  simpa using this
theorem allH_at {l : List ByteArray} (h : allH l = true) (j : Nat) (hj : j < l.length) : (l.getD j ByteArray.empty).size = 32 := by
  unfold allH at h; rw [List.all_eq_true] at h
  have := h _ (List.getElem_mem hj)
  rw [List.getD_eq_getElem?_getD, List.getElem?_eq_getElem hj]
  simpa using this
theorem allH_no {l : List ByteArray} {j : Nat} (hj : j < l.length) (h : (l.getD j ByteArray.empty).size ≠ 32) : allH l = false := by
  rcases Bool.eq_false_or_eq_true (allH l) with e | e
  · exact absurd (allH_at e j hj) h
  · exact e
/-- The code of a list that was handed in as leaves or as a proof. -/
def codeL (l : List ByteArray) : Int := if 4096 < l.length then 2 else if l.length ≤ 64 ∧ allH l = true then 0 else 1
theorem codeL_ok {l : List ByteArray} (h : codeL l = 0) : l.length ≤ 64 ∧ ∀ j, j < l.length → (l.getD j ByteArray.empty).size = 32 := by
  unfold codeL at h
  split at h
  · cases h
  · split at h
    · rename_i h1; exact ⟨h1.1, allH_at h1.2⟩
    · cases h
theorem codeL_cases (l : List ByteArray) : codeL l = 0 ∨ codeL l = 1 ∨ codeL l = 2 := by
  unfold codeL; split
  · exact .inr (.inr rfl)
  · split
    · exact .inl rfl
    · exact .inr (.inl rfl)
/-- A slice of texts that is there, with room for its length. -/
structure SA (w : World) (b off cap : Nat) (l : List ByteArray) : Prop where
  le : l.length ≤ cap
  mx : cap ≤ maxLen
  lt : b < w.heap.size
  cell : ∀ i, i < l.length → w.cell? ⟨b, off + i, none⟩ = some (.string (l.getD i ByteArray.empty))
theorem SA.below {w w' : World} {b off cap : Nat} {l : List ByteArray} (h : SA w b off cap l) (hb : Below w.heap.size w w') : SA w' b off cap l :=
  ⟨h.le, h.mx, Nat.lt_of_lt_of_le h.lt hb.size, fun i hi => (hb.cell (p := ⟨b, off + i, none⟩) h.lt).trans (h.cell i hi)⟩
theorem SA.drewN {w : World} {b off cap : Nat} {l : List ByteArray} (h : SA w b off cap l) (n : Nat) : SA (w.drewN n) b off cap l := h.below (below_drewN (Below.refl _ _) n)
theorem SA.take {w : World} {b off cap : Nat} {l : List ByteArray} (h : SA w b off cap l) (k : Nat) (hk : k ≤ l.length) : SA w b off cap (l.take k) := by
  have e : (l.take k).length = k := by rw [List.length_take]; omega
  refine ⟨by have := h.le; omega, h.mx, h.lt, fun i hi => ?_⟩
  rw [e] at hi
  rw [h.cell i (by omega)]
  simp [List.getD_eq_getElem?_getD, hi]
theorem SA.drop {w : World} {b off cap : Nat} {l : List ByteArray} (h : SA w b off cap l) (k : Nat) (hk : k ≤ l.length) : SA w b (off + k) (cap - k) (l.drop k) := by
  have e : (l.drop k).length = l.length - k := List.length_drop ..
  refine ⟨by have := h.le; omega, by have := h.mx; omega, h.lt, fun i hi => ?_⟩
  rw [e] at hi
  rw [show off + k + i = off + (k + i) by omega, h.cell (k + i) (by omega)]
  simp [List.getD_eq_getElem?_getD, List.getElem?_drop]
theorem SA.strs {w : World} {b off cap : Nat} {l : List ByteArray} (h : SA w b off cap l) : Strs w (.slice (some ⟨b, off, none⟩) l.length cap) l :=
  ⟨_, _, rfl, Nat.le_trans h.le h.mx, .inr ⟨b, off, rfl, h.lt, h.cell⟩⟩
theorem SA.own {B : Nat} {w : World} {g cap : Nat} {l : List ByteArray} (h : OwnS B w (.slice (some ⟨g, 0, none⟩) l.length cap) l) : SA w g 0 cap l := by
  rcases own_shape h with ⟨hv, _⟩ | ⟨g', cap', hv, hb, hlt, hn, hm⟩
  · cases hv
  · simp only [Value.slice.injEq, Option.some.injEq, Addr.mk.injEq] at hv
    obtain ⟨⟨rfl, _⟩, _, rfl⟩ := hv
    exact ⟨hn, hm, hlt, fun i hi => by rw [Nat.zero_add]; exact h.cell i hi⟩

end Go.Proofs.YtnajpeaieeaflaaDoor
namespace Go.Proofs.YtnajpeaieeaflaaDoor.Sha
open Go.ChangeShapes Go.WideShapes Go.ChangeAt Go.RowKit
set_option linter.unusedVariables false

set_option maxRecDepth 100000 in
theorem worstL_any (l : List Int) (b cap : Nat) (w : World) (hl : l.length ≤ 1000) (hc : ∀ i, i < l.length → w.cell? ⟨b, i, none⟩ = some (.int .i64 (l.getD i 0))) :
    Calls Tryd.prog 26 #[.slice (some ⟨b, 0, none⟩) l.length cap] w fun e w' => e = .returned (.int .i64 (mxTo l l.length)) ∧ w' = w := by
  have HF := hide (foldInt_any l b cap w hl hc)
  clear hc
  go_enter Tryd.func26, Tryd.ntmps26
  go_wp2_with fail
  refine (unhide HF).mono ?_
  rintro e w' ⟨rfl, rfl⟩
  go_wp2_with fail
  go_ret
  exact ⟨rfl, rfl⟩
theorem mxI_le {a b c : Int} (ha : a ≤ c) (hb : b ≤ c) : mxI a b ≤ c := by unfold mxI; split <;> omega
theorem mxI_l (a b : Int) : a ≤ mxI a b := by unfold mxI; split <;> omega
theorem mxI_r (a b : Int) : b ≤ mxI a b := by unfold mxI; split <;> omega
theorem mxI_in (a b : Int) : mxI a b = a ∨ mxI a b = b := by unfold mxI; split <;> simp
/-- The worst of four codes. -/
def mx4 (a b c d : Int) : Int := mxI (mxI (mxI a b) c) d
theorem mx4_eq {a b c d : Int} (ha : 0 ≤ a) : mxTo [a, b, c, d] [a, b, c, d].length = mx4 a b c d := by
  show mxI (mxI (mxI (mxI 0 a) b) c) d = _
  have : mxI 0 a = a := by unfold mxI; split <;> omega
  rw [this]; rfl
theorem mx4_ge (a b c d : Int) : a ≤ mx4 a b c d ∧ b ≤ mx4 a b c d ∧ c ≤ mx4 a b c d ∧ d ≤ mx4 a b c d := by
  unfold mx4
  have h1 := mxI_l (mxI (mxI a b) c) d
  have h2 := mxI_r (mxI (mxI a b) c) d
  have h3 := mxI_l (mxI a b) c
  have h4 := mxI_r (mxI a b) c
  have h5 := mxI_l a b
  have h6 := mxI_r a b
  omega
theorem mx4_in (a b c d : Int) : mx4 a b c d = a ∨ mx4 a b c d = b ∨ mx4 a b c d = c ∨ mx4 a b c d = d := by
  unfold mx4
  have h1 := mxI_in (mxI (mxI a b) c) d
  have h2 := mxI_in (mxI a b) c
  have h3 := mxI_in a b
  omega
theorem mx2_eq {a b : Int} (ha : 0 ≤ a) : mxTo [a, b] [a, b].length = mxI a b := by
  show mxI (mxI 0 a) b = _
  have : mxI 0 a = a := by unfold mxI; split <;> omega
  rw [this]
theorem mx1_eq {a : Int} (ha : 0 ≤ a) : mxTo [a] [a].length = a := by
  show mxI 0 a = _
  unfold mxI; split <;> omega
theorem hf2 {s : ByteArray} (h : 65536 < s.size) : hfC s = 2 := by unfold hfC; rw [if_pos h]
theorem hf0 {s : ByteArray} (h : s.size = 32) : hfC s = 0 := by unfold hfC; rw [if_neg (by omega), if_pos h]
theorem hf1 {s : ByteArray} (h : ¬ 65536 < s.size) (h2 : s.size ≠ 32) : hfC s = 1 := by unfold hfC; rw [if_neg h, if_neg h2]
theorem cL2 {l : List ByteArray} (h : 4096 < l.length) : codeL l = 2 := by unfold codeL; rw [if_pos h]
theorem cL1 {l : List ByteArray} (h : ¬ 4096 < l.length) (h2 : (decide (l.length ≤ 64) && allH l) = false) : codeL l = 1 := by
  unfold codeL; rw [if_neg h, if_neg]
  rintro ⟨a, b⟩
  rw [b, decide_eq_true a] at h2
  cases h2
theorem cL0 {l : List ByteArray} (h2 : (decide (l.length ≤ 64) && allH l) = true) : codeL l = 0 := by
  rw [Bool.and_eq_true, decide_eq_true_eq] at h2
  unfold codeL; rw [if_neg (by omega), if_pos h2]
theorem textNe {a b : ByteArray} (h : a ≠ b) : (a.toList == b.toList) = false := by
  rw [beq_eq_false_iff_ne]; intro h2; apply h
  rw [ByteArray.toList_eq, ByteArray.toList_eq] at h2
  cases a; cases b; simp only [ByteArray.mk.injEq]; exact Array.toList_inj.1 h2
theorem textEq {a b : ByteArray} (h : a = b) : (a.toList == b.toList) = true := by rw [h]; simp
/-- Texts of no bytes. -/
theorem noText {k : ByteArray} (h : k.size ≠ 0) : k ≠ ⟨#[]⟩ := fun e => h (by rw [e]; rfl)
theorem txt0 {v : ByteArray} (h : v.size = 0) : v = ⟨#[]⟩ := by
  apply ByteArray.ext
  exact Array.eq_empty_of_size_eq_zero h
theorem lst0 {k : ByteArray} (h : k.size ≠ 0) : ¬ k.toList = [] := fun e => by
  have h1 := textNe (noText h)
  rw [e] at h1
  have h2 : (⟨#[]⟩ : ByteArray).toList = [] := by
    unfold ByteArray.toList ByteArray.toList.loop
    simp [ByteArray.size]
  rw [h2] at h1
  exact absurd h1 (by decide)
theorem isE {k : ByteArray} (h : k.size ≠ 0) : k.toList.isEmpty = false := by
  cases hk : k.toList with
  | nil => exact absurd hk (lst0 h)
  | cons a l => rfl
end Go.Proofs.YtnajpeaieeaflaaDoor.Sha
