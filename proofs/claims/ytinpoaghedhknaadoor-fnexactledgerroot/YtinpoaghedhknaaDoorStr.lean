/- Slices of texts, and the laws' marks: markText. -/
import Derived.Test.YtinpoaghedhknaaDoorStrO
import Derived.Deep.RegionHeld3
namespace Go.Proofs.YtinpoaghedhknaaDoor
open Go.ChangeShapes Go.WideShapes Go.ChangeAt Go.RowKit
set_option linter.unusedVariables false

theorem ret_str2 {a b : ByteArray} (h : a = b) : Ending.returned (.string a) = .returned (.string b) := by rw [h]
def mtxR (k : Nat) (out : ByteArray) : ByteArray := if h : k = 0 then out else mtxR (k / 10) (strOfNums [48 + ((k % 10 : Nat) : Int)] ++ out)
termination_by k
decreasing_by omega
def mtx (k : Nat) : ByteArray := strOfNums [109] ++ mtxR k (strOfNums [])

def markS (l : List ByteArray) (k : Nat) : List ByteArray := (List.range l.length).map fun j => if j < k then mtx (1 + j) else l.getD j ByteArray.empty
theorem markS_len (l : List ByteArray) (k : Nat) : (markS l k).length = l.length := by simp [markS]
theorem markS_zero (l : List ByteArray) : markS l 0 = l := by
  apply List.ext_getElem?
  intro j
  by_cases hj : j < l.length
  · simp [markS, hj, List.getD_eq_getElem?_getD]
  · simp [markS, hj]
theorem markS_set (l : List ByteArray) (k : Nat) (hk : k < l.length) : ((markS l k).map Value.string).set k (.string (mtx (1 + k))) = (markS l (k + 1)).map Value.string := by
  apply List.ext_getElem?
  intro j
  rw [List.getElem?_set]
  simp only [List.length_map, markS_len, List.getElem?_map]
  by_cases e : k = j
  · subst e
    rw [if_pos rfl, if_pos hk]
    simp [markS, hk]
  · rw [if_neg e]
    by_cases hj : j < l.length
    · by_cases h1 : j < k
      · simp [markS, hj, h1, show j < k + 1 by omega]
      · simp [markS, hj, h1, show ¬ j < k + 1 by omega]
    · simp [markS, hj]
def marksS (n : Nat) : List ByteArray := (List.range n).map fun j => mtx (1 + j)
theorem marksS_len (n : Nat) : (marksS n).length = n := by simp [marksS]
theorem marksS_get (n j : Nat) (h : j < n) : (marksS n).getD j ByteArray.empty = mtx (1 + j) := by simp [marksS, List.getD_eq_getElem?_getD, h]
theorem markS_all (l : List ByteArray) : markS l l.length = marksS l.length := by
  apply List.ext_getElem?
  intro j
  by_cases hj : j < l.length
  · simp [markS, marksS, hj]
  · simp [markS, marksS, hj]

set_option maxRecDepth 100000 in
set_option maxHeartbeats 1000000 in
theorem eqStringS_any (v v2 : Value) (l : List ByteArray) (w : World) (h : Strs w v l) (h2 : Strs w v2 l) (hs : l.length ≤ 1048576) :
    Calls Tryd.prog 24 #[v, v2] w fun e w' => e = .returned (.bool true) ∧ ∃ n, w' = w.drewN n := by
  obtain ⟨a, cap, rfl, hm, hc⟩ := h
  obtain ⟨a2, cap2, rfl, hm2, hc2⟩ := h2
  have HC := hide hc
  have HC2 := hide hc2
  clear hc hm hc2 hm2
  go_enter Tryd.func24, Tryd.ntmps24
  go_wp2_with fail
  go_loopw [5] (fun i wr => ∃ k n : Nat, k ≤ l.length ∧ i = .int .i64 k ∧ wr = w.drewN n) (fun i _ => l.length - (intOf i).toNat)
  case atStart => exact ⟨0, 0, Nat.zero_le _, rfl, rfl⟩
  case round =>
    obtain ⟨k, n, hk, rfl, rfl⟩ := hrel
    by_cases hlt : k < l.length
    · obtain ⟨b, off, rfl, hbl, hsrc⟩ : ∃ b off, a = some ⟨b, off, none⟩ ∧ b < w.heap.size ∧ ∀ i, i < l.length → w.cell? ⟨b, off + i, none⟩ = some (.string (l.getD i ByteArray.empty)) := by
        rcases unhide HC with h0 | h1
        · omega
        · exact h1
      obtain ⟨b2, off2, rfl, hbl2, hsrc2⟩ : ∃ b off, a2 = some ⟨b, off, none⟩ ∧ b < w.heap.size ∧ ∀ i, i < l.length → w.cell? ⟨b, off + i, none⟩ = some (.string (l.getD i ByteArray.empty)) := by
        rcases unhide HC2 with h0 | h1
        · omega
        · exact h1
      have hs1 : w.cell? ⟨b, off + k, none⟩ = some (.string (l.getD k ByteArray.empty)) := hsrc k hlt
      have hs2 : w.cell? ⟨b2, off2 + k, none⟩ = some (.string (l.getD k ByteArray.empty)) := hsrc2 k hlt
      have hk0 : (0 : Int) ≤ (k : Int) := by omega
      have hk1 : (k : Int) < (l.length : Int) := by omega
      clear hsrc hsrc2
      generalize l.getD k ByteArray.empty = x at *
      go_wp2_with fail
      go_quiet (fail)
      go_wp2_with fail
      refine ⟨⟨k + 1, n + nq, by omega, by go_num, rfl⟩, ?_⟩
      simp [intOf]; omega
    · go_wp2_with fail
      go_ret
      exact ⟨rfl, n, rfl⟩
end Go.Proofs.YtinpoaghedhknaaDoor
