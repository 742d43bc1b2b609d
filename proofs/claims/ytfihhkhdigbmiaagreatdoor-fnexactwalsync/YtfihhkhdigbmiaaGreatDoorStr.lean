/- Slices of texts, and the laws' marks: markText. -/
import Derived.Test.YtfihhkhdigbmiaaGreatDoorStrO
import Derived.Deep.RegionHeld3
namespace Go.Proofs.YtfihhkhdigbmiaaGreatDoor
open Go.ChangeShapes Go.WideShapes Go.ChangeAt Go.RowKit
set_option linter.unusedVariables false

theorem ret_str2 {a b : ByteArray} (h : a = b) : Ending.returned (.string a) = .returned (.string b) := by rw [h]
def mtxR (k : Nat) (out : ByteArray) : ByteArray := if h : k = 0 then out else mtxR (k / 10) (strOfNums [48 + ((k % 10 : Nat) : Int)] ++ out)
termination_by k
decreasing_by omega
def mtx (k : Nat) : ByteArray := strOfNums [109] ++ mtxR k (strOfNums [])

set_option maxRecDepth 100000 in
set_option maxHeartbeats 1000000 in
theorem markText_any (k : Nat) (w : World) (h0 : 0 < k) (h1 : k ≤ 4294967296) :
    Calls Tryz.prog 48 #[.int .i64 k] w fun e w' => e = .returned (.string (mtx k)) ∧ Below w.heap.size w w' := by
  go_enter Tryz.func48, Tryz.ntmps48
  go_wp2_with fail
  go_loopw [0, 3] (fun kk o wr => ∃ (j : Nat) (out : ByteArray), j ≤ k ∧ kk = .int .i64 j ∧ o = .string out ∧ out.size + j ≤ k ∧ mtxR j out = mtxR k (strOfNums []) ∧ Below w.heap.size w wr) (fun kk _ _ => (intOf kk).toNat)
  case atStart => exact ⟨k, strOfNums [], Nat.le_refl _, rfl, rfl, by simp [strOfNums_size], rfl, Below.refl _ _⟩
  case round =>
    obtain ⟨j, out, hj, rfl, rfl, hsz, hm, hb⟩ := hrel
    by_cases hj0 : 0 < j
    · have hE : Hid (mtxR (j / 10) (strOfNums [48 + ((j % 10 : Nat) : Int)] ++ out) = mtxR k (strOfNums [])) := hide (by rw [← hm]; conv => rhs; rw [mtxR, dif_neg (by omega)])
      have HB := hide hb
      have hr4 : 10 * (j / 10) ≤ j := by omega
      have hcv : (convert 79 9 (.slice (some ⟨wr.heap.size, 0, none⟩) 1 1)).run Tryz.prog (wr.alloc (.cells #[.int .u8 (48 + (j : Int) % 10)] 5)) = .ok (.string (strOfNums [48 + (j : Int) % 10])) (wr.alloc (.cells #[.int .u8 (48 + (j : Int) % 10)] 5)) :=
        run_convert_bytes_arg _ 79 5 Tryz.underlying79 Tryz.underlying5 wr.heap.size 0 1 1 [48 + (j : Int) % 10] rfl (fun i hi => by
          obtain rfl : i = 0 := by omega
          rw [World.cell?_alloc_at _ _ _ _ rfl]; rfl) 9 Tryz.underlying9
      have HB2 := hide ((unhide HB).alloc (unhide HB).size (.cells #[.int .u8 (48 + (j : Int) % 10)] 5))
      have hs1 : (strOfNums [48 + (j : Int) % 10]).size = 1 := strOfNums_size _
      rw [show ((j % 10 : Nat) : Int) = (j : Int) % 10 by omega] at hE
      generalize strOfNums [48 + (j : Int) % 10] = d at *
      clear hm hb HB
      go_wp2_with fail
      refine ⟨⟨j / 10, d ++ out, by omega, by go_num, rfl, by rw [ByteArray.size_append]; omega, unhide hE, unhide HB2⟩, ?_⟩
      simp [intOf]; omega
    · obtain rfl : j = 0 := by omega
      have hE : Hid (out = mtxR k (strOfNums [])) := hide (by rw [← hm, mtxR, dif_pos rfl])
      have HB := hide hb
      clear hm hb
      go_wp2_with fail
      go_ret
      exact ⟨ret_str2 (by rw [unhide hE]; rfl), unhide HB⟩

theorem markText_int (ki : Int) (k : Nat) (hk : ki = (k : Int)) (w : World) (h0 : 0 < k) (h1 : k ≤ 4294967296) :
    Calls Tryz.prog 48 #[.int .i64 ki] w fun e w' => e = .returned (.string (mtx k)) ∧ Below w.heap.size w w' := by
  subst hk; exact markText_any k w h0 h1

/-- Some of the marks laid. -/
def markS (l : List ByteArray) (k : Nat) : List ByteArray := (List.range l.length).map fun j => if j < k then mtx (1 + j) else l.getD j ByteArray.empty
theorem markS_len (l : List ByteArray) (k : Nat) : (markS l k).length = l.length := by simp [markS]
theorem markS_zero (l : List ByteArray) : markS l 0 = l := by
  apply List.ext_getElem?
  intro j
  by_cases hj : j < l.length
  · simp [markS, hj, List.getD_eq_getElem?_getD]
  · simp [markS, hj]
theorem markS_set (l : List ByteArray) (k : Nat) (hk : k < l.length) : ((markS l k).map Value.string).set k (.string (mtx (1 + k))) = (markS l (k + 1)).map Value.string := by
  apply List.ext_getElem?
  intro j
  rw [List.getElem?_set]
  simp only [List.length_map, markS_len, List.getElem?_map]
  by_cases e : k = j
  · subst e
    rw [if_pos rfl, if_pos hk]
    simp [markS, hk]
  · rw [if_neg e]
    by_cases hj : j < l.length
    · by_cases h1 : j < k
      · simp [markS, hj, h1, show j < k + 1 by omega]
      · simp [markS, hj, h1, show ¬ j < k + 1 by omega]
    · simp [markS, hj]
def marksS (n : Nat) : List ByteArray := (List.range n).map fun j => mtx (1 + j)
theorem marksS_len (n : Nat) : (marksS n).length = n := by simp [marksS]
theorem marksS_get (n j : Nat) (h : j < n) : (marksS n).getD j ByteArray.empty = mtx (1 + j) := by simp [marksS, List.getD_eq_getElem?_getD, h]
theorem markS_all (l : List ByteArray) : markS l l.length = marksS l.length := by
  apply List.ext_getElem?
  intro j
  by_cases hj : j < l.length
  · simp [markS, marksS, hj]
  · simp [markS, marksS, hj]

end Go.Proofs.YtfihhkhdigbmiaaGreatDoor
