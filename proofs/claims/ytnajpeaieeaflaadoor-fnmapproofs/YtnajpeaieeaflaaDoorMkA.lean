/- The hash of a leaf and of a node: impl's and the specification's. -/
import Derived.Test.YtnajpeaieeaflaaDoorDoor
import Derived.Test.YtnajpeaieeaflaaDoorSpG
import Derived.Test.YtnajpeaieeaflaaDoorStrO
import Derived.Laws.IdiomStrings
namespace Go.Proofs.YtnajpeaieeaflaaDoor.Sha
open Go.ChangeShapes Go.WideShapes Go.ChangeAt Go.RowKit
set_option linter.unusedVariables false

def Tab (w : World) : Prop := First w ∧ Table w
theorem Tab.below {w w' : World} (h : Tab w) (hb : Below w.heap.size w w') : Tab w' := ⟨h.1.below hb, h.2.below hb (Nat.le_refl _)⟩
theorem bytesI_append (a b : ByteArray) : bytesI (a ++ b) = bytesI a ++ bytesI b := by
  unfold bytesI; rw [ByteArray.data_append, Array.toList_append, List.map_append]
/-- A text's bytes in a block of their own. -/
theorem str_bytesB (s : ByteArray) (w : World) (hs : s.size ≤ maxLen) : ∃ cap w1, (convert 9 22 (.string s)).run Tryd.prog w = .ok (.slice (some ⟨w.heap.size, 0, none⟩) s.size cap) w1 ∧ Bytes w1 (.slice (some ⟨w.heap.size, 0, none⟩) s.size cap) (bytesI s) ∧ Below w.heap.size w w1 := by
  refine ⟨grownCap w s.size 0 5, _, by rw [run_bytes_of_string w 9 22 5 s Tryd.underlying9 Tryd.underlying22 Tryd.underlying5], ?_, ?_⟩
  · refine ⟨_, _, by rw [bytesI_len], by rw [bytesI_len]; exact hs, .inr ⟨w.heap.size, 0, rfl, by simp, fun i hi => ?_⟩, bytesI_range s⟩
    rw [bytesI_len] at hi
    have hb : (w.drew.alloc (.cells (bytesRow s (grownCap w s.size 0 5)) 5 ((bytesRow s (grownCap w s.size 0 5)).size, (bytesRow s (grownCap w s.size 0 5)).size + 1))).heap[w.heap.size]? = some (.cells (bytesRow s (grownCap w s.size 0 5)) 5 ((bytesRow s (grownCap w s.size 0 5)).size, (bytesRow s (grownCap w s.size 0 5)).size + 1)) := heap_alloc_new w.drew _
    rw [Nat.zero_add, cell_of_row _ _ _ _ _ _ hb]
    have hi' : i < s.data.size := hi
    unfold bytesRow bytesI
    rw [Array.getElem?_append_left (by simpa using hi')]
    rw [Array.getElem?_map, Array.getElem?_eq_getElem hi', List.getD_eq_getElem?_getD, List.getElem?_map, Array.getElem?_toList, Array.getElem?_eq_getElem hi']
    rfl
  · exact ((Below.refl _ _).drew).alloc (Nat.le_refl _) _
def leafV (s : ByteArray) : ByteArray := hashV (0 :: bytesI s)
def nodeV (a b : ByteArray) : ByteArray := hashV (1 :: (bytesI a ++ bytesI b))
theorem hash_size {l : List Int} (h : l.length ≤ 65536) : (hashV l).size = 32 := by
  unfold hashV; rw [if_neg (by omega), strOfNums_size]; simp [textL]
theorem node_size {a b : ByteArray} (ha : a.size = 32) (hb : b.size = 32) : (nodeV a b).size = 32 := hash_size (by simp [bytesI_len, ha, hb])

theorem range_cons {x : Int} {xs : List Int} (h0 : 0 ≤ x) (h1 : x ≤ 255) (h : ∀ i, 0 ≤ xs.getD i 0 ∧ xs.getD i 0 ≤ 255) : ∀ i, 0 ≤ (x :: xs).getD i 0 ∧ (x :: xs).getD i 0 ≤ 255 := by
  intro i
  cases i with
  | zero => simp; omega
  | succ i => simpa using h i
end Go.Proofs.YtnajpeaieeaflaaDoor.Sha
