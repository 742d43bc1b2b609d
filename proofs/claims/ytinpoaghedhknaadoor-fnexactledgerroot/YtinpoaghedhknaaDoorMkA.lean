/- The hash of a leaf and of a node: impl's and the specification's. -/
import Derived.Test.YtinpoaghedhknaaDoorDoor
import Derived.Test.YtinpoaghedhknaaDoorSpG
import Derived.Test.YtinpoaghedhknaaDoorStrO
import Derived.Laws.IdiomStrings
namespace Go.Proofs.YtinpoaghedhknaaDoor.Sha
open Go.ChangeShapes Go.WideShapes Go.ChangeAt Go.RowKit
set_option linter.unusedVariables false

def Tab (w : World) : Prop := First w ∧ Table w
theorem Tab.below {w w' : World} (h : Tab w) (hb : Below w.heap.size w w') : Tab w' := ⟨h.1.below hb, h.2.below hb (Nat.le_refl _)⟩
theorem bytesI_append (a b : ByteArray) : bytesI (a ++ b) = bytesI a ++ bytesI b := by
  unfold bytesI; rw [ByteArray.data_append, Array.toList_append, List.map_append]
/-- A text's bytes in a block of their own. -/
theorem str_bytesB (s : ByteArray) (w : World) (hs : s.size ≤ maxLen) : ∃ cap w1, (convert 9 80 (.string s)).run Tryd.prog w = .ok (.slice (some ⟨w.heap.size, 0, none⟩) s.size cap) w1 ∧ Bytes w1 (.slice (some ⟨w.heap.size, 0, none⟩) s.size cap) (bytesI s) ∧ Below w.heap.size w w1 := by
  refine ⟨grownCap w s.size 0 5, _, by rw [run_bytes_of_string w 9 80 5 s Tryd.underlying9 Tryd.underlying80 Tryd.underlying5], ?_, ?_⟩
  · refine ⟨_, _, by rw [bytesI_len], by rw [bytesI_len]; exact hs, .inr ⟨w.heap.size, 0, rfl, by simp, fun i hi => ?_⟩, bytesI_range s⟩
    rw [bytesI_len] at hi
    have hb : (w.drew.alloc (.cells (bytesRow s (grownCap w s.size 0 5)) 5 ((bytesRow s (grownCap w s.size 0 5)).size, (bytesRow s (grownCap w s.size 0 5)).size + 1))).heap[w.heap.size]? = some (.cells (bytesRow s (grownCap w s.size 0 5)) 5 ((bytesRow s (grownCap w s.size 0 5)).size, (bytesRow s (grownCap w s.size 0 5)).size + 1)) := heap_alloc_new w.drew _
    rw [Nat.zero_add, cell_of_row _ _ _ _ _ _ hb]
    have hi' : i < s.data.size := hi
    unfold bytesRow bytesI
    rw [Array.getElem?_append_left (by simpa using hi')]
    rw [Array.getElem?_map, Array.getElem?_eq_getElem hi', List.getD_eq_getElem?_getD, List.getElem?_map, Array.getElem?_toList, Array.getElem?_eq_getElem hi']
    rfl
  · exact ((Below.refl _ _).drew).alloc (Nat.le_refl _) _
def leafV (s : ByteArray) : ByteArray := hashV (0 :: bytesI s)
def nodeV (a b : ByteArray) : ByteArray := hashV (1 :: (bytesI a ++ bytesI b))
theorem hash_size {l : List Int} (h : l.length ≤ 65536) : (hashV l).size = 32 := by
  unfold hashV; rw [if_neg (by omega), strOfNums_size]; simp [textL]
theorem node_size {a b : ByteArray} (ha : a.size = 32) (hb : b.size = 32) : (nodeV a b).size = 32 := hash_size (by simp [bytesI_len, ha, hb])

/-- What is hashed of a tree of two. -/
def nodeI (a b : ByteArray) : ByteArray := ByteArray.mk #[1] ++ a ++ b
theorem nodeI_size {a b : ByteArray} (ha : a.size = 32) (hb : b.size = 32) : (nodeI a b).size = 65 := by
  unfold nodeI; rw [ByteArray.size_append, ByteArray.size_append, ha, hb]; rfl
theorem nodeI_bytes (a b : ByteArray) : bytesI (nodeI a b) = 1 :: (bytesI a ++ bytesI b) := by
  unfold nodeI; rw [bytesI_append, bytesI_append]; rfl
set_option maxRecDepth 100000 in
theorem nodeInput_any (a b : ByteArray) (w : World) (ha : a.size = 32) (hb : b.size = 32) :
    Calls Tryd.prog 109 #[.string a, .string b] w fun e w' => e = .returned (.string (nodeI a b)) ∧ w' = w := by
  have hsz : (ByteArray.mk #[1] ++ a ++ b).size = 65 := nodeI_size ha hb
  go_enter Tryd.func109, Tryd.ntmps109
  go_wp2_with fail
  go_ret
  exact ⟨rfl, rfl⟩
/-- A text hashed, where its bytes and its hash are known. -/
theorem nodeConv (a b : ByteArray) (w : World) (ha : a.size = 32) (hb : b.size = 32) : ∃ cap w1, (convert 9 80 (.string (nodeI a b))).run Tryd.prog w = .ok (.slice (some ⟨w.heap.size, 0, none⟩) 65 cap) w1 ∧ Bytes w1 (.slice (some ⟨w.heap.size, 0, none⟩) 65 cap) (1 :: (bytesI a ++ bytesI b)) ∧ Below w.heap.size w w1 := by
  obtain ⟨cap, w1, hcv, hB, hb1⟩ := str_bytesB (nodeI a b) w (by rw [nodeI_size ha hb]; unfold maxLen; omega)
  rw [nodeI_size ha hb] at hcv hB
  rw [nodeI_bytes] at hB
  exact ⟨cap, w1, hcv, hB, hb1⟩
set_option maxRecDepth 100000 in
set_option maxHeartbeats 1000000 in
theorem nodeHash_any (a b : ByteArray) (w : World) (ha : a.size = 32) (hb : b.size = 32) (ht : Tab w) :
    Calls Tryd.prog 96 #[.string a, .string b] w fun e w' => e = .returned (.string (nodeV a b)) ∧ Below w.heap.size w w' := by
  have HT := hide ht
  have HN := hide (nodeInput_any a b w ha hb)
  obtain ⟨cap, w1, hcv, hB, hb1⟩ := nodeConv a b w ha hb
  have HB := hide hB
  have HB1 := hide hb1
  have HV : Hid (nodeV a b = hashV (1 :: (bytesI a ++ bytesI b))) := rfl
  clear ht hB hb1
  generalize nodeI a b = x at *
  go_enter Tryd.func96, Tryd.ntmps96
  go_wp2_with fail
  refine (unhide HN).mono ?_
  rintro e w9 ⟨rfl, hw⟩
  subst w9
  go_wp2_with fail
  refine (implHash_any _ _ w1 (unhide HB) ((unhide HT).below (unhide HB1)).2 ((unhide HT).below (unhide HB1)).1).mono ?_
  rintro e w2 ⟨rfl, hb2⟩
  have K := hide ((unhide HB1).trans (hb2.mono (unhide HB1).size))
  clear hb2
  go_wp2_with fail
  go_ret
  exact ⟨by rw [unhide HV]; rfl, unhide K⟩
theorem range_cons {x : Int} {xs : List Int} (h0 : 0 ≤ x) (h1 : x ≤ 255) (h : ∀ i, 0 ≤ xs.getD i 0 ∧ xs.getD i 0 ≤ 255) : ∀ i, 0 ≤ (x :: xs).getD i 0 ∧ (x :: xs).getD i 0 ≤ 255 := by
  intro i
  cases i with
  | zero => simp; omega
  | succ i => simpa using h i
set_option maxRecDepth 100000 in
set_option maxHeartbeats 1000000 in
theorem l06Node_any (a b : ByteArray) (w : World) (ha : a.size = 32) (hb : b.size = 32) :
    Calls Tryd.prog 63 #[.string a, .string b] w fun e w' => e = .returned (.string (nodeV a b)) ∧ Below w.heap.size w w' := by
  obtain ⟨i0, hi, hz0, hz1, hz2⟩ := info_parts info5
  have O0 : Hid ((w.alloc (.cells #[.int .u8 1] 5)).ownsRow w.heap.size 5 1 (.slice (some ⟨w.heap.size, 0, none⟩) 1 1) 1 [.int .u8 1]) := hide (own_lit (heap_new rfl) (Nat.le_refl _) rfl (by unfold maxLen; omega))
  have B0 := hide ((Below.refl w.heap.size w).alloc (Nat.le_refl _) (.cells #[.int .u8 1] 5))
  have ha2 : a.size ≤ 32 := by omega
  have hb2 : b.size ≤ 32 := by omega
  have HA := hide (And.intro ha hb)
  have hlen : Hid ((1 :: (bytesI a ++ bytesI b)).length = 65) := hide (by simp [bytesI_len, ha, hb])
  have hV : Hid (nodeV a b = strOfNums (textL (stAt (1 :: (bytesI a ++ bytesI b)) (padLen (1 :: (bytesI a ++ bytesI b)).length / 64)))) := hide (hashV_yes (by rw [unhide hlen]; omega))
  clear ha hb
  go_enter Tryd.func63, Tryd.ntmps63
  go_wp2_with (at_builtin; first
    | (refine wpList_append_str _ rfl _ _ _ _ rfl w.heap.size 5 i0 Tryd.underlying80 Tryd.underlying9 hi hz0 hz1 hz2 _ (1 + a.size) _ rfl (unhide O1) b rfl (by omega) (by omega) (by have := (unhide B1).size; omega) ?_; intro g2 cap2 w2 hown2 hgrow2 hat2; have O2 := hide hown2; have B2 := hide ((unhide B1).grown hgrow2 (by have := (unhide B1).size; omega) (fun r hr => ((unhide O1).lt r hr).1)); clear hown2 hgrow2 hat2)
    | (refine wpList_append_str _ rfl _ _ _ _ rfl w.heap.size 5 i0 Tryd.underlying80 Tryd.underlying9 hi hz0 hz1 hz2 _ 1 _ rfl (unhide O0) a rfl (by omega) (by omega) (by simp) ?_; intro g1 cap1 w1 hown1 hgrow1 hat1; have O1 := hide hown1; have B1 := hide ((unhide B0).grown hgrow1 (by simp) (fun r hr => ((unhide O0).lt r hr).1)); clear hown1 hgrow1 hat1))
  have hx : Bytes w2 (.slice (some ⟨g2, 0, none⟩) (1 :: (bytesI a ++ bytesI b)).length cap2) (1 :: (bytesI a ++ bytesI b)) := by
    refine OwnB.bytes (B := w.heap.size) ⟨?_, range_cons (by omega) (by omega) (range_append (bytesI_range a) (bytesI_range b))⟩
    have h := unhide O2
    rw [strCells_eq, strCells_eq] at h
    rw [show (1 :: (bytesI a ++ bytesI b)).length = 1 + a.size + b.size by simp [bytesI_len]; omega]
    simpa using h
  have HL := hide (l01Hash_any _ _ _ w2 hx (by rw [unhide hlen]; omega))
  rw [show (1 :: (bytesI a ++ bytesI b)).length = 1 + a.size + b.size by simp [bytesI_len]; omega] at HL hV
  clear hx
  refine (unhide HL).mono ?_
  rintro e w3 ⟨rfl, hb3⟩
  have K := hide ((unhide B2).trans (hb3.mono (unhide B2).size))
  clear hb3
  rw [← unhide hV]
  go_wp2_with fail
  go_ret
  exact ⟨rfl, unhide K⟩
end Go.Proofs.YtinpoaghedhknaaDoor.Sha
