/- Slices of texts, and the laws' marks: markText. -/
import Derived.Test.YtkojmnlfpccbiaaDoorStrO
import Derived.Deep.RegionHeld3
namespace Go.Proofs.YtkojmnlfpccbiaaDoor
open Go.ChangeShapes Go.WideShapes Go.ChangeAt Go.RowKit
set_option linter.unusedVariables false

theorem ret_str2 {a b : ByteArray} (h : a = b) : Ending.returned (.string a) = .returned (.string b) := by rw [h]
def mtxR (k : Nat) (out : ByteArray) : ByteArray := if h : k = 0 then out else mtxR (k / 10) (strOfNums [48 + ((k % 10 : Nat) : Int)] ++ out)
termination_by k
decreasing_by omega
def mtx (k : Nat) : ByteArray := strOfNums [109] ++ mtxR k (strOfNums [])

set_option maxRecDepth 100000 in
set_option maxHeartbeats 1000000 in
theorem markText_any (k : Nat) (w : World) (h0 : 0 < k) (h1 : k ≤ 4294967296) :
    Calls Tryd.prog 42 #[.int .i64 k] w fun e w' => e = .returned (.string (mtx k)) ∧ Below w.heap.size w w' := by
  go_enter Tryd.func42, Tryd.ntmps42
  go_wp2_with fail
  go_loopw [0, 3] (fun kk o wr => ∃ (j : Nat) (out : ByteArray), j ≤ k ∧ kk = .int .i64 j ∧ o = .string out ∧ out.size + j ≤ k ∧ mtxR j out = mtxR k (strOfNums []) ∧ Below w.heap.size w wr) (fun kk _ _ => (intOf kk).toNat)
  case atStart => exact ⟨k, strOfNums [], Nat.le_refl _, rfl, rfl, by simp [strOfNums_size], rfl, Below.refl _ _⟩
  case round =>
    obtain ⟨j, out, hj, rfl, rfl, hsz, hm, hb⟩ := hrel
    by_cases hj0 : 0 < j
    · have hE : Hid (mtxR (j / 10) (strOfNums [48 + ((j % 10 : Nat) : Int)] ++ out) = mtxR k (strOfNums [])) := hide (by rw [← hm]; conv => rhs; rw [mtxR, dif_neg (by omega)])
      have HB := hide hb
      have hr4 : 10 * (j / 10) ≤ j := by omega
      have hcv : (convert 110 9 (.slice (some ⟨wr.heap.size, 0, none⟩) 1 1)).run Tryd.prog (wr.alloc (.cells #[.int .u8 (48 + (j : Int) % 10)] 5)) = .ok (.string (strOfNums [48 + (j : Int) % 10])) (wr.alloc (.cells #[.int .u8 (48 + (j : Int) % 10)] 5)) :=
        run_convert_bytes_arg _ 110 5 Tryd.underlying110 Tryd.underlying5 wr.heap.size 0 1 1 [48 + (j : Int) % 10] rfl (fun i hi => by
          obtain rfl : i = 0 := by omega
          rw [World.cell?_alloc_at _ _ _ _ rfl]; rfl) 9 Tryd.underlying9
      have HB2 := hide ((unhide HB).alloc (unhide HB).size (.cells #[.int .u8 (48 + (j : Int) % 10)] 5))
      have hs1 : (strOfNums [48 + (j : Int) % 10]).size = 1 := strOfNums_size _
      rw [show ((j % 10 : Nat) : Int) = (j : Int) % 10 by omega] at hE
      generalize strOfNums [48 + (j : Int) % 10] = d at *
      clear hm hb HB
      go_wp2_with fail
      refine ⟨⟨j / 10, d ++ out, by omega, by go_num, rfl, by rw [ByteArray.size_append]; omega, unhide hE, unhide HB2⟩, ?_⟩
      simp [intOf]; omega
    · obtain rfl : j = 0 := by omega
      have hE : Hid (out = mtxR k (strOfNums [])) := hide (by rw [← hm, mtxR, dif_pos rfl])
      have HB := hide hb
      clear hm hb
      go_wp2_with fail
      go_ret
      exact ⟨ret_str2 (by rw [unhide hE]; rfl), unhide HB⟩

theorem markText_int (ki : Int) (k : Nat) (hk : ki = (k : Int)) (w : World) (h0 : 0 < k) (h1 : k ≤ 4294967296) :
    Calls Tryd.prog 42 #[.int .i64 ki] w fun e w' => e = .returned (.string (mtx k)) ∧ Below w.heap.size w w' := by
  subst hk; exact markText_any k w h0 h1

/-- Some of the marks laid. -/
def markS (l : List ByteArray) (k : Nat) : List ByteArray := (List.range l.length).map fun j => if j < k then mtx (1 + j) else l.getD j ByteArray.empty
theorem markS_len (l : List ByteArray) (k : Nat) : (markS l k).length = l.length := by simp [markS]
theorem markS_zero (l : List ByteArray) : markS l 0 = l := by
  apply List.ext_getElem?
  intro j
  by_cases hj : j < l.length
  · simp [markS, hj, List.getD_eq_getElem?_getD]
  · simp [markS, hj]
theorem markS_set (l : List ByteArray) (k : Nat) (hk : k < l.length) : ((markS l k).map Value.string).set k (.string (mtx (1 + k))) = (markS l (k + 1)).map Value.string := by
  apply List.ext_getElem?
  intro j
  rw [List.getElem?_set]
  simp only [List.length_map, markS_len, List.getElem?_map]
  by_cases e : k = j
  · subst e
    rw [if_pos rfl, if_pos hk]
    simp [markS, hk]
  · rw [if_neg e]
    by_cases hj : j < l.length
    · by_cases h1 : j < k
      · simp [markS, hj, h1, show j < k + 1 by omega]
      · simp [markS, hj, h1, show ¬ j < k + 1 by omega]
    · simp [markS, hj]
def marksS (n : Nat) : List ByteArray := (List.range n).map fun j => mtx (1 + j)
theorem marksS_len (n : Nat) : (marksS n).length = n := by simp [marksS]
theorem marksS_get (n j : Nat) (h : j < n) : (marksS n).getD j ByteArray.empty = mtx (1 + j) := by simp [marksS, List.getD_eq_getElem?_getD, h]
theorem markS_all (l : List ByteArray) : markS l l.length = marksS l.length := by
  apply List.ext_getElem?
  intro j
  by_cases hj : j < l.length
  · simp [markS, marksS, hj]
  · simp [markS, marksS, hj]

set_option maxRecDepth 100000 in
set_option maxHeartbeats 1000000 in
theorem markStringS_any (B : Nat) (v : Value) (l : List ByteArray) (w : World) (h : OwnS B w v l) (hl : l.length ≤ 1048576) :
    Calls Tryd.prog 16 #[v, .int .i64 1] w fun e w' => e = .returned (.int .i64 (1 + (l.length : Int))) ∧ OwnS B w' v (marksS l.length) ∧ Touch (fun k => v.ownBlock = some k) w w' := by
  rcases own_shape h with ⟨rfl, h0⟩ | ⟨g, cap, rfl, hB, hlt0, hn, hm⟩
  · obtain rfl := List.eq_nil_of_length_eq_zero h0
    have H := hide h
    clear h
    go_enter Tryd.func16, Tryd.ntmps16
    go_wp2_with fail
    go_loopw [1, 5] (fun k i wr => k = .int .i64 1 ∧ i = .int .i64 0 ∧ wr = w) (fun _ _ _ => 0)
    case atStart => exact ⟨rfl, rfl, rfl⟩
    case round =>
      obtain ⟨rfl, rfl, rfl⟩ := hrel
      go_wp2_with fail
      go_ret
      exact ⟨rfl, unhide H, Touch.refl _ _⟩
  · have H := hide h
    clear h
    go_enter Tryd.func16, Tryd.ntmps16
    go_wp2_with fail
    go_loopw [1, 5] (fun k i wr => ∃ j : Nat, j ≤ l.length ∧ k = .int .i64 (1 + (j : Int)) ∧ i = .int .i64 j ∧ wr.ownsRow B 9 1 (.slice (some ⟨g, 0, none⟩) l.length cap) l.length ((markS l j).map Value.string) ∧ Touch (fun k => k = g) w wr) (fun _ i _ => l.length - (intOf i).toNat)
    case atStart => exact ⟨0, Nat.zero_le _, rfl, rfl, by rw [markS_zero]; exact unhide H, Touch.refl _ _⟩
    case round =>
      obtain ⟨j, hj, rfl, rfl, hL, hT⟩ := hrel
      by_cases hlt2 : j < l.length
      · have p0 : (0 : Int) ≤ (j : Int) := by omega
        have p1 : (j : Int) < (l.length : Int) := by omega
        have HL := hide (And.intro hL hT)
        clear hL hT
        go_wp2_with fail
        refine (markText_int _ (1 + j) (by omega) wr (by omega) (by omega)).mono ?_
        rintro e w2 ⟨rfl, hb2⟩
        have hO := own_kept (T := fun _ => False) (unhide HL).1 (Touch.ofBelow hb2) (fun _ _ h => h)
        have hT2 : Touch (fun k => k = g) w w2 := (unhide HL).2.trans (T' := fun _ => False) (Touch.ofBelow hb2) (fun _ _ h => h.elim)
        have hc0 := hO.cellAt j (by omega)
        rw [List.getElem?_map, List.getElem?_eq_getElem (by rw [markS_len]; exact hlt2)] at hc0
        simp only [Option.map_some] at hc0
        have hf0 := hO.frozenAt j
        have R := hide (And.intro (hO.stored j (.string (mtx (1 + j)))).1 (hT2.setCell ⟨g, j, none⟩ (.string (mtx (1 + j))) (fun _ => rfl)))
        rw [markS_set l j hlt2] at R
        clear hb2 hO hT2 HL
        generalize mtx (1 + j) = x at *
        go_wp2_with fail
        refine ⟨⟨j + 1, by omega, by go_num, by go_num, (unhide R).1, (unhide R).2⟩, ?_⟩
        simp [intOf]; omega
      · obtain rfl : j = l.length := by omega
        have R := hide (And.intro hL hT)
        clear hL hT
        go_wp2_with fail
        go_ret
        refine ⟨rfl, ?_, ?_⟩
        · have hh := (unhide R).1
          rw [markS_all] at hh
          unfold OwnS
          rw [marksS_len]
          exact hh
        · exact (Touch.refl (fun k => (Value.slice (some ⟨g, 0, none⟩) l.length cap).ownBlock = some k) w).trans (unhide R).2 (fun k _ e => by subst e; rfl)

set_option maxRecDepth 100000 in
set_option maxHeartbeats 1000000 in
theorem heldStringS_any (B : Nat) (v : Value) (n : Nat) (w : World) (h : OwnS B w v (marksS n)) (hn : n ≤ 1048576) :
    Calls Tryd.prog 17 #[v, .int .i64 1] w fun e w' => e = .returned (.int .i64 (1 + (n : Int))) ∧ Below w.heap.size w w' := by
  rcases own_shape h with ⟨rfl, h0⟩ | ⟨g, cap, rfl, hB, hlt0, hn1, hm⟩
  · rw [marksS_len] at h0
    subst h0
    clear h
    go_enter Tryd.func17, Tryd.ntmps17
    go_wp2_with fail
    go_loop [1, 5] (fun k i => k = .int .i64 1 ∧ i = .int .i64 0) (fun _ _ => 0)
    case atStart => exact ⟨rfl, rfl⟩
    case round =>
      obtain ⟨rfl, rfl⟩ := hrel
      go_wp2_with fail
      go_ret
      exact ⟨rfl, Below.refl _ _⟩
  · have HC := hide (fun j hj => h.cell j hj)
    have hml := marksS_len n
    rw [hml]
    clear h
    go_enter Tryd.func17, Tryd.ntmps17
    go_wp2_with fail
    go_loopw [1, 5] (fun k i wr => ∃ j : Nat, j ≤ n ∧ k = .int .i64 (1 + (j : Int)) ∧ i = .int .i64 j ∧ Below w.heap.size w wr) (fun _ i _ => n - (intOf i).toNat)
    case atStart => exact ⟨0, Nat.zero_le _, rfl, rfl, Below.refl _ _⟩
    case round =>
      obtain ⟨j, hj, rfl, rfl, hb⟩ := hrel
      by_cases hlt2 : j < n
      · have c1 := (hb.cell (p := ⟨g, j, none⟩) hlt0).trans (unhide HC j (by omega))
        simp only [marksS_get n j hlt2] at c1
        have p0 : (0 : Int) ≤ (j : Int) := by omega
        have p1 : (j : Int) < (n : Int) := by omega
        have HB := hide hb
        have hz := hb.size
        clear hb
        go_wp2_with fail
        go_region_held3 (fun wx => wx.cell? ⟨g, j, none⟩ = some (.string (mtx (1 + j)))) (first | go_keep | exact (hb2.cell (p := ⟨g, j, none⟩) (by simp; omega)).trans (by assumption)) ((go_at_call 42; refine (markText_int _ (1 + j) (by omega) _ (by omega) (by omega)).mono ?_; rintro e w2 ⟨rfl, hb2⟩))
        all_goals
          have HB2 := hide ((unhide HB).trans (show Below w.heap.size wr w2 from (below_drewN (Below.refl _ wr) 1).trans (hb2.mono (by simpa using hz))))
          clear hb2 HB
          go_wp2_with fail
          refine ⟨⟨j + 1, by omega, by go_num, by go_num, unhide HB2⟩, ?_⟩
          simp [intOf]; omega
      · obtain rfl : j = n := by omega
        have R := hide hb
        clear hb
        go_wp2_with fail
        go_ret
        exact ⟨rfl, unhide R⟩

set_option maxRecDepth 100000 in
set_option maxHeartbeats 1000000 in
theorem eqStringS_any (v v2 : Value) (l : List ByteArray) (w : World) (h : Strs w v l) (h2 : Strs w v2 l) (hs : l.length ≤ 1048576) :
    Calls Tryd.prog 14 #[v, v2] w fun e w' => e = .returned (.bool true) ∧ ∃ n, w' = w.drewN n := by
  obtain ⟨a, cap, rfl, hm, hc⟩ := h
  obtain ⟨a2, cap2, rfl, hm2, hc2⟩ := h2
  have HC := hide hc
  have HC2 := hide hc2
  clear hc hm hc2 hm2
  go_enter Tryd.func14, Tryd.ntmps14
  go_wp2_with fail
  go_loopw [5] (fun i wr => ∃ k n : Nat, k ≤ l.length ∧ i = .int .i64 k ∧ wr = w.drewN n) (fun i _ => l.length - (intOf i).toNat)
  case atStart => exact ⟨0, 0, Nat.zero_le _, rfl, rfl⟩
  case round =>
    obtain ⟨k, n, hk, rfl, rfl⟩ := hrel
    by_cases hlt : k < l.length
    · obtain ⟨b, off, rfl, hbl, hsrc⟩ : ∃ b off, a = some ⟨b, off, none⟩ ∧ b < w.heap.size ∧ ∀ i, i < l.length → w.cell? ⟨b, off + i, none⟩ = some (.string (l.getD i ByteArray.empty)) := by
        rcases unhide HC with h0 | h1
        · omega
        · exact h1
      obtain ⟨b2, off2, rfl, hbl2, hsrc2⟩ : ∃ b off, a2 = some ⟨b, off, none⟩ ∧ b < w.heap.size ∧ ∀ i, i < l.length → w.cell? ⟨b, off + i, none⟩ = some (.string (l.getD i ByteArray.empty)) := by
        rcases unhide HC2 with h0 | h1
        · omega
        · exact h1
      have hs1 : w.cell? ⟨b, off + k, none⟩ = some (.string (l.getD k ByteArray.empty)) := hsrc k hlt
      have hs2 : w.cell? ⟨b2, off2 + k, none⟩ = some (.string (l.getD k ByteArray.empty)) := hsrc2 k hlt
      have hk0 : (0 : Int) ≤ (k : Int) := by omega
      have hk1 : (k : Int) < (l.length : Int) := by omega
      clear hsrc hsrc2
      generalize l.getD k ByteArray.empty = x at *
      go_wp2_with fail
      go_quiet (fail)
      go_wp2_with fail
      refine ⟨⟨k + 1, n + nq, by omega, by go_num, rfl⟩, ?_⟩
      simp [intOf]; omega
    · go_wp2_with fail
      go_ret
      exact ⟨rfl, n, rfl⟩
end Go.Proofs.YtkojmnlfpccbiaaDoor
