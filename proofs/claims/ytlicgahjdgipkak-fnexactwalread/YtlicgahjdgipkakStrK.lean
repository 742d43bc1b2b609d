/- Marks from a number on: laws.markStringS, laws.heldStringS. -/
import Derived.Test.YtlicgahjdgipkakStr
namespace Go.Proofs.Ytlicgahjdgipkak
open Go.ChangeShapes Go.WideShapes Go.ChangeAt Go.RowKit
set_option linter.unusedVariables false

/-- Some of the marks laid. -/
def markK (c : Nat) (l : List ByteArray) (k : Nat) : List ByteArray := (List.range l.length).map fun j => if j < k then mtx (c + j) else l.getD j ByteArray.empty
theorem markK_len (c : Nat) (l : List ByteArray) (k : Nat) : (markK c l k).length = l.length := by simp [markK]
theorem markK_zero (c : Nat) (l : List ByteArray) : markK c l 0 = l := by
  apply List.ext_getElem?
  intro j
  by_cases hj : j < l.length
  · simp [markK, hj, List.getD_eq_getElem?_getD]
  · simp [markK, hj]
theorem markK_set (c : Nat) (l : List ByteArray) (k : Nat) (hk : k < l.length) : ((markK c l k).map Value.string).set k (.string (mtx (c + k))) = (markK c l (k + 1)).map Value.string := by
  apply List.ext_getElem?
  intro j
  rw [List.getElem?_set]
  simp only [List.length_map, markK_len, List.getElem?_map]
  by_cases e : k = j
  · subst e
    rw [if_pos rfl, if_pos hk]
    simp [markK, hk]
  · rw [if_neg e]
    by_cases hj : j < l.length
    · by_cases h1 : j < k
      · simp [markK, hj, h1, show j < k + 1 by omega]
      · simp [markK, hj, h1, show ¬ j < k + 1 by omega]
    · simp [markK, hj]
def marksK (c : Nat) (n : Nat) : List ByteArray := (List.range n).map fun j => mtx (c + j)
theorem marksK_len (c : Nat) (n : Nat) : (marksK c n).length = n := by simp [marksK]
theorem marksK_get (c : Nat) (n j : Nat) (h : j < n) : (marksK c n).getD j ByteArray.empty = mtx (c + j) := by simp [marksK, List.getD_eq_getElem?_getD, h]
theorem markK_all (c : Nat) (l : List ByteArray) : markK c l l.length = marksK c l.length := by
  apply List.ext_getElem?
  intro j
  by_cases hj : j < l.length
  · simp [markK, marksK, hj]
  · simp [markK, marksK, hj]

set_option maxRecDepth 100000 in
set_option maxHeartbeats 1000000 in
theorem markStringS_from (c : Nat) (hc0 : 0 < c) (hc1 : c ≤ 1048577) (B : Nat) (v : Value) (l : List ByteArray) (w : World) (h : OwnS B w v l) (hl : l.length ≤ 1048576) :
    Calls Try.prog 27 #[v, .int .i64 (c : Int)] w fun e w' => e = .returned (.int .i64 ((c : Int) + (l.length : Int))) ∧ OwnS B w' v (marksK c l.length) ∧ Touch (fun k => v.ownBlock = some k) w w' := by
  rcases own_shape h with ⟨rfl, h0⟩ | ⟨g, cap, rfl, hB, hlt0, hn, hm⟩
  · obtain rfl := List.eq_nil_of_length_eq_zero h0
    have H := hide h
    clear h
    go_enter Try.func27, Try.ntmps27
    go_wp2_with fail
    go_loopw [1, 5] (fun k i wr => k = .int .i64 (c : Int) ∧ i = .int .i64 0 ∧ wr = w) (fun _ _ _ => 0)
    case atStart => exact ⟨rfl, rfl, rfl⟩
    case round =>
      obtain ⟨rfl, rfl, rfl⟩ := hrel
      go_wp2_with fail
      go_ret
      exact ⟨rfl, unhide H, Touch.refl _ _⟩
  · have H := hide h
    clear h
    go_enter Try.func27, Try.ntmps27
    go_wp2_with fail
    go_loopw [1, 5] (fun k i wr => ∃ j : Nat, j ≤ l.length ∧ k = .int .i64 ((c : Int) + (j : Int)) ∧ i = .int .i64 j ∧ wr.ownsRow B 9 1 (.slice (some ⟨g, 0, none⟩) l.length cap) l.length ((markK c l j).map Value.string) ∧ Touch (fun k => k = g) w wr) (fun _ i _ => l.length - (intOf i).toNat)
    case atStart => exact ⟨0, Nat.zero_le _, rfl, rfl, by rw [markK_zero]; exact unhide H, Touch.refl _ _⟩
    case round =>
      obtain ⟨j, hj, rfl, rfl, hL, hT⟩ := hrel
      by_cases hlt2 : j < l.length
      · have p0 : (0 : Int) ≤ (j : Int) := by omega
        have p1 : (j : Int) < (l.length : Int) := by omega
        have HL := hide (And.intro hL hT)
        clear hL hT
        go_wp2_with fail
        refine (markText_int _ (c + j) (by omega) wr (by omega) (by omega)).mono ?_
        rintro e w2 ⟨rfl, hb2⟩
        have hO := own_kept (T := fun _ => False) (unhide HL).1 (Touch.ofBelow hb2) (fun _ _ h => h)
        have hT2 : Touch (fun k => k = g) w w2 := (unhide HL).2.trans (T' := fun _ => False) (Touch.ofBelow hb2) (fun _ _ h => h.elim)
        have hc0 := hO.cellAt j (by omega)
        rw [List.getElem?_map, List.getElem?_eq_getElem (by rw [markK_len]; exact hlt2)] at hc0
        simp only [Option.map_some] at hc0
        have hf0 := hO.frozenAt j
        have R := hide (And.intro (hO.stored j (.string (mtx (c + j)))).1 (hT2.setCell ⟨g, j, none⟩ (.string (mtx (c + j))) (fun _ => rfl)))
        rw [markK_set c l j hlt2] at R
        clear hb2 hO hT2 HL
        generalize mtx (c + j) = x at *
        go_wp2_with fail
        refine ⟨⟨j + 1, by omega, by go_num, by go_num, (unhide R).1, (unhide R).2⟩, ?_⟩
        simp [intOf]; omega
      · obtain rfl : j = l.length := by omega
        have R := hide (And.intro hL hT)
        clear hL hT
        go_wp2_with fail
        go_ret
        refine ⟨rfl, ?_, ?_⟩
        · have hh := (unhide R).1
          rw [markK_all] at hh
          unfold OwnS
          rw [marksK_len]
          exact hh
        · exact (Touch.refl (fun k => (Value.slice (some ⟨g, 0, none⟩) l.length cap).ownBlock = some k) w).trans (unhide R).2 (fun k _ e => by subst e; rfl)

set_option maxRecDepth 100000 in
set_option maxHeartbeats 1000000 in
theorem heldStringS_from (c : Nat) (hc0 : 0 < c) (hc1 : c ≤ 1048577) (B : Nat) (v : Value) (n : Nat) (w : World) (h : OwnS B w v (marksK c n)) (hn : n ≤ 1048576) :
    Calls Try.prog 28 #[v, .int .i64 (c : Int)] w fun e w' => e = .returned (.int .i64 ((c : Int) + (n : Int))) ∧ Below w.heap.size w w' := by
  rcases own_shape h with ⟨rfl, h0⟩ | ⟨g, cap, rfl, hB, hlt0, hn1, hm⟩
  · rw [marksK_len] at h0
    subst h0
    clear h
    go_enter Try.func28, Try.ntmps28
    go_wp2_with fail
    go_loop [1, 5] (fun k i => k = .int .i64 (c : Int) ∧ i = .int .i64 0) (fun _ _ => 0)
    case atStart => exact ⟨rfl, rfl⟩
    case round =>
      obtain ⟨rfl, rfl⟩ := hrel
      go_wp2_with fail
      go_ret
      exact ⟨rfl, Below.refl _ _⟩
  · have HC := hide (fun j hj => h.cell j hj)
    have hml := marksK_len c n
    rw [hml]
    clear h
    go_enter Try.func28, Try.ntmps28
    go_wp2_with fail
    go_loopw [1, 5] (fun k i wr => ∃ j : Nat, j ≤ n ∧ k = .int .i64 ((c : Int) + (j : Int)) ∧ i = .int .i64 j ∧ Below w.heap.size w wr) (fun _ i _ => n - (intOf i).toNat)
    case atStart => exact ⟨0, Nat.zero_le _, rfl, rfl, Below.refl _ _⟩
    case round =>
      obtain ⟨j, hj, rfl, rfl, hb⟩ := hrel
      by_cases hlt2 : j < n
      · have c1 := (hb.cell (p := ⟨g, j, none⟩) hlt0).trans (unhide HC j (by omega))
        simp only [marksK_get c n j hlt2] at c1
        have p0 : (0 : Int) ≤ (j : Int) := by omega
        have p1 : (j : Int) < (n : Int) := by omega
        have HB := hide hb
        have hz := hb.size
        clear hb
        go_wp2_with fail
        go_region_held3 (fun wx => wx.cell? ⟨g, j, none⟩ = some (.string (mtx (c + j)))) (first | go_keep | exact (hb2.cell (p := ⟨g, j, none⟩) (by simp; omega)).trans (by assumption)) ((go_at_call 35; refine (markText_int _ (c + j) (by omega) _ (by omega) (by omega)).mono ?_; rintro e w2 ⟨rfl, hb2⟩))
        all_goals
          have HB2 := hide ((unhide HB).trans (show Below w.heap.size wr w2 from (below_drewN (Below.refl _ wr) 1).trans (hb2.mono (by simpa using hz))))
          clear hb2 HB
          go_wp2_with fail
          refine ⟨⟨j + 1, by omega, by go_num, by go_num, unhide HB2⟩, ?_⟩
          simp [intOf]; omega
      · obtain rfl : j = n := by omega
        have R := hide hb
        clear hb
        go_wp2_with fail
        go_ret
        exact ⟨rfl, unhide R⟩

end Go.Proofs.Ytlicgahjdgipkak
