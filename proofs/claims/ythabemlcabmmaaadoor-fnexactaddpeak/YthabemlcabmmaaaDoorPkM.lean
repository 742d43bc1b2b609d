/- Peaks' marks, laid and found again: laws.markPeakS, heldPeakS. -/
import Derived.Test.YthabemlcabmmaaaDoorPkL
import Derived.Test.YthabemlcabmmaaaDoorStr
namespace Go.Proofs.YthabemlcabmmaaaDoor
open Go.ChangeShapes Go.WideShapes Go.ChangeAt Go.RowKit
set_option linter.unusedVariables false
set_option linter.unusedSimpArgs false

theorem wrapPm (n : Int) (h0 : 0 ≤ n) (h1 : n < 9223372036854775808) : IntKind.i64.wrap n = n := by
  simp only [IntKind.wrap, IntKind.bits, IntKind.signed]
  simp
  omega
def mkPk (c j : Nat) : Pk := ⟨(c : Int) + 2 * (j : Int), mtx (c + 2 * j + 1)⟩
/-- The peaks, the first k of them marked from c on. -/
def pkTo (c : Nat) (l : List Pk) (k : Nat) : List Pk := (List.range l.length).map fun j => if j < k then mkPk c j else l.getD j default
def mkPks (c n : Nat) : List Pk := (List.range n).map fun j => mkPk c j
theorem pkTo_len (c : Nat) (l : List Pk) (k : Nat) : (pkTo c l k).length = l.length := by simp [pkTo]
theorem mkPks_len (c n : Nat) : (mkPks c n).length = n := by simp [mkPks]
theorem mkPks_get (c n j : Nat) (h : j < n) : (mkPks c n).getD j default = mkPk c j := by simp [mkPks, List.getD_eq_getElem?_getD, h]
theorem pkTo_zero (c : Nat) (l : List Pk) : pkTo c l 0 = l := by
  apply List.ext_getElem?
  intro j
  by_cases hj : j < l.length
  · simp [pkTo, hj, List.getD_eq_getElem?_getD]
  · simp [pkTo, hj]
theorem pkTo_all (c : Nat) (l : List Pk) : pkTo c l l.length = mkPks c l.length := by
  apply List.ext_getElem?
  intro j
  by_cases hj : j < l.length
  · simp [pkTo, mkPks, hj]
  · simp [pkTo, mkPks, hj]
theorem pkTo_set (c : Nat) (l : List Pk) (k : Nat) (hk : k < l.length) : (pkTo c l k).set k (mkPk c k) = pkTo c l (k + 1) := by
  apply List.ext_getElem?
  intro j
  rw [List.getElem?_set]
  simp only [pkTo_len]
  by_cases e : k = j
  · subst e
    rw [if_pos rfl, if_pos hk]
    simp [pkTo, hk]
  · rw [if_neg e]
    by_cases hj : j < l.length
    · by_cases h1 : j < k
      · simp [pkTo, hj, h1, show j < k + 1 by omega]
      · simp [pkTo, hj, h1, show ¬ j < k + 1 by omega]
    · simp [pkTo, hj]
set_option maxRecDepth 100000 in
set_option maxHeartbeats 2000000 in
theorem markPeakS_any (c : Nat) (hc0 : 0 < c) (hc1 : c ≤ 4194304) (B : Nat) (v : Value) (l : List Pk) (w : World) (h : OwnP B w v l) (hl : l.length ≤ 1048576) :
    Calls Tryd.prog 34 #[v, .int .i64 (c : Int)] w fun e w' => e = .returned (.int .i64 ((c : Int) + 2 * (l.length : Int))) ∧ OwnP B w' v (mkPks c l.length) ∧ Touch (fun k => v.ownBlock = some k) w w' := by
  rcases own_shape h with ⟨rfl, h0⟩ | ⟨g, cap, rfl, hB, hlt0, hn, hm⟩
  · obtain rfl : l = [] := List.eq_nil_of_length_eq_zero h0
    have HO : Hid (OwnP B w (.slice none 0 0) (mkPks c 0)) := hide h
    clear h
    go_enter Tryd.func34, Tryd.ntmps34
    go_wp2_with fail
    go_loop [1, 5] (fun k i => k = .int .i64 (c : Int) ∧ i = .int .i64 0) (fun _ _ => 0)
    case atStart => exact ⟨rfl, rfl⟩
    case round =>
      obtain ⟨rfl, rfl⟩ := hrel
      go_wp2_with fail
      go_ret
      exact ⟨ret_int (by simp), unhide HO, Touch.refl _ _⟩
  · have H : Hid (w.ownsRow B 103 2 (.slice (some ⟨g, 0, none⟩) l.length cap) l.length (pksC (pkTo c l 0))) := hide (by rw [pkTo_zero]; exact h)
    clear h
    go_enter Tryd.func34, Tryd.ntmps34
    go_wp2_with fail
    go_loopw [1, 5] (fun k i wr => ∃ j : Nat, j ≤ l.length ∧ k = .int .i64 ((c : Int) + 2 * (j : Int)) ∧ i = .int .i64 j ∧ wr.ownsRow B 103 2 (.slice (some ⟨g, 0, none⟩) l.length cap) l.length (pksC (pkTo c l j)) ∧ Touch (fun k => (Value.slice (some ⟨g, 0, none⟩) l.length cap).ownBlock = some k) w wr) (fun _ i _ => l.length - (intOf i).toNat)
    case atStart => exact ⟨0, Nat.zero_le _, congrArg (Value.int .i64) (by omega), rfl, unhide H, Touch.refl _ _⟩
    case round =>
      obtain ⟨j, hj, rfl, rfl, hL, hT⟩ := hrel
      by_cases hlt2 : j < l.length
      · have p0 : (0 : Int) ≤ (j : Int) := by omega
        have p1 : (j : Int) < (l.length : Int) := by omega
        have hfl := pksC_len (pkTo c l j)
        have hml := pkTo_len c l j
        obtain ⟨g0, g1⟩ := pksC_get (pkTo c l j) j (by omega)
        have q1 : IntKind.i64.wrap ((c : Int) + 2 * (j : Int) + 1) = (c : Int) + 2 * (j : Int) + 1 := wrapPm _ (by omega) (by omega)
        have q2 : IntKind.i64.wrap ((c : Int) + 2 * (j : Int) + 1 + 1) = (c : Int) + 2 * (j : Int) + 1 + 1 := wrapPm _ (by omega) (by omega)
        have c0 := (hL.cellAt (j * 2) (by omega)).trans g0
        have f0 := hL.frozenAt (j * 2)
        have hL2 := (hL.stored (j * 2) (.int .i64 ((c : Int) + 2 * (j : Int)))).1
        have hT2 := hT.setCell ⟨g, j * 2, none⟩ (.int .i64 ((c : Int) + 2 * (j : Int))) (fun _ => rfl)
        have c2 := (hL2.cellAt (j * 2 + 1) (by omega)).trans ((List.getElem?_set_ne (by omega)).trans g1)
        have HL2 := hide (And.intro hL2 hT2)
        have HC2 := hide c2
        have HSET := hide (pksC_set (pkTo c l j) j (mkPk c j) (by omega))
        have HST := hide (pkTo_set c l j hlt2)
        have HFL := hide (And.intro hfl hml)
        clear hL hT hL2 hT2 c2 hfl hml g0 g1
        go_wp2_with fail
        clear c0 f0
        generalize wr.setCell ⟨g, j * 2, none⟩ (.int .i64 ((c : Int) + 2 * (j : Int))) = w3 at *
        refine (markText_int _ (c + 2 * j + 1) (by omega) w3 (by omega) (by omega)).mono ?_
        rintro e w4 ⟨rfl, hb4⟩
        have hO4 := own_kept (T := fun _ => False) (unhide HL2).1 (Touch.ofBelow hb4) (fun _ _ h => h)
        have hT4 : Touch (fun k => (Value.slice (some ⟨g, 0, none⟩) l.length cap).ownBlock = some k) w w4 := (unhide HL2).2.trans (T' := fun _ => False) (Touch.ofBelow hb4) (fun _ _ h => h.elim)
        have hlt3 : g < w3.heap.size := (World.ownsRow.lt (unhide HL2).1 g rfl).2
        have c2 := (hb4.cell (p := ⟨g, j * 2 + 1, none⟩) hlt3).trans (unhide HC2)
        have f2 := hO4.frozenAt (j * 2 + 1)
        have hO5 := (hO4.stored (j * 2 + 1) (.string (mtx (c + 2 * j + 1)))).1
        have hT5 := hT4.setCell ⟨g, j * 2 + 1, none⟩ (.string (mtx (c + 2 * j + 1))) (fun _ => rfl)
        have hse := unhide HSET
        simp only [mkPk] at hse
        rw [hse] at hO5
        have hst := unhide HST
        simp only [mkPk] at hst
        rw [hst] at hO5
        have R6 := hide (And.intro hO5 hT5)
        clear hb4 hO4 hT4 hO5 hT5 hse hst HL2 HC2 HSET HST HFL
        generalize mtx (c + 2 * j + 1) = x2 at *
        go_wp2_with fail
        refine ⟨⟨j + 1, by omega, ?_, by go_num, (unhide R6).1, (unhide R6).2⟩, ?_⟩
        · exact congrArg (Value.int .i64) (by omega)
        · simp [intOf]; omega
      · obtain rfl : j = l.length := by omega
        have R := hide (And.intro hL hT)
        clear hL hT
        go_wp2_with fail
        go_ret
        refine ⟨rfl, ?_, (unhide R).2⟩
        have := (unhide R).1
        rw [pkTo_all] at this
        unfold OwnP
        rw [mkPks_len]
        exact this
set_option maxRecDepth 100000 in
set_option maxHeartbeats 2000000 in
theorem heldPeakS_any (c : Nat) (hc0 : 0 < c) (hc1 : c ≤ 4194304) (B : Nat) (v : Value) (n : Nat) (w : World) (h : OwnP B w v (mkPks c n)) (hl : n ≤ 1048576) :
    Calls Tryd.prog 35 #[v, .int .i64 (c : Int)] w fun e w' => e = .returned (.int .i64 ((c : Int) + 2 * (n : Int))) ∧ Below w.heap.size w w' := by
  rcases own_shape h with ⟨rfl, h0⟩ | ⟨g, cap, rfl, hB, hlt0, hn, hm⟩
  · rw [mkPks_len] at h0
    subst h0
    clear h
    go_enter Tryd.func35, Tryd.ntmps35
    go_wp2_with fail
    go_loop [1, 5] (fun k i => k = .int .i64 (c : Int) ∧ i = .int .i64 0) (fun _ _ => 0)
    case atStart => exact ⟨rfl, rfl⟩
    case round =>
      obtain ⟨rfl, rfl⟩ := hrel
      go_wp2_with fail
      go_ret
      exact ⟨ret_int (by simp), Below.refl _ _⟩
  · have HC := hide (fun j (hj : j < n) => OwnP.cells h j (by rw [mkPks_len]; exact hj) rfl)
    have hml := mkPks_len c n
    rw [hml]
    clear h hml
    go_enter Tryd.func35, Tryd.ntmps35
    go_wp2_with fail
    go_loopw [1, 5] (fun k i wr => ∃ j : Nat, j ≤ n ∧ k = .int .i64 ((c : Int) + 2 * (j : Int)) ∧ i = .int .i64 j ∧ Below w.heap.size w wr) (fun _ i _ => n - (intOf i).toNat)
    case atStart => exact ⟨0, Nat.zero_le _, congrArg (Value.int .i64) (by omega), rfl, Below.refl _ _⟩
    case round =>
      obtain ⟨j, hj, rfl, rfl, hb⟩ := hrel
      by_cases hlt2 : j < n
      · obtain ⟨d0, d2⟩ := unhide HC j hlt2
        rw [mkPks_get c n j hlt2] at d0 d2
        have c0 := (hb.cell (p := ⟨g, j * 2, none⟩) hlt0).trans d0
        have c2 := (hb.cell (p := ⟨g, j * 2 + 1, none⟩) hlt0).trans d2
        simp only [mkPk] at c0 c2
        have p0 : (0 : Int) ≤ (j : Int) := by omega
        have p1 : (j : Int) < (n : Int) := by omega
        have q1 : IntKind.i64.wrap ((c : Int) + 2 * (j : Int) + 1) = (c : Int) + 2 * (j : Int) + 1 := wrapPm _ (by omega) (by omega)
        have q2 : IntKind.i64.wrap ((c : Int) + 2 * (j : Int) + 1 + 1) = (c : Int) + 2 * (j : Int) + 1 + 1 := wrapPm _ (by omega) (by omega)
        have HB := hide hb
        have hz := hb.size
        clear hb d0 d2
        go_wp2_with fail
        go_region_held3 (fun wx => wx.cell? ⟨g, j * 2 + 1, none⟩ = some (.string (mtx (c + 2 * j + 1)))) (first | go_keep | exact (hb2.cell (p := ⟨g, j * 2 + 1, none⟩) (by simp; omega)).trans (by assumption)) ((go_at_call 55; refine (markText_int _ (c + 2 * j + 1) (by omega) _ (by omega) (by omega)).mono ?_; rintro e w2 ⟨rfl, hb2⟩))
        all_goals
          have HB2 := hide ((unhide HB).trans (show Below w.heap.size wr w2 from (below_drewN (Below.refl _ wr) 1).trans (hb2.mono (by simpa using hz))))
          clear hb2 HB
          go_wp2_with fail
          refine ⟨⟨j + 1, by omega, congrArg (Value.int .i64) (by omega), by go_num, unhide HB2⟩, ?_⟩
          simp [intOf]; omega
      · obtain rfl : j = n := by omega
        have R := hide hb
        clear hb
        go_wp2_with fail
        go_ret
        exact ⟨rfl, unhide R⟩
end Go.Proofs.YthabemlcabmmaaaDoor
