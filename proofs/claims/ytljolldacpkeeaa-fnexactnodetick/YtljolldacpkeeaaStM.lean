/- A state's marks, laid and found again: laws.markEntryS, heldEntryS, markState, heldState. -/
import Derived.Test.YtljolldacpkeeaaHaa
import Derived.Test.YtljolldacpkeeaaStr
namespace Go.Proofs.Ytljolldacpkeeaa
open Go.ChangeShapes Go.WideShapes Go.ChangeAt Go.RowKit
set_option linter.unusedVariables false
set_option linter.unusedSimpArgs false

theorem wrapSm (n : Int) (h0 : 0 ≤ n) (h1 : n < 9223372036854775808) : IntKind.i64.wrap n = n := by
  simp only [IntKind.wrap, IntKind.bits, IntKind.signed]
  simp
  omega
def mkEn (c j : Nat) : En := ⟨(c : Int) + 3 * (j : Int), (c : Int) + 3 * (j : Int) + 1, mtx (c + 3 * j + 2)⟩
/-- The entries, the first k of them marked from c on. -/
def mkTo (c : Nat) (l : List En) (k : Nat) : List En := (List.range l.length).map fun j => if j < k then mkEn c j else l.getD j default
def mkEs (c n : Nat) : List En := (List.range n).map fun j => mkEn c j
theorem mkTo_len (c : Nat) (l : List En) (k : Nat) : (mkTo c l k).length = l.length := by simp [mkTo]
theorem mkEs_len (c n : Nat) : (mkEs c n).length = n := by simp [mkEs]
theorem mkEs_get (c n j : Nat) (h : j < n) : (mkEs c n).getD j default = mkEn c j := by simp [mkEs, List.getD_eq_getElem?_getD, h]
theorem mkTo_zero (c : Nat) (l : List En) : mkTo c l 0 = l := by
  apply List.ext_getElem?
  intro j
  by_cases hj : j < l.length
  · simp [mkTo, hj, List.getD_eq_getElem?_getD]
  · simp [mkTo, hj]
theorem mkTo_all (c : Nat) (l : List En) : mkTo c l l.length = mkEs c l.length := by
  apply List.ext_getElem?
  intro j
  by_cases hj : j < l.length
  · simp [mkTo, mkEs, hj]
  · simp [mkTo, mkEs, hj]
theorem mkTo_set (c : Nat) (l : List En) (k : Nat) (hk : k < l.length) : (mkTo c l k).set k (mkEn c k) = mkTo c l (k + 1) := by
  apply List.ext_getElem?
  intro j
  rw [List.getElem?_set]
  simp only [mkTo_len]
  by_cases e : k = j
  · subst e
    rw [if_pos rfl, if_pos hk]
    simp [mkTo, hk]
  · rw [if_neg e]
    by_cases hj : j < l.length
    · by_cases h1 : j < k
      · simp [mkTo, hj, h1, show j < k + 1 by omega]
      · simp [mkTo, hj, h1, show ¬ j < k + 1 by omega]
    · simp [mkTo, hj]
set_option maxRecDepth 100000 in
set_option maxHeartbeats 2000000 in
theorem markEntryS_any (c : Nat) (hc0 : 0 < c) (hc1 : c ≤ 4194304) (B : Nat) (v : Value) (l : List En) (w : World) (h : OwnE B w v l) (hl : l.length ≤ 1048576) :
    Calls Try.prog 33 #[v, .int .i64 (c : Int)] w fun e w' => e = .returned (.int .i64 ((c : Int) + 3 * (l.length : Int))) ∧ OwnE B w' v (mkEs c l.length) ∧ Touch (fun k => v.ownBlock = some k) w w' := by
  rcases own_shape h with ⟨rfl, h0⟩ | ⟨g, cap, rfl, hB, hlt0, hn, hm⟩
  · obtain rfl : l = [] := List.eq_nil_of_length_eq_zero h0
    have HO : Hid (OwnE B w (.slice none 0 0) (mkEs c 0)) := hide h
    clear h
    go_enter Try.func33, Try.ntmps33
    go_wp2_with fail
    go_loop [1, 5] (fun k i => k = .int .i64 (c : Int) ∧ i = .int .i64 0) (fun _ _ => 0)
    case atStart => exact ⟨rfl, rfl⟩
    case round =>
      obtain ⟨rfl, rfl⟩ := hrel
      go_wp2_with fail
      go_ret
      exact ⟨ret_int (by simp), unhide HO, Touch.refl _ _⟩
  · have H : Hid (w.ownsRow B 63 3 (.slice (some ⟨g, 0, none⟩) l.length cap) l.length (ensC (mkTo c l 0))) := hide (by rw [mkTo_zero]; exact h)
    clear h
    go_enter Try.func33, Try.ntmps33
    go_wp2_with fail
    go_loopw [1, 5] (fun k i wr => ∃ j : Nat, j ≤ l.length ∧ k = .int .i64 ((c : Int) + 3 * (j : Int)) ∧ i = .int .i64 j ∧ wr.ownsRow B 63 3 (.slice (some ⟨g, 0, none⟩) l.length cap) l.length (ensC (mkTo c l j)) ∧ Touch (fun k => (Value.slice (some ⟨g, 0, none⟩) l.length cap).ownBlock = some k) w wr) (fun _ i _ => l.length - (intOf i).toNat)
    case atStart => exact ⟨0, Nat.zero_le _, congrArg (Value.int .i64) (by omega), rfl, unhide H, Touch.refl _ _⟩
    case round =>
      obtain ⟨j, hj, rfl, rfl, hL, hT⟩ := hrel
      by_cases hlt2 : j < l.length
      · have p0 : (0 : Int) ≤ (j : Int) := by omega
        have p1 : (j : Int) < (l.length : Int) := by omega
        have hfl := ensC_len (mkTo c l j)
        have hml := mkTo_len c l j
        obtain ⟨g0, g1, g2⟩ := ensC_get (mkTo c l j) j (by omega)
        have q1 : IntKind.i64.wrap ((c : Int) + 3 * (j : Int) + 1) = (c : Int) + 3 * (j : Int) + 1 := wrapSm _ (by omega) (by omega)
        have q2 : IntKind.i64.wrap ((c : Int) + 3 * (j : Int) + 1 + 1) = (c : Int) + 3 * (j : Int) + 1 + 1 := wrapSm _ (by omega) (by omega)
        have q3 : IntKind.i64.wrap ((c : Int) + 3 * (j : Int) + 1 + 1 + 1) = (c : Int) + 3 * (j : Int) + 1 + 1 + 1 := wrapSm _ (by omega) (by omega)
        have c0 := (hL.cellAt (j * 3) (by omega)).trans g0
        have c1 := (hL.cellAt (j * 3 + 1) (by omega)).trans g1
        have f0 := hL.frozenAt (j * 3)
        have f1 := hL.frozenAt (j * 3 + 1)
        have hL1 := (hL.stored (j * 3) (.int .i64 ((c : Int) + 3 * (j : Int)))).1
        have hL2 := (hL1.stored (j * 3 + 1) (.int .i64 ((c : Int) + 3 * (j : Int) + 1))).1
        have hT2 := (hT.setCell ⟨g, j * 3, none⟩ (.int .i64 ((c : Int) + 3 * (j : Int))) (fun _ => rfl)).setCell ⟨g, j * 3 + 1, none⟩ (.int .i64 ((c : Int) + 3 * (j : Int) + 1)) (fun _ => rfl)
        have c2 := (hL2.cellAt (j * 3 + 2) (by omega)).trans ((List.getElem?_set_ne (by omega)).trans ((List.getElem?_set_ne (by omega)).trans g2))
        have HL2 := hide (And.intro hL2 hT2)
        have HC2 := hide c2
        have HSET := hide (ensC_set (mkTo c l j) j (mkEn c j) (by omega))
        have HST := hide (mkTo_set c l j hlt2)
        have HFL := hide (And.intro hfl hml)
        clear hL hT hL1 hL2 hT2 c2 hfl hml g0 g1 g2
        go_wp2_with fail
        clear c0 c1 f0 f1
        generalize (wr.setCell ⟨g, j * 3, none⟩ (.int .i64 ((c : Int) + 3 * (j : Int)))).setCell ⟨g, j * 3 + 1, none⟩ (.int .i64 ((c : Int) + 3 * (j : Int) + 1)) = w3 at *
        refine (markText_int _ (c + 3 * j + 2) (by omega) w3 (by omega) (by omega)).mono ?_
        rintro e w4 ⟨rfl, hb4⟩
        have hO4 := own_kept (T := fun _ => False) (unhide HL2).1 (Touch.ofBelow hb4) (fun _ _ h => h)
        have hT4 : Touch (fun k => (Value.slice (some ⟨g, 0, none⟩) l.length cap).ownBlock = some k) w w4 := (unhide HL2).2.trans (T' := fun _ => False) (Touch.ofBelow hb4) (fun _ _ h => h.elim)
        have hlt3 : g < w3.heap.size := (World.ownsRow.lt (unhide HL2).1 g rfl).2
        have c2 := (hb4.cell (p := ⟨g, j * 3 + 2, none⟩) hlt3).trans (unhide HC2)
        have f2 := hO4.frozenAt (j * 3 + 2)
        have hO5 := (hO4.stored (j * 3 + 2) (.string (mtx (c + 3 * j + 2)))).1
        have hT5 := hT4.setCell ⟨g, j * 3 + 2, none⟩ (.string (mtx (c + 3 * j + 2))) (fun _ => rfl)
        have hse := unhide HSET
        simp only [mkEn] at hse
        rw [hse] at hO5
        have hst := unhide HST
        simp only [mkEn] at hst
        rw [hst] at hO5
        have R6 := hide (And.intro hO5 hT5)
        clear hb4 hO4 hT4 hO5 hT5 hse hst HL2 HC2 HSET HST HFL
        generalize mtx (c + 3 * j + 2) = x2 at *
        go_wp2_with fail
        refine ⟨⟨j + 1, by omega, ?_, by go_num, (unhide R6).1, (unhide R6).2⟩, ?_⟩
        · exact congrArg (Value.int .i64) (by omega)
        · simp [intOf]; omega
      · obtain rfl : j = l.length := by omega
        have R := hide (And.intro hL hT)
        clear hL hT
        go_wp2_with fail
        go_ret
        refine ⟨rfl, ?_, (unhide R).2⟩
        have := (unhide R).1
        rw [mkTo_all] at this
        unfold OwnE
        rw [mkEs_len]
        exact this
set_option maxRecDepth 100000 in
set_option maxHeartbeats 2000000 in
theorem heldEntryS_any (c : Nat) (hc0 : 0 < c) (hc1 : c ≤ 4194304) (B : Nat) (v : Value) (n : Nat) (w : World) (h : OwnE B w v (mkEs c n)) (hl : n ≤ 1048576) :
    Calls Try.prog 35 #[v, .int .i64 (c : Int)] w fun e w' => e = .returned (.int .i64 ((c : Int) + 3 * (n : Int))) ∧ Below w.heap.size w w' := by
  rcases own_shape h with ⟨rfl, h0⟩ | ⟨g, cap, rfl, hB, hlt0, hn, hm⟩
  · rw [mkEs_len] at h0
    subst h0
    clear h
    go_enter Try.func35, Try.ntmps35
    go_wp2_with fail
    go_loop [1, 5] (fun k i => k = .int .i64 (c : Int) ∧ i = .int .i64 0) (fun _ _ => 0)
    case atStart => exact ⟨rfl, rfl⟩
    case round =>
      obtain ⟨rfl, rfl⟩ := hrel
      go_wp2_with fail
      go_ret
      exact ⟨ret_int (by simp), Below.refl _ _⟩
  · have HC := hide (fun j (hj : j < n) => OwnE.cells h j (by rw [mkEs_len]; exact hj) rfl)
    have hml := mkEs_len c n
    rw [hml]
    clear h hml
    go_enter Try.func35, Try.ntmps35
    go_wp2_with fail
    go_loopw [1, 5] (fun k i wr => ∃ j : Nat, j ≤ n ∧ k = .int .i64 ((c : Int) + 3 * (j : Int)) ∧ i = .int .i64 j ∧ Below w.heap.size w wr) (fun _ i _ => n - (intOf i).toNat)
    case atStart => exact ⟨0, Nat.zero_le _, congrArg (Value.int .i64) (by omega), rfl, Below.refl _ _⟩
    case round =>
      obtain ⟨j, hj, rfl, rfl, hb⟩ := hrel
      by_cases hlt2 : j < n
      · obtain ⟨d0, d1, d2⟩ := unhide HC j hlt2
        rw [mkEs_get c n j hlt2] at d0 d1 d2
        have c0 := (hb.cell (p := ⟨g, j * 3, none⟩) hlt0).trans d0
        have c1 := (hb.cell (p := ⟨g, j * 3 + 1, none⟩) hlt0).trans d1
        have c2 := (hb.cell (p := ⟨g, j * 3 + 2, none⟩) hlt0).trans d2
        simp only [mkEn] at c0 c1 c2
        have p0 : (0 : Int) ≤ (j : Int) := by omega
        have p1 : (j : Int) < (n : Int) := by omega
        have q1 : IntKind.i64.wrap ((c : Int) + 3 * (j : Int) + 1) = (c : Int) + 3 * (j : Int) + 1 := wrapSm _ (by omega) (by omega)
        have q2 : IntKind.i64.wrap ((c : Int) + 3 * (j : Int) + 1 + 1) = (c : Int) + 3 * (j : Int) + 1 + 1 := wrapSm _ (by omega) (by omega)
        have q3 : IntKind.i64.wrap ((c : Int) + 3 * (j : Int) + 1 + 1 + 1) = (c : Int) + 3 * (j : Int) + 1 + 1 + 1 := wrapSm _ (by omega) (by omega)
        have HB := hide hb
        have hz := hb.size
        clear hb d0 d1 d2
        go_wp2_with fail
        go_region_held3 (fun wx => wx.cell? ⟨g, j * 3 + 2, none⟩ = some (.string (mtx (c + 3 * j + 2)))) (first | go_keep | exact (hb2.cell (p := ⟨g, j * 3 + 2, none⟩) (by simp; omega)).trans (by assumption)) ((go_at_call 58; refine (markText_int _ (c + 3 * j + 2) (by omega) _ (by omega) (by omega)).mono ?_; rintro e w2 ⟨rfl, hb2⟩))
        all_goals
          have HB2 := hide ((unhide HB).trans (show Below w.heap.size wr w2 from (below_drewN (Below.refl _ wr) 1).trans (hb2.mono (by simpa using hz))))
          clear hb2 HB
          go_wp2_with fail
          refine ⟨⟨j + 1, by omega, congrArg (Value.int .i64) (by omega), by go_num, unhide HB2⟩, ?_⟩
          simp [intOf]; omega
      · obtain rfl : j = n := by omega
        have R := hide hb
        clear hb
        go_wp2_with fail
        go_ret
        exact ⟨rfl, unhide R⟩
end Go.Proofs.Ytljolldacpkeeaa
