/- Lists of acts: marks, held. (Written by py/slm.py.) -/
import Derived.Test.YtdlligninjfajaaOpl
namespace Go.Proofs.Ytdlligninjfajaa
open Go.ChangeShapes Go.WideShapes Go.ChangeAt Go.RowKit
set_option linter.unusedVariables false
set_option linter.unusedSimpArgs false

def mbo (n : Int) : Bool := n % 3 == 0
def omk (c j : Nat) : Op := ⟨(c : Int) + 4 * (j : Int), (c : Int) + 4 * (j : Int) + 1, mbo ((c : Int) + 4 * (j : Int) + 1 + 1), mtx (c + 4 * j + 3)⟩
def omkTo (c : Nat) (l : List Op) (k : Nat) : List Op := (List.range l.length).map fun j => if j < k then omk c j else l.getD j default
def omks (c n : Nat) : List Op := (List.range n).map fun j => omk c j
theorem omkTo_len (c : Nat) (l : List Op) (k : Nat) : (omkTo c l k).length = l.length := by simp [omkTo]
theorem omks_len (c n : Nat) : (omks c n).length = n := by simp [omks]
theorem omks_get (c n j : Nat) (h : j < n) : (omks c n).getD j default = omk c j := by simp [omks, List.getD_eq_getElem?_getD, h]
theorem omkTo_zero (c : Nat) (l : List Op) : omkTo c l 0 = l := by
  apply List.ext_getElem?
  intro j
  by_cases hj : j < l.length
  · simp [omkTo, hj, List.getD_eq_getElem?_getD]
  · simp [omkTo, hj]
theorem omkTo_all (c : Nat) (l : List Op) : omkTo c l l.length = omks c l.length := by
  apply List.ext_getElem?
  intro j
  by_cases hj : j < l.length
  · simp [omkTo, omks, hj]
  · simp [omkTo, omks, hj]
theorem omkTo_set (c : Nat) (l : List Op) (k : Nat) (hk : k < l.length) : (omkTo c l k).set k (omk c k) = omkTo c l (k + 1) := by
  apply List.ext_getElem?
  intro j
  rw [List.getElem?_set]
  simp only [omkTo_len]
  by_cases e : k = j
  · subst e
    rw [if_pos rfl, if_pos hk]
    simp [omkTo, hk]
  · rw [if_neg e]
    by_cases hj : j < l.length
    · by_cases h1 : j < k
      · simp [omkTo, hj, h1, show j < k + 1 by omega]
      · simp [omkTo, hj, h1, show ¬ j < k + 1 by omega]
    · simp [omkTo, hj]
set_option maxRecDepth 100000 in
set_option maxHeartbeats 4000000 in
theorem markOpS_any (c : Nat) (hc0 : 0 < c) (hc1 : c ≤ 4194304) (B : Nat) (v : Value) (l : List Op) (w : World) (h : OwnOp B w v l) (hl : l.length ≤ 1048576) :
    Calls Try.prog 16 #[v, .int .i64 (c : Int)] w fun e w' => e = .returned (.int .i64 ((c : Int) + 4 * (l.length : Int))) ∧ OwnOp B w' v (omks c l.length) ∧ Touch (fun k => v.ownBlock = some k) w w' := by
  rcases own_shape h with ⟨rfl, h0⟩ | ⟨g, cap, rfl, hB, hlt0, hn, hm⟩
  · obtain rfl : l = [] := List.eq_nil_of_length_eq_zero h0
    have HO : Hid (OwnOp B w (.slice none 0 0) (omks c 0)) := hide h
    clear h
    go_enter Try.func16, Try.ntmps16
    go_wp2_with fail
    go_loop [1, 5] (fun k i => k = .int .i64 (c : Int) ∧ i = .int .i64 0) (fun _ _ => 0)
    case atStart => exact ⟨rfl, rfl⟩
    case round =>
      obtain ⟨rfl, rfl⟩ := hrel
      go_wp2_with fail
      go_ret
      exact ⟨ret_int (by simp), unhide HO, Touch.refl _ _⟩
  · have H : Hid (w.ownsRow B 50 4 (.slice (some ⟨g, 0, none⟩) l.length cap) l.length (opsC (omkTo c l 0))) := hide (by rw [omkTo_zero]; exact h)
    clear h
    go_enter Try.func16, Try.ntmps16
    go_wp2_with fail
    go_loopw [1, 5] (fun k i wr => ∃ j : Nat, j ≤ l.length ∧ k = .int .i64 ((c : Int) + 4 * (j : Int)) ∧ i = .int .i64 j ∧ wr.ownsRow B 50 4 (.slice (some ⟨g, 0, none⟩) l.length cap) l.length (opsC (omkTo c l j)) ∧ Touch (fun k => (Value.slice (some ⟨g, 0, none⟩) l.length cap).ownBlock = some k) w wr) (fun _ i _ => l.length - (intOf i).toNat)
    case atStart => exact ⟨0, Nat.zero_le _, congrArg (Value.int .i64) (by omega), rfl, unhide H, Touch.refl _ _⟩
    case round =>
      obtain ⟨j, hj, rfl, rfl, hL, hT⟩ := hrel
      by_cases hlt2 : j < l.length
      · have p0 : (0 : Int) ≤ (j : Int) := by omega
        have p1 : (j : Int) < (l.length : Int) := by omega
        have hfl := opsC_len (omkTo c l j)
        have hml := omkTo_len c l j
        obtain ⟨g0, g1, g2, g3⟩ := opsC_get (omkTo c l j) j (by omega)
        have q1 : IntKind.i64.wrap ((c : Int) + 4 * (j : Int) + 1) = (c : Int) + 4 * (j : Int) + 1 := wrapOp _ (by omega) (by omega)
        have q2 : IntKind.i64.wrap ((c : Int) + 4 * (j : Int) + 1 + 1) = (c : Int) + 4 * (j : Int) + 1 + 1 := wrapOp _ (by omega) (by omega)
        have q3 : IntKind.i64.wrap ((c : Int) + 4 * (j : Int) + 1 + 1 + 1) = (c : Int) + 4 * (j : Int) + 1 + 1 + 1 := wrapOp _ (by omega) (by omega)
        have q4 : IntKind.i64.wrap ((c : Int) + 4 * (j : Int) + 1 + 1 + 1 + 1) = (c : Int) + 4 * (j : Int) + 1 + 1 + 1 + 1 := wrapOp _ (by omega) (by omega)
        have c0 := (hL.cellAt (j * 4) (by omega)).trans g0
        have f0 := hL.frozenAt (j * 4)
        have c1 := (hL.cellAt (j * 4 + 1) (by omega)).trans g1
        have f1 := hL.frozenAt (j * 4 + 1)
        have c2 := (hL.cellAt (j * 4 + 2) (by omega)).trans g2
        have f2 := hL.frozenAt (j * 4 + 2)
        have hL1 := (hL.stored (j * 4) (.int .i64 ((c : Int) + 4 * (j : Int)))).1
        have hT1 := hT.setCell ⟨g, j * 4, none⟩ (.int .i64 ((c : Int) + 4 * (j : Int))) (fun _ => rfl)
        have hL2 := (hL1.stored (j * 4 + 1) (.int .i64 ((c : Int) + 4 * (j : Int) + 1))).1
        have hT2 := hT1.setCell ⟨g, j * 4 + 1, none⟩ (.int .i64 ((c : Int) + 4 * (j : Int) + 1)) (fun _ => rfl)
        have hL3 := (hL2.stored (j * 4 + 2) (.bool (mbo ((c : Int) + 4 * (j : Int) + 1 + 1)))).1
        have hT3 := hT2.setCell ⟨g, j * 4 + 2, none⟩ (.bool (mbo ((c : Int) + 4 * (j : Int) + 1 + 1))) (fun _ => rfl)
        have c3 := (hL3.cellAt (j * 4 + 3) (by omega)).trans ((List.getElem?_set_ne (by omega)).trans ((List.getElem?_set_ne (by omega)).trans ((List.getElem?_set_ne (by omega)).trans g3)))
        have HLL := hide (And.intro hL3 hT3)
        have HCC : Hid ((((wr.setCell ⟨g, j * 4, none⟩ (.int .i64 ((c : Int) + 4 * (j : Int)))).setCell ⟨g, j * 4 + 1, none⟩ (.int .i64 ((c : Int) + 4 * (j : Int) + 1))).setCell ⟨g, j * 4 + 2, none⟩ (.bool (mbo ((c : Int) + 4 * (j : Int) + 1 + 1)))).cell? ⟨g, j * 4 + 3, none⟩ = some (.string ((omkTo c l j).getD j default).va)) := hide c3
        have hset := opsC_set (omkTo c l j) j (omk c j) (by omega)
        rw [omkTo_set c l j hlt2] at hset
        simp only [omk] at hset
        have HSET := hide hset
        clear hset
        have HFL := hide (And.intro hfl hml)
        clear hL hT hL1 hT1 hL2 hT2 hL3 hT3 c3 hfl hml g0 g1 g2 g3
        generalize hdf : (omkTo c l j).getD j default = df at *
        clear hdf
        have m2 : (((c : Int) + 4 * (j : Int) + 1 + 1) % 3 == 0) = mbo ((c : Int) + 4 * (j : Int) + 1 + 1) := rfl
        generalize mbo ((c : Int) + 4 * (j : Int) + 1 + 1) = z2 at *
        go_wp2_with fail
        clear c0 f0 c1 f1 c2 f2
        generalize (((wr.setCell ⟨g, j * 4, none⟩ (.int .i64 ((c : Int) + 4 * (j : Int)))).setCell ⟨g, j * 4 + 1, none⟩ (.int .i64 ((c : Int) + 4 * (j : Int) + 1))).setCell ⟨g, j * 4 + 2, none⟩ (.bool z2)) = u0 at *
        refine (markText_int _ (c + 4 * j + 3) (by omega) u0 (by omega) (by omega)).mono ?_
        rintro e u1 ⟨rfl, hb0⟩
        have hO0 := own_kept (T := fun _ => False) (unhide HLL).1 (Touch.ofBelow hb0) (fun _ _ h => h)
        have hS0 : Touch (fun k => (Value.slice (some ⟨g, 0, none⟩) l.length cap).ownBlock = some k) w u1 := (unhide HLL).2.trans (T' := fun _ => False) (Touch.ofBelow hb0) (fun _ _ h => h.elim)
        have hg0 : g < u0.heap.size := (World.ownsRow.lt (unhide HLL).1 g rfl).2
        have c3 := (hb0.cell (p := ⟨g, j * 4 + 3, none⟩) hg0).trans (unhide HCC)
        have f3 := hO0.frozenAt (j * 4 + 3)
        have hQ0 := (hO0.stored (j * 4 + 3) (.string (mtx (c + 4 * j + 3)))).1
        have hR0 := hS0.setCell ⟨g, j * 4 + 3, none⟩ (.string (mtx (c + 4 * j + 3))) (fun _ => rfl)
        rw [unhide HSET] at hQ0
        have R6 := hide (And.intro hQ0 hR0)
        clear hb0 hO0 hS0 hQ0 hR0 HLL HCC HSET HFL hg0
        generalize mtx (c + 4 * j + 3) = x3 at *
        go_wp2_with fail
        refine ⟨⟨j + 1, by omega, ?_, by go_num, (unhide R6).1, (unhide R6).2⟩, ?_⟩
        · exact congrArg (Value.int .i64) (by omega)
        · simp [intOf]; omega
      · obtain rfl : j = l.length := by omega
        have R := hide (And.intro hL hT)
        clear hL hT
        go_wp2_with fail
        go_ret
        refine ⟨rfl, ?_, (unhide R).2⟩
        have := (unhide R).1
        rw [omkTo_all] at this
        unfold OwnOp
        rw [omks_len]
        exact this
set_option maxRecDepth 100000 in
set_option maxHeartbeats 4000000 in
theorem heldOpS_any (c : Nat) (hc0 : 0 < c) (hc1 : c ≤ 4194304) (B : Nat) (v : Value) (n : Nat) (w : World) (h : OwnOp B w v (omks c n)) (hl : n ≤ 1048576) :
    Calls Try.prog 29 #[v, .int .i64 (c : Int)] w fun e w' => e = .returned (.int .i64 ((c : Int) + 4 * (n : Int))) ∧ Below w.heap.size w w' := by
  rcases own_shape h with ⟨rfl, h0⟩ | ⟨g, cap, rfl, hB, hlt0, hn, hm⟩
  · rw [omks_len] at h0
    subst h0
    clear h
    go_enter Try.func29, Try.ntmps29
    go_wp2_with fail
    go_loop [1, 5] (fun k i => k = .int .i64 (c : Int) ∧ i = .int .i64 0) (fun _ _ => 0)
    case atStart => exact ⟨rfl, rfl⟩
    case round =>
      obtain ⟨rfl, rfl⟩ := hrel
      go_wp2_with fail
      go_ret
      exact ⟨ret_int (by simp), Below.refl _ _⟩
  · have HC := hide (fun j (hj : j < n) => OwnOp.cells h j (by rw [omks_len]; exact hj) rfl)
    have hml := omks_len c n
    rw [hml]
    clear h hml
    go_enter Try.func29, Try.ntmps29
    go_wp2_with fail
    go_loopw [1, 5] (fun k i wr => ∃ j : Nat, j ≤ n ∧ k = .int .i64 ((c : Int) + 4 * (j : Int)) ∧ i = .int .i64 j ∧ Below w.heap.size w wr) (fun _ i _ => n - (intOf i).toNat)
    case atStart => exact ⟨0, Nat.zero_le _, congrArg (Value.int .i64) (by omega), rfl, Below.refl _ _⟩
    case round =>
      obtain ⟨j, hj, rfl, rfl, hb⟩ := hrel
      by_cases hlt2 : j < n
      · obtain ⟨d0, d1, d2, d3⟩ := unhide HC j hlt2
        rw [omks_get c n j hlt2] at d0 d1 d2 d3
        simp only [omk] at d0 d1 d2 d3
        have HDD : Hid (w.cell? ⟨g, j * 4 + 3, none⟩ = some (.string (mtx (c + 4 * j + 3)))) := hide d3
        have c0 := (hb.cell (p := ⟨g, j * 4, none⟩) hlt0).trans d0
        have c1 := (hb.cell (p := ⟨g, j * 4 + 1, none⟩) hlt0).trans d1
        have c2 := (hb.cell (p := ⟨g, j * 4 + 2, none⟩) hlt0).trans d2
        have c3 := (hb.cell (p := ⟨g, j * 4 + 3, none⟩) hlt0).trans d3
        have p0 : (0 : Int) ≤ (j : Int) := by omega
        have p1 : (j : Int) < (n : Int) := by omega
        have q1 : IntKind.i64.wrap ((c : Int) + 4 * (j : Int) + 1) = (c : Int) + 4 * (j : Int) + 1 := wrapOp _ (by omega) (by omega)
        have q2 : IntKind.i64.wrap ((c : Int) + 4 * (j : Int) + 1 + 1) = (c : Int) + 4 * (j : Int) + 1 + 1 := wrapOp _ (by omega) (by omega)
        have q3 : IntKind.i64.wrap ((c : Int) + 4 * (j : Int) + 1 + 1 + 1) = (c : Int) + 4 * (j : Int) + 1 + 1 + 1 := wrapOp _ (by omega) (by omega)
        have q4 : IntKind.i64.wrap ((c : Int) + 4 * (j : Int) + 1 + 1 + 1 + 1) = (c : Int) + 4 * (j : Int) + 1 + 1 + 1 + 1 := wrapOp _ (by omega) (by omega)
        have HB := hide hb
        have hz := hb.size
        clear hb d0 d1 d2 d3
        have m2 : (((c : Int) + 4 * (j : Int) + 1 + 1) % 3 == 0) = mbo ((c : Int) + 4 * (j : Int) + 1 + 1) := rfl
        generalize mbo ((c : Int) + 4 * (j : Int) + 1 + 1) = z2 at *
        have mm2 : (z2 != z2) = false := by simp
        go_wp2_with fail
        go_region_held3 (fun wx => wx.cell? ⟨g, j * 4 + 3, none⟩ = some (.string (mtx (c + 4 * j + 3)))) (first | go_keep | exact (hb0.cell (p := ⟨g, j * 4 + 3, none⟩) (by simp; omega)).trans (by assumption)) ((go_at_call 41; refine (markText_int _ (c + 4 * j + 3) (by omega) _ (by omega) (by omega)).mono ?_; rintro e v0 ⟨rfl, hb0⟩))
        all_goals
          have HBN := hide ((unhide HB).trans (show Below w.heap.size wr v0 from (below_drewN (Below.refl _ wr) 1).trans (hb0.mono (by simpa using hz))))
          clear hb0 HB hz
          have HB := HBN
          clear HBN
          have hz := (unhide HB).size
          go_wp2_with fail
          refine ⟨⟨j + 1, by omega, congrArg (Value.int .i64) (by omega), by go_num, unhide HB⟩, ?_⟩
          simp [intOf]; omega
      · obtain rfl : j = n := by omega
        have R := hide hb
        clear hb
        go_wp2_with fail
        go_ret
        exact ⟨rfl, unhide R⟩
end Go.Proofs.Ytdlligninjfajaa
