/- A disk's marks laid: laws.markFileS, laws.markDisk. A disk's marks, known; and held. (Written by py/mkf.py out of MkD.) -/
import Derived.Test.YtfihhkhdigbmiaaGreatDoorFilL
import Derived.Test.YtfihhkhdigbmiaaGreatDoorStr
import Derived.Deep.RegionHeld3
namespace Go.Proofs.YtfihhkhdigbmiaaGreatDoor
open Go.ChangeShapes Go.WideShapes Go.ChangeAt Go.RowKit
set_option linter.unusedVariables false
set_option linter.unusedSimpArgs false

theorem wrapMk (n : Int) (h0 : 0 ≤ n) (h1 : n < 9223372036854775808) : IntKind.i64.wrap n = n := by
  simp only [IntKind.wrap, IntKind.bits, IntKind.signed]
  simp
  omega
set_option maxRecDepth 100000 in
set_option maxHeartbeats 2000000 in
theorem markFileS_any (B g cap : Nat) (l : List Fl) (w : World) (h : w.ownsRow B 68 3 (.slice (some ⟨g, 0, none⟩) l.length cap) l.length (flsC l)) (hl : l.length ≤ 1048576) :
    Calls Tryz.prog 24 #[.slice (some ⟨g, 0, none⟩) l.length cap, .int .i64 1] w fun e w' => e = .returned (.int .i64 (1 + 3 * (l.length : Int))) ∧ Touch (fun k => k = g) w w' := by
  have H := hide h
  clear h
  go_enter Tryz.func24, Tryz.ntmps24
  go_wp2_with fail
  go_loopw [1, 5] (fun k i wr => ∃ (j : Nat) (m : List Fl), j ≤ l.length ∧ m.length = l.length ∧ k = .int .i64 (1 + 3 * (j : Int)) ∧ i = .int .i64 j ∧ wr.ownsRow B 68 3 (.slice (some ⟨g, 0, none⟩) l.length cap) l.length (flsC m) ∧ Touch (fun k => k = g) w wr) (fun _ i _ => l.length - (intOf i).toNat)
  case atStart => exact ⟨0, l, Nat.zero_le _, rfl, rfl, rfl, unhide H, Touch.refl _ _⟩
  case round =>
    obtain ⟨j, m, hj, hm, rfl, rfl, hL, hT⟩ := hrel
    by_cases hlt2 : j < l.length
    · have p0 : (0 : Int) ≤ (j : Int) := by omega
      have p1 : (j : Int) < (l.length : Int) := by omega
      have hfl := flsC_len m
      have HM := hide (And.intro hm hfl)
      have HL := hide (And.intro hL hT)
      have q1 : IntKind.i64.wrap (1 + 3 * (j : Int) + 1) = 1 + 3 * (j : Int) + 1 := wrapMk _ (by omega) (by omega)
      have q2 : IntKind.i64.wrap (1 + 3 * (j : Int) + 1 + 1) = 1 + 3 * (j : Int) + 1 + 1 := wrapMk _ (by omega) (by omega)
      have q3 : IntKind.i64.wrap (1 + 3 * (j : Int) + 1 + 1 + 1) = 1 + 3 * (j : Int) + 1 + 1 + 1 := wrapMk _ (by omega) (by omega)
      clear hL hT hfl hm
      go_wp2_with fail
      refine (markText_int _ (1 + 3 * j) (by omega) wr (by omega) (by omega)).mono ?_
      rintro e w2 ⟨rfl, hb2⟩
      have hO := own_kept (T := fun _ => False) (unhide HL).1 (Touch.ofBelow hb2) (fun _ _ h => h)
      have hT2 : Touch (fun k => k = g) w w2 := (unhide HL).2.trans (T' := fun _ => False) (Touch.ofBelow hb2) (fun _ _ h => h.elim)
      have hjm : j < m.length := by rw [(unhide HM).1]; exact hlt2
      have c0 := (hO.cellAt (j * 3) (by omega)).trans (flsC_get m j hjm).1
      have f0 := hO.frozenAt (j * 3)
      have HG := hide (flsC_get m j hjm)
      have R2 := hide (And.intro (hO.stored (j * 3) (.string (mtx (1 + 3 * j)))).1 (hT2.setCell ⟨g, j * 3, none⟩ (.string (mtx (1 + 3 * j))) (fun _ => rfl)))
      clear hb2 hO hT2 HL
      generalize mtx (1 + 3 * j) = x1 at *
      go_wp2_with fail
      clear c0 f0
      generalize w2.setCell ⟨g, j * 3, none⟩ (.string x1) = w3 at *
      refine (markText_int _ (1 + 3 * j + 1) (by omega) w3 (by omega) (by omega)).mono ?_
      rintro e w4 ⟨rfl, hb4⟩
      have hO4 := own_kept (T := fun _ => False) (unhide R2).1 (Touch.ofBelow hb4) (fun _ _ h => h)
      have hT4 : Touch (fun k => k = g) w w4 := (unhide R2).2.trans (T' := fun _ => False) (Touch.ofBelow hb4) (fun _ _ h => h.elim)
      have c1 := (hO4.cellAt (j * 3 + 1) (by omega)).trans ((List.getElem?_set_ne (by omega)).trans (unhide HG).2.1)
      have f1 := hO4.frozenAt (j * 3 + 1)
      have c2 := (hO4.cellAt (j * 3 + 2) (by omega)).trans ((List.getElem?_set_ne (by omega)).trans (unhide HG).2.2)
      have f2 := hO4.frozenAt (j * 3 + 2)
      have hO5 := (hO4.stored (j * 3 + 1) (.string (mtx (1 + 3 * j + 1)))).1
      have hO6 := (hO5.stored (j * 3 + 2) (.int .i64 (1 + 3 * (j : Int) + 1 + 1))).1
      have hT6 := (hT4.setCell ⟨g, j * 3 + 1, none⟩ (.string (mtx (1 + 3 * j + 1))) (fun _ => rfl)).setCell ⟨g, j * 3 + 2, none⟩ (.int .i64 (1 + 3 * (j : Int) + 1 + 1)) (fun _ => rfl)
      have hset := flsC_set m j ⟨x1, mtx (1 + 3 * j + 1), 1 + 3 * (j : Int) + 1 + 1⟩ hjm
      dsimp only at hset
      rw [hset] at hO6
      have R6 := hide (And.intro hO6 hT6)
      have HML := hide (show (m.set j ⟨x1, mtx (1 + 3 * j + 1), 1 + 3 * (j : Int) + 1 + 1⟩).length = l.length by rw [List.length_set]; exact (unhide HM).1)
      clear hb4 hO4 hT4 hO5 hO6 hT6 hset R2 HG HM
      generalize mtx (1 + 3 * j + 1) = x2 at *
      go_wp2_with fail
      refine ⟨⟨j + 1, _, by omega, unhide HML, ?_, by go_num, (unhide R6).1, (unhide R6).2⟩, ?_⟩
      · have e : (1 : Int) + 3 * (j : Int) + 1 + 1 + 1 = 1 + 3 * ((j + 1 : Nat) : Int) := by omega
        rw [← e]
      · simp [intOf]; omega
    · obtain rfl : j = l.length := by omega
      have R := hide hT
      clear hL hT
      go_wp2_with fail
      go_ret
      exact ⟨rfl, unhide R⟩
set_option maxRecDepth 100000 in
set_option maxHeartbeats 1000000 in
theorem markDisk_any (room : Int) (B g cap : Nat) (l : List Fl) (w : World) (h : w.ownsRow B 68 3 (.slice (some ⟨g, 0, none⟩) l.length cap) l.length (flsC l)) (hl : l.length ≤ 1048576) :
    Calls Tryz.prog 10 #[.agg #[.int .i64 room, .slice (some ⟨g, 0, none⟩) l.length cap], .int .i64 1] w fun e w' => e = .returned (.int .i64 (1 + 3 * (l.length : Int))) ∧ Touch (fun k => k = g) w w' := by
  have H := hide (own_kept (T := fun _ => False) h (((Touch.refl _ w).alloc (.cells #[.int .i64 room, .slice (some ⟨g, 0, none⟩) l.length cap] 28))) (fun _ _ h => h))
  have T := hide ((Touch.refl (fun k => k = g) w).alloc (.cells #[.int .i64 room, .slice (some ⟨g, 0, none⟩) l.length cap] 28))
  clear h
  go_enter Tryz.func10, Tryz.ntmps10
  go_wp2_with fail
  generalize w.alloc (.cells #[.int .i64 room, .slice (some ⟨g, 0, none⟩) l.length cap] 28) = w1 at *
  refine (markFileS_any B g cap l w1 (unhide H) hl).mono ?_
  rintro e w2 ⟨rfl, hT2⟩
  have T2 := hide ((unhide T).trans hT2 (fun _ _ h => h))
  clear hT2 T H
  go_wp2_with fail
  go_ret
  exact ⟨rfl, unhide T2⟩
end Go.Proofs.YtfihhkhdigbmiaaGreatDoor
namespace Go.Proofs.YtfihhkhdigbmiaaGreatDoor
open Go.ChangeShapes Go.WideShapes Go.ChangeAt Go.RowKit
set_option linter.unusedVariables false
set_option linter.unusedSimpArgs false

def fmk (j : Nat) : Fl := ⟨mtx (1 + 3 * j), mtx (1 + 3 * j + 1), 1 + 3 * (j : Int) + 1 + 1⟩
def fmkTo (l : List Fl) (k : Nat) : List Fl := (List.range l.length).map fun j => if j < k then fmk j else l.getD j default
def fmks (n : Nat) : List Fl := (List.range n).map fun j => fmk j
theorem fmkTo_len (l : List Fl) (k : Nat) : (fmkTo l k).length = l.length := by simp [fmkTo]
theorem fmks_len (n : Nat) : (fmks n).length = n := by simp [fmks]
theorem fmks_get (n j : Nat) (h : j < n) : (fmks n).getD j default = fmk j := by simp [fmks, List.getD_eq_getElem?_getD, h]
theorem fmkTo_zero (l : List Fl) : fmkTo l 0 = l := by
  apply List.ext_getElem?
  intro j
  by_cases hj : j < l.length
  · simp [fmkTo, hj, List.getD_eq_getElem?_getD]
  · simp [fmkTo, hj]
theorem fmkTo_all (l : List Fl) : fmkTo l l.length = fmks l.length := by
  apply List.ext_getElem?
  intro j
  by_cases hj : j < l.length
  · simp [fmkTo, fmks, hj]
  · simp [fmkTo, fmks, hj]
theorem fmkTo_set (l : List Fl) (k : Nat) (hk : k < l.length) : (fmkTo l k).set k (fmk k) = fmkTo l (k + 1) := by
  apply List.ext_getElem?
  intro j
  rw [List.getElem?_set]
  simp only [fmkTo_len]
  by_cases e : k = j
  · subst e
    rw [if_pos rfl, if_pos hk]
    simp [fmkTo, hk]
  · rw [if_neg e]
    by_cases hj : j < l.length
    · by_cases h1 : j < k
      · simp [fmkTo, hj, h1, show j < k + 1 by omega]
      · simp [fmkTo, hj, h1, show ¬ j < k + 1 by omega]
    · simp [fmkTo, hj]
set_option maxRecDepth 100000 in
set_option maxHeartbeats 2000000 in
theorem markFileK_any (B g cap : Nat) (l : List Fl) (w : World) (h : w.ownsRow B 68 3 (.slice (some ⟨g, 0, none⟩) l.length cap) l.length (flsC l)) (hl : l.length ≤ 1048576) :
    Calls Tryz.prog 24 #[.slice (some ⟨g, 0, none⟩) l.length cap, .int .i64 1] w fun e w' => e = .returned (.int .i64 (1 + 3 * (l.length : Int))) ∧ w'.ownsRow B 68 3 (.slice (some ⟨g, 0, none⟩) l.length cap) l.length (flsC (fmks l.length)) ∧ Touch (fun k => k = g) w w' := by
  have H : Hid (w.ownsRow B 68 3 (.slice (some ⟨g, 0, none⟩) l.length cap) l.length (flsC (fmkTo l 0))) := hide (by rw [fmkTo_zero]; exact h)
  clear h
  go_enter Tryz.func24, Tryz.ntmps24
  go_wp2_with fail
  go_loopw [1, 5] (fun k i wr => ∃ (j : Nat), j ≤ l.length ∧ k = .int .i64 (1 + 3 * (j : Int)) ∧ i = .int .i64 j ∧ wr.ownsRow B 68 3 (.slice (some ⟨g, 0, none⟩) l.length cap) l.length (flsC (fmkTo l j)) ∧ Touch (fun k => k = g) w wr) (fun _ i _ => l.length - (intOf i).toNat)
  case atStart => exact ⟨0, Nat.zero_le _, rfl, rfl, unhide H, Touch.refl _ _⟩
  case round =>
    obtain ⟨j, hj, rfl, rfl, hL, hT⟩ := hrel
    by_cases hlt2 : j < l.length
    · have p0 : (0 : Int) ≤ (j : Int) := by omega
      have p1 : (j : Int) < (l.length : Int) := by omega
      obtain ⟨m, hmj⟩ : ∃ m, m = fmkTo l j := ⟨_, rfl⟩
      rw [← hmj] at hL
      have hm : m.length = l.length := by rw [hmj, fmkTo_len]
      have HMJ := hide hmj
      have hfl := flsC_len m
      have HM := hide (And.intro hm hfl)
      have HL := hide (And.intro hL hT)
      have q1 : IntKind.i64.wrap (1 + 3 * (j : Int) + 1) = 1 + 3 * (j : Int) + 1 := wrapMk _ (by omega) (by omega)
      have q2 : IntKind.i64.wrap (1 + 3 * (j : Int) + 1 + 1) = 1 + 3 * (j : Int) + 1 + 1 := wrapMk _ (by omega) (by omega)
      have q3 : IntKind.i64.wrap (1 + 3 * (j : Int) + 1 + 1 + 1) = 1 + 3 * (j : Int) + 1 + 1 + 1 := wrapMk _ (by omega) (by omega)
      clear hL hT hfl hm hmj
      go_wp2_with fail
      refine (markText_int _ (1 + 3 * j) (by omega) wr (by omega) (by omega)).mono ?_
      rintro e w2 ⟨rfl, hb2⟩
      have hO := own_kept (T := fun _ => False) (unhide HL).1 (Touch.ofBelow hb2) (fun _ _ h => h)
      have hT2 : Touch (fun k => k = g) w w2 := (unhide HL).2.trans (T' := fun _ => False) (Touch.ofBelow hb2) (fun _ _ h => h.elim)
      have hjm : j < m.length := by rw [(unhide HM).1]; exact hlt2
      have c0 := (hO.cellAt (j * 3) (by omega)).trans (flsC_get m j hjm).1
      have f0 := hO.frozenAt (j * 3)
      have HG := hide (flsC_get m j hjm)
      have R2 := hide (And.intro (hO.stored (j * 3) (.string (mtx (1 + 3 * j)))).1 (hT2.setCell ⟨g, j * 3, none⟩ (.string (mtx (1 + 3 * j))) (fun _ => rfl)))
      clear hb2 hO hT2 HL
      obtain ⟨x1, hx1⟩ : ∃ x1, x1 = mtx (1 + 3 * j) := ⟨_, rfl⟩
      rw [← hx1] at R2 ⊢
      have HX1 := hide hx1
      clear hx1
      go_wp2_with fail
      clear c0 f0
      generalize w2.setCell ⟨g, j * 3, none⟩ (.string x1) = w3 at *
      refine (markText_int _ (1 + 3 * j + 1) (by omega) w3 (by omega) (by omega)).mono ?_
      rintro e w4 ⟨rfl, hb4⟩
      have hO4 := own_kept (T := fun _ => False) (unhide R2).1 (Touch.ofBelow hb4) (fun _ _ h => h)
      have hT4 : Touch (fun k => k = g) w w4 := (unhide R2).2.trans (T' := fun _ => False) (Touch.ofBelow hb4) (fun _ _ h => h.elim)
      have c1 := (hO4.cellAt (j * 3 + 1) (by omega)).trans ((List.getElem?_set_ne (by omega)).trans (unhide HG).2.1)
      have f1 := hO4.frozenAt (j * 3 + 1)
      have c2 := (hO4.cellAt (j * 3 + 2) (by omega)).trans ((List.getElem?_set_ne (by omega)).trans (unhide HG).2.2)
      have f2 := hO4.frozenAt (j * 3 + 2)
      have hO5 := (hO4.stored (j * 3 + 1) (.string (mtx (1 + 3 * j + 1)))).1
      have hO6 := (hO5.stored (j * 3 + 2) (.int .i64 (1 + 3 * (j : Int) + 1 + 1))).1
      have hT6 := (hT4.setCell ⟨g, j * 3 + 1, none⟩ (.string (mtx (1 + 3 * j + 1))) (fun _ => rfl)).setCell ⟨g, j * 3 + 2, none⟩ (.int .i64 (1 + 3 * (j : Int) + 1 + 1)) (fun _ => rfl)
      have hset := flsC_set m j ⟨x1, mtx (1 + 3 * j + 1), 1 + 3 * (j : Int) + 1 + 1⟩ hjm
      dsimp only at hset
      rw [hset] at hO6
      have hfin : m.set j ⟨x1, mtx (1 + 3 * j + 1), 1 + 3 * (j : Int) + 1 + 1⟩ = fmkTo l (j + 1) := by
        rw [unhide HMJ, unhide HX1]; exact fmkTo_set l j hlt2
      rw [hfin] at hO6
      have R6 := hide (And.intro hO6 hT6)
      clear hb4 hO4 hT4 hO5 hO6 hT6 hset R2 HG HM hfin
      generalize mtx (1 + 3 * j + 1) = x2 at *
      go_wp2_with fail
      refine ⟨⟨j + 1, by omega, ?_, by go_num, (unhide R6).1, (unhide R6).2⟩, ?_⟩
      · have e : (1 : Int) + 3 * (j : Int) + 1 + 1 + 1 = 1 + 3 * ((j + 1 : Nat) : Int) := by omega
        rw [← e]
      · simp [intOf]; omega
    · obtain rfl : j = l.length := by omega
      have R := hide (And.intro hL hT)
      clear hL hT
      go_wp2_with fail
      go_ret
      refine ⟨rfl, ?_, (unhide R).2⟩
      have h9 := (unhide R).1
      rw [fmkTo_all] at h9
      exact h9
set_option maxRecDepth 100000 in
set_option maxHeartbeats 1000000 in
theorem markDiskK_any (room : Int) (B : Nat) (v : Value) (l : List Fl) (w : World) (h : OwnF B w v l) (hl : l.length ≤ 1048576) :
    Calls Tryz.prog 10 #[.agg #[.int .i64 room, v], .int .i64 1] w fun e w' => e = .returned (.int .i64 (1 + 3 * (l.length : Int))) ∧ OwnF B w' v (fmks l.length) ∧ Touch (fun k => v.ownBlock = some k) w w' := by
  rcases own_shape h with ⟨rfl, h0⟩ | ⟨g, cap, rfl, hB, hlt0, hn, hm⟩
  · obtain rfl : l = [] := List.eq_nil_of_length_eq_zero h0
    have T := hide (show Touch (fun k => (Value.slice none 0 0).ownBlock = some k) w (w.alloc (.cells #[.int .i64 room, .slice none 0 0] 28)) from (Touch.refl _ w).alloc _)
    clear h
    go_enter Tryz.func10, Tryz.ntmps10
    go_wp2_with fail
    generalize w.alloc (.cells #[.int .i64 room, .slice none 0 0] 28) = w1 at *
    have HM : Hid (∀ wx : World, Calls Tryz.prog 24 #[.slice none 0 0, .int .i64 1] wx fun e w' => e = .returned (.int .i64 1) ∧ w' = wx) := hide (fun wx => by
      go_enter Tryz.func24, Tryz.ntmps24
      go_wp2_with fail
      go_loop [1, 5] (fun k i => k = .int .i64 1 ∧ i = .int .i64 0) (fun _ _ => 0)
      case atStart => exact ⟨rfl, rfl⟩
      case round =>
        obtain ⟨rfl, rfl⟩ := hrel
        go_wp2_with fail
        go_ret
        exact ⟨rfl, rfl⟩)
    refine (unhide HM _).mono ?_
    rintro e w2 ⟨rfl, hw⟩
    subst w2
    go_wp2_with fail
    go_ret
    exact ⟨by simp, World.ownsRow_nil _ _ _ _, unhide T⟩
  · have H := hide (own_kept (T := fun _ => False) h (((Touch.refl _ w).alloc (.cells #[.int .i64 room, .slice (some ⟨g, 0, none⟩) l.length cap] 28))) (fun _ _ h => h))
    have T := hide ((Touch.refl (fun k => (Value.slice (some ⟨g, 0, none⟩) l.length cap).ownBlock = some k) w).alloc (.cells #[.int .i64 room, .slice (some ⟨g, 0, none⟩) l.length cap] 28))
    clear h
    go_enter Tryz.func10, Tryz.ntmps10
    go_wp2_with fail
    generalize w.alloc (.cells #[.int .i64 room, .slice (some ⟨g, 0, none⟩) l.length cap] 28) = w1 at *
    refine (markFileK_any B g cap l w1 (unhide H) hl).mono ?_
    rintro e w2 ⟨rfl, hO2, hT2⟩
    have T2 := hide ((unhide T).trans hT2 (fun k _ h => by subst h; rfl))
    have O2 := hide (show OwnF B w2 (.slice (some ⟨g, 0, none⟩) l.length cap) (fmks l.length) from by unfold OwnF; rw [fmks_len]; exact hO2)
    clear hT2 hO2 T H
    go_wp2_with fail
    go_ret
    exact ⟨rfl, unhide O2, unhide T2⟩
set_option maxRecDepth 100000 in
set_option maxHeartbeats 4000000 in
theorem heldFileS_any (B : Nat) (v : Value) (n : Nat) (w : World) (h : OwnF B w v (fmks n)) (hn : n ≤ 1048576) :
    Calls Tryz.prog 25 #[v, .int .i64 1] w fun e w' => e = .returned (.int .i64 (1 + 3 * (n : Int))) ∧ Below w.heap.size w w' := by
  rcases own_shape h with ⟨rfl, h0⟩ | ⟨g, cap, rfl, hB, hlt0, hn1, hm⟩
  · rw [fmks_len] at h0
    subst h0
    clear h
    go_enter Tryz.func25, Tryz.ntmps25
    go_wp2_with fail
    go_loop [1, 5] (fun k i => k = .int .i64 1 ∧ i = .int .i64 0) (fun _ _ => 0)
    case atStart => exact ⟨rfl, rfl⟩
    case round =>
      obtain ⟨rfl, rfl⟩ := hrel
      go_wp2_with fail
      go_ret
      exact ⟨rfl, Below.refl _ _⟩
  · have HC := hide (fun j hj => OwnF.cells h j hj rfl)
    have hml := fmks_len n
    rw [hml]
    clear h
    go_enter Tryz.func25, Tryz.ntmps25
    go_wp2_with fail
    go_loopw [1, 5] (fun k i wr => ∃ j : Nat, j ≤ n ∧ k = .int .i64 (1 + 3 * (j : Int)) ∧ i = .int .i64 j ∧ Below w.heap.size w wr) (fun _ i _ => n - (intOf i).toNat)
    case atStart => exact ⟨0, Nat.zero_le _, rfl, rfl, Below.refl _ _⟩
    case round =>
      obtain ⟨j, hj, rfl, rfl, hb⟩ := hrel
      by_cases hlt2 : j < n
      · obtain ⟨s0, s1, s2⟩ := unhide HC j (by omega)
        rw [fmks_get n j hlt2] at s0 s1 s2
        unfold fmk at s0 s1 s2
        dsimp only at s0 s1 s2
        have c0 := (hb.cell (p := ⟨g, j * 3, none⟩) hlt0).trans s0
        have HC1 := hide (fun wx (hx : Below w.heap.size w wx) => (hx.cell (p := ⟨g, j * 3 + 1, none⟩) hlt0).trans s1)
        have HC2 := hide (fun wx (hx : Below w.heap.size w wx) => (hx.cell (p := ⟨g, j * 3 + 2, none⟩) hlt0).trans s2)
        have p0 : (0 : Int) ≤ (j : Int) := by omega
        have p1 : (j : Int) < (n : Int) := by omega
        have q1 : IntKind.i64.wrap (1 + 3 * (j : Int) + 1) = 1 + 3 * (j : Int) + 1 := wrapMk _ (by omega) (by omega)
        have q2 : IntKind.i64.wrap (1 + 3 * (j : Int) + 1 + 1) = 1 + 3 * (j : Int) + 1 + 1 := wrapMk _ (by omega) (by omega)
        have q3 : IntKind.i64.wrap (1 + 3 * (j : Int) + 1 + 1 + 1) = 1 + 3 * (j : Int) + 1 + 1 + 1 := wrapMk _ (by omega) (by omega)
        have HB := hide hb
        have hz := hb.size
        clear hb s0 s1 s2
        go_wp2_with fail
        go_region_held3 (fun wx => wx.cell? ⟨g, j * 3, none⟩ = some (.string (mtx (1 + 3 * j)))) (first | go_keep | exact (hb2.cell (p := ⟨g, j * 3, none⟩) (by simp; omega)).trans (by assumption)) ((go_at_call 48; refine (markText_int _ (1 + 3 * j) (by omega) _ (by omega) (by omega)).mono ?_; rintro e w2 ⟨rfl, hb2⟩))
        all_goals
          have HB2 := hide ((unhide HB).trans (show Below w.heap.size wr w2 from (below_drewN (Below.refl _ wr) 1).trans (hb2.mono (by simpa using hz))))
          have c1 := unhide HC1 _ (unhide HB2)
          have hz2 := (unhide HB2).size
          clear hb2 HB HC1 c0
          go_wp2_with fail
          go_region_held3 (fun wx => wx.cell? ⟨g, j * 3 + 1, none⟩ = some (.string (mtx (1 + 3 * j + 1)))) (first | go_keep | exact (hb4.cell (p := ⟨g, j * 3 + 1, none⟩) (by simp; omega)).trans (by assumption)) ((go_at_call 48; refine (markText_int _ (1 + 3 * j + 1) (by omega) _ (by omega) (by omega)).mono ?_; rintro e w4 ⟨rfl, hb4⟩))
          all_goals
            have HB4 := hide ((unhide HB2).trans (show Below w.heap.size w2 w4 from (below_drewN (Below.refl _ w2) 1).trans (hb4.mono (by simpa using hz2))))
            have c2 := unhide HC2 _ (unhide HB4)
            clear hb4 HB2 HC2 c1
            go_wp2_with fail
            refine ⟨⟨j + 1, by omega, ?_, by go_num, unhide HB4⟩, ?_⟩
            · exact congrArg (Value.int .i64) (by omega)
            · simp [intOf]; omega
      · obtain rfl : j = n := by omega
        have R := hide hb
        clear hb
        go_wp2_with fail
        go_ret
        exact ⟨rfl, unhide R⟩
set_option maxRecDepth 100000 in
set_option maxHeartbeats 1000000 in
theorem heldDisk_any (room : Int) (B : Nat) (v : Value) (n : Nat) (w : World) (h : OwnF B w v (fmks n)) (hn : n ≤ 1048576) :
    Calls Tryz.prog 11 #[.agg #[.int .i64 room, v], .int .i64 1] w fun e w' => e = .returned (.int .i64 (1 + 3 * (n : Int))) ∧ Below w.heap.size w w' := by
  have B0 := hide ((Below.refl w.heap.size w).alloc (Nat.le_refl _) (.cells #[.int .i64 room, v] 28))
  have HH := hide (heldFileS_any B v n (w.alloc (.cells #[.int .i64 room, v] 28)) (h.below ((Below.refl w.heap.size w).alloc (Nat.le_refl _) _)) hn)
  obtain ⟨a, c, rfl, _⟩ := h.fls
  clear h
  have hp : decide ((1 : Int) + 3 * (n : Int) < 0) = false := by rw [decide_eq_false_iff_not]; omega
  have hp2 : ¬ (1 : Int) + 3 * (n : Int) < 0 := by omega
  go_enter Tryz.func11, Tryz.ntmps11
  go_wp2_with fail
  refine (unhide HH).mono ?_
  rintro e w2 ⟨rfl, hb⟩
  have R := hide ((unhide B0).trans (hb.mono (unhide B0).size))
  clear hb HH B0
  go_wp2_with fail
  go_ret
  exact ⟨rfl, unhide R⟩
end Go.Proofs.YtfihhkhdigbmiaaGreatDoor
