/- The number in a segment's name: impl.segmentPlace, spec.l04Number. -/
import Derived.Test.YtfihhkhdigbmiaaGreatDoorSeg
import Derived.Test.YtfihhkhdigbmiaaGreatDoorName
import Derived.Deep.RegionHeld3
namespace Go.Proofs.YtfihhkhdigbmiaaGreatDoor
open Go.ChangeShapes Go.WideShapes Go.ChangeAt Go.RowKit
set_option linter.unusedVariables false

/-- The name is s and two digits. -/
def segB (s : ByteArray) : Bool := decide (s.size = 3) && (bAt s 0 == 115) && digB (bAt s 1) && digB (bAt s 2)
def plcP (s : ByteArray) : Int := if segB s then 10 * (bAt s 1 - 48) + (bAt s 2 - 48) else 0
theorem digB_iff {c : Int} : digB c = true ↔ 48 ≤ c ∧ c ≤ 57 := by simp [digB]
theorem segB_iff {s : ByteArray} : segB s = true ↔ s.size = 3 ∧ bAt s 0 = 115 ∧ (48 ≤ bAt s 1 ∧ bAt s 1 ≤ 57) ∧ 48 ≤ bAt s 2 ∧ bAt s 2 ≤ 57 := by
  simp [segB, digB_iff, and_assoc]
theorem plc_range (s : ByteArray) : 0 ≤ plcP s ∧ plcP s ≤ 99 := by
  unfold plcP
  split
  · rename_i h
    obtain ⟨_, _, ⟨h1, h2⟩, h3, h4⟩ := segB_iff.1 h
    omega
  · omega
theorem bytes_of3 {s : ByteArray} (h : s.size = 3) : s = strOfNums [bAt s 0, bAt s 1, bAt s 2] := by
  obtain ⟨⟨l⟩⟩ := s
  have hl : l.length = 3 := h
  match l, hl with
  | [x, y, z], _ => simp [strOfNums, bAt]
theorem segN_plc {s : ByteArray} (h : 0 < plcP s) : segN (plcP s) = s := by
  unfold plcP at h ⊢
  split at h
  · rename_i hs
    rw [if_pos hs]
    obtain ⟨h0, h1, ⟨h2, h3⟩, h4, h5⟩ := segB_iff.1 hs
    have e1 : 48 + (10 * (bAt s 1 - 48) + (bAt s 2 - 48)) / 10 = bAt s 1 := by omega
    have e2 : 48 + (10 * (bAt s 1 - 48) + (bAt s 2 - 48)) % 10 = bAt s 2 := by omega
    unfold segN
    rw [e1, e2, ← h1]
    exact (bytes_of3 h0).symm
  · omega

set_option maxRecDepth 100000 in
set_option maxHeartbeats 1000000 in
theorem segmentPlace_any (s : ByteArray) (w : World) (hs : s.size ≤ 1048576) :
    Calls Tryz.prog 41 #[.string s] w fun e w' => e = .returned (.int .i64 (plcP s)) ∧ ∃ n, w' = w.drewN n := by
  by_cases h3 : s.size = 3
  · have e0 := bAt_eq s 0 (by omega)
    have e1 := bAt_eq s 1 (by omega)
    have e2 := bAt_eq s 2 (by omega)
    have l0 := bAt_lo s 0
    have l1 := bAt_lo s 1
    have l2 := bAt_lo s 2
    have k0 := bAt_hi s 0
    have k1 := bAt_hi s 1
    have k2 := bAt_hi s 2
    by_cases g0 : bAt s 0 = 115
    · rcases Bool.eq_false_or_eq_true (digB (bAt s 1)) with g1 | g1
      · rcases Bool.eq_false_or_eq_true (digB (bAt s 2)) with g2 | g2
        · obtain ⟨a1, a2⟩ := digB_iff.1 g1
          obtain ⟨a3, a4⟩ := digB_iff.1 g2
          have E := hide (show plcP s = 10 * (bAt s 1 - 48) + (bAt s 2 - 48) by unfold plcP; rw [if_pos (segB_iff.2 ⟨h3, g0, ⟨a1, a2⟩, a3, a4⟩)])
          generalize bAt s 0 = x0 at *
          generalize bAt s 1 = x1 at *
          generalize bAt s 2 = x2 at *
          have m1 := wrapBg (x1 - 48) (by omega) (by omega)
          have m2 := wrapBg (x2 - 48) (by omega) (by omega)
          have m3 := wrapSg (x1 - 48) (by omega) (by omega)
          have m4 := wrapSg (x2 - 48) (by omega) (by omega)
          have m5 := wrapSg (10 * (x1 - 48)) (by omega) (by omega)
          have m6 := wrapSg (10 * (x1 - 48) + (x2 - 48)) (by omega) (by omega)
          have m7 := wrapSg (10 * (x1 - 48) + x2) (by omega) (by omega)
          have m8 := wrapSg (10 * (x1 - 48) + x2 - 48) (by omega) (by omega)
          have m9 := wrapSg x1 (by omega) (by omega)
          have m10 := wrapSg x2 (by omega) (by omega)
          go_enter Tryz.func41, Tryz.ntmps41
          go_wp2_with fail
          refine (isDigit_any x1 _).mono ?_
          rintro e w' ⟨rfl, hw⟩
          have hw2 := hw.symm
          clear hw
          subst hw2
          rw [g1]
          go_wp2_with fail
          refine (isDigit_any x2 _).mono ?_
          rintro e w' ⟨rfl, hw⟩
          have hw2 := hw.symm
          clear hw
          subst hw2
          rw [g2]
          go_wp2_with fail
          go_quiet (fail)
          go_wp2_with fail
          go_ret
          exact ⟨ret_int (by rw [unhide E]; try omega), _, rfl⟩
        · have E := hide (show plcP s = 0 by unfold plcP; rw [if_neg (by simp [segB, g2])])
          generalize bAt s 0 = x0 at *
          generalize bAt s 1 = x1 at *
          generalize bAt s 2 = x2 at *
          go_enter Tryz.func41, Tryz.ntmps41
          go_wp2_with fail
          refine (isDigit_any x1 _).mono ?_
          rintro e w' ⟨rfl, hw⟩
          have hw2 := hw.symm
          clear hw
          subst hw2
          rw [g1]
          go_wp2_with fail
          refine (isDigit_any x2 _).mono ?_
          rintro e w' ⟨rfl, hw⟩
          have hw2 := hw.symm
          clear hw
          subst hw2
          rw [g2]
          go_wp2_with fail
          go_ret
          exact ⟨ret_int (unhide E).symm, 0, rfl⟩
      · have E := hide (show plcP s = 0 by unfold plcP; rw [if_neg (by simp [segB, g1])])
        generalize bAt s 0 = x0 at *
        generalize bAt s 1 = x1 at *
        generalize bAt s 2 = x2 at *
        go_enter Tryz.func41, Tryz.ntmps41
        go_wp2_with fail
        refine (isDigit_any x1 _).mono ?_
        rintro e w' ⟨rfl, hw⟩
        have hw2 := hw.symm
        clear hw
        subst hw2
        rw [g1]
        go_wp2_with fail
        go_ret
        exact ⟨ret_int (unhide E).symm, 0, rfl⟩
    · have E := hide (show plcP s = 0 by unfold plcP; rw [if_neg (by simp [segB, g0])])
      generalize bAt s 0 = x0 at *
      generalize bAt s 1 = x1 at *
      generalize bAt s 2 = x2 at *
      have g0b : (x0 == 115) = false := by rw [beq_eq_false_iff_ne]; exact g0
      go_enter Tryz.func41, Tryz.ntmps41
      go_wp2_with fail
      go_ret
      exact ⟨ret_int (unhide E).symm, 0, rfl⟩
  · have E := hide (show plcP s = 0 by unfold plcP; rw [if_neg (by simp [segB, h3])])
    have h3b : ((s.size : Int) == 3) = false := by rw [beq_eq_false_iff_ne]; omega
    go_enter Tryz.func41, Tryz.ntmps41
    go_wp2_with fail
    go_ret
    exact ⟨ret_int (unhide E).symm, 0, rfl⟩
set_option maxRecDepth 100000 in
set_option maxHeartbeats 1000000 in
theorem l04Number_any (s : ByteArray) (w : World) (hs : s.size ≤ 1048576) :
    Calls Tryz.prog 57 #[.string s] w fun e w' => e = .returned (.int .i64 (plcP s)) ∧ ∃ n, w' = w.drewN n := by
  by_cases h3 : s.size = 3
  · have e0 := bAt_eq s 0 (by omega)
    have e1 := bAt_eq s 1 (by omega)
    have e2 := bAt_eq s 2 (by omega)
    have l0 := bAt_lo s 0
    have l1 := bAt_lo s 1
    have l2 := bAt_lo s 2
    have k0 := bAt_hi s 0
    have k1 := bAt_hi s 1
    have k2 := bAt_hi s 2
    by_cases g0 : bAt s 0 = 115
    · rcases Bool.eq_false_or_eq_true (digB (bAt s 1)) with g1 | g1
      · rcases Bool.eq_false_or_eq_true (digB (bAt s 2)) with g2 | g2
        · obtain ⟨a1, a2⟩ := digB_iff.1 g1
          obtain ⟨a3, a4⟩ := digB_iff.1 g2
          have E := hide (show plcP s = 10 * (bAt s 1 - 48) + (bAt s 2 - 48) by unfold plcP; rw [if_pos (segB_iff.2 ⟨h3, g0, ⟨a1, a2⟩, a3, a4⟩)])
          generalize bAt s 0 = x0 at *
          generalize bAt s 1 = x1 at *
          generalize bAt s 2 = x2 at *
          have m1 := wrapBg (x1 - 48) (by omega) (by omega)
          have m2 := wrapBg (x2 - 48) (by omega) (by omega)
          have m3 := wrapSg (x1 - 48) (by omega) (by omega)
          have m4 := wrapSg (x2 - 48) (by omega) (by omega)
          have m5 := wrapSg (10 * (x1 - 48)) (by omega) (by omega)
          have m6 := wrapSg (10 * (x1 - 48) + (x2 - 48)) (by omega) (by omega)
          have m7 := wrapSg (10 * (x1 - 48) + x2) (by omega) (by omega)
          have m8 := wrapSg (10 * (x1 - 48) + x2 - 48) (by omega) (by omega)
          have m9 := wrapSg x1 (by omega) (by omega)
          have m10 := wrapSg x2 (by omega) (by omega)
          go_enter Tryz.func57, Tryz.ntmps57
          go_wp2_with fail
          refine (l00Digit_any x1 _).mono ?_
          rintro e w' ⟨rfl, hw⟩
          have hw2 := hw.symm
          clear hw
          subst hw2
          rw [g1]
          go_wp2_with fail
          refine (l00Digit_any x2 _).mono ?_
          rintro e w' ⟨rfl, hw⟩
          have hw2 := hw.symm
          clear hw
          subst hw2
          rw [g2]
          go_wp2_with fail
          go_quiet (fail)
          go_wp2_with fail
          go_ret
          exact ⟨ret_int (by rw [unhide E]; try omega), _, rfl⟩
        · have E := hide (show plcP s = 0 by unfold plcP; rw [if_neg (by simp [segB, g2])])
          generalize bAt s 0 = x0 at *
          generalize bAt s 1 = x1 at *
          generalize bAt s 2 = x2 at *
          go_enter Tryz.func57, Tryz.ntmps57
          go_wp2_with fail
          refine (l00Digit_any x1 _).mono ?_
          rintro e w' ⟨rfl, hw⟩
          have hw2 := hw.symm
          clear hw
          subst hw2
          rw [g1]
          go_wp2_with fail
          refine (l00Digit_any x2 _).mono ?_
          rintro e w' ⟨rfl, hw⟩
          have hw2 := hw.symm
          clear hw
          subst hw2
          rw [g2]
          go_wp2_with fail
          go_ret
          exact ⟨ret_int (unhide E).symm, 0, rfl⟩
      · have E := hide (show plcP s = 0 by unfold plcP; rw [if_neg (by simp [segB, g1])])
        generalize bAt s 0 = x0 at *
        generalize bAt s 1 = x1 at *
        generalize bAt s 2 = x2 at *
        go_enter Tryz.func57, Tryz.ntmps57
        go_wp2_with fail
        refine (l00Digit_any x1 _).mono ?_
        rintro e w' ⟨rfl, hw⟩
        have hw2 := hw.symm
        clear hw
        subst hw2
        rw [g1]
        go_wp2_with fail
        go_ret
        exact ⟨ret_int (unhide E).symm, 0, rfl⟩
    · have E := hide (show plcP s = 0 by unfold plcP; rw [if_neg (by simp [segB, g0])])
      generalize bAt s 0 = x0 at *
      generalize bAt s 1 = x1 at *
      generalize bAt s 2 = x2 at *
      have g0b : (x0 == 115) = false := by rw [beq_eq_false_iff_ne]; exact g0
      go_enter Tryz.func57, Tryz.ntmps57
      go_wp2_with fail
      go_ret
      exact ⟨ret_int (unhide E).symm, 0, rfl⟩
  · have E := hide (show plcP s = 0 by unfold plcP; rw [if_neg (by simp [segB, h3])])
    have h3b : ((s.size : Int) == 3) = false := by rw [beq_eq_false_iff_ne]; omega
    go_enter Tryz.func57, Tryz.ntmps57
    go_wp2_with fail
    go_ret
    exact ⟨ret_int (unhide E).symm, 0, rfl⟩
end Go.Proofs.YtfihhkhdigbmiaaGreatDoor
