/- spec.NewGroup, walked. -/
import Derived.Test.YtafbdjcoimopfaaGrpC
namespace Go.Proofs.Ytafbdjcoimopfaa
open Go.ChangeShapes Go.WideShapes Go.ChangeAt Go.RowKit Go.Deep
set_option linter.unusedVariables false
set_option linter.unusedSimpArgs false

set_option maxRecDepth 100000 in
set_option maxHeartbeats 4000000 in
theorem specNewGroup_any (n : Int) (w : World) :
    Calls Try.prog 8 #[.int .i64 n] w fun e w' => GAns (grOut n).1 (grOut n).2 w e w' := by
  have B0 := hide ((Below.refl w.heap.size w).alloc (Nat.le_refl _) (.cells #[.slice none 0 0, .slice none 0 0, .slice none 0 0, .slice none 0 0] 27))
  have X0 := hide (Blk.new w #[.slice none 0 0, .slice none 0 0, .slice none 0 0, .slice none 0 0] 27 w.heap.size rfl)
  cases hin : inB n 1 5
  · have HO := hide (grOut_bad hin)
    generalize grOut n = out at *
    go_enter Try.func8, Try.ntmps8
    have r0 := (unhide X0).cell 0 rfl
    have r1 := (unhide X0).cell 1 rfl
    have r2 := (unhide X0).cell 2 rfl
    have r3 := (unhide X0).cell 3 rfl
    go_wp2_with fail
    refine (l01In_any _ _ _ _).mono ?_
    rintro e w' ⟨rfl, hw'⟩
    have hw2 := hw'.symm
    clear hw'
    subst hw2
    rw [hin]
    go_wp2_with fail
    refine bodyPost_ret (v := .tuple #[.agg #[.slice none 0 0, .slice none 0 0, .slice none 0 0, .slice none 0 0], .int .i64 4]) (by simp [results, Try.results8, go_sem, r0, r1, r2, r3]) rfl ?_
    rw [unhide HO]
    exact ⟨_, none, 0, none, 0, none, 0, [], rfl, Ns.nil nvS _ _, fun i x h => by simp at h, unhide B0⟩
  obtain ⟨h1, h5⟩ := inB_iff.1 hin
  obtain ⟨m, rfl⟩ : ∃ m : Nat, n = (m : Int) := ⟨n.toNat, by omega⟩
  have HO := hide (grOut_ok hin)
  generalize grOut (m : Int) = out at *
  go_enter Try.func8, Try.ntmps8
  go_wp2_with fail
  refine (l01In_any _ _ _ _).mono ?_
  rintro e w' ⟨rfl, hw'⟩
  have hw2 := hw'.symm
  clear hw'
  subst hw2
  rw [hin]
  go_wp2_with fail
  generalize w.alloc (.cells #[.slice none 0 0, .slice none 0 0, .slice none 0 0, .slice none 0 0] 27) = w0 at *
  have h0s := (unhide X0).1
  refine (l11New_any m (by omega) (by omega) w0).mono ?_
  rintro e wr ⟨v, a1, a2, a3, l, rfl, hN, hG, hb⟩
  obtain ⟨gq, cq, hvv⟩ : ∃ gq cq, v = .slice (some ⟨gq, 0, none⟩) m cq := by
    rcases own_shape hN.row with ⟨_, h0⟩ | ⟨gq, cq, hq, _⟩
    · omega
    · exact ⟨gq, cq, hq⟩
  subst hvv
  have RX := (unhide X0).below hb
  have r0 := RX.cell 0 rfl
  have r1 := RX.cell 1 rfl
  have r2 := RX.cell 2 rfl
  have r3 := RX.cell 3 rfl
  have f0 := RX.fro 0
  have f1 := RX.fro 1
  have f2 := RX.fro 2
  have f3 := RX.fro 3
  have HR9 := hide ((((RX.set 0 (.slice (some ⟨gq, 0, none⟩) m cq) (by simp)).set 1 (.slice a1 0 0) (by simp)).set 2 (.slice a2 0 0) (by simp)).set 3 (.slice a3 0 0) (by simp))
  have T9 := ((((Touch.refl (fun q => q = w.heap.size) wr).setCell ⟨w.heap.size, 0, none⟩ (.slice (some ⟨gq, 0, none⟩) m cq) (fun _ => rfl)).setCell ⟨w.heap.size, 1, none⟩ (.slice a1 0 0) (fun _ => rfl)).setCell ⟨w.heap.size, 2, none⟩ (.slice a2 0 0) (fun _ => rfl)).setCell ⟨w.heap.size, 3, none⟩ (.slice a3 0 0) (fun _ => rfl)
  have FN := hide ((hN.kept T9 (fun k e _ => by omega)).down (show w.heap.size ≤ w0.heap.size by omega))
  have hBr := (unhide B0).trans (hb.mono (unhide B0).size)
  have K9 := hide (hBr.trans (T9.below hBr.size (fun k hk e => by omega)))
  have GR := hide hG
  clear T9 RX hBr hb hN hG
  go_wp2_with fail
  all_goals
    have R9 := unhide HR9
    have z0 := R9.cell 0 rfl
    have z1 := R9.cell 1 rfl
    have z2 := R9.cell 2 rfl
    have z3 := R9.cell 3 rfl
    refine bodyPost_ret (v := .tuple #[.agg #[.slice (some ⟨gq, 0, none⟩) m cq, .slice a1 0 0, .slice a2 0 0, .slice a3 0 0], .int .i64 0]) (by simp [results, Try.results8, go_sem, z0, z1, z2, z3]) rfl ?_
    rw [unhide HO]
    exact ⟨_, a1, 0, a2, 0, a3, 0, l, rfl, unhide FN, unhide GR, unhide K9⟩
end Go.Proofs.Ytafbdjcoimopfaa
