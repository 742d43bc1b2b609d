/- A command read by the reader: impl. -/
import Derived.Test.YtmjbcepkfgfdmaaRdT
namespace Go.Proofs.Ytmjbcepkfgfdmaa
open Go.ChangeShapes Go.WideShapes Go.ChangeAt Go.RowKit
set_option linter.unusedVariables false
set_option linter.unusedSimpArgs false

/-- What is read as a command. -/
def cmdP (st : Option (List Int)) : (Int × Int × Int × ByteArray × ByteArray) × Option (List Int) :=
  (((numP 1 st).1, (numP 2 (numP 1 st).2).1, (numP 2 (numP 2 (numP 1 st).2).2).1, strOfNums (textP (numP 2 (numP 2 (numP 1 st).2).2).2).1, strOfNums (textP (textP (numP 2 (numP 2 (numP 1 st).2).2).2).2).1), (textP (textP (numP 2 (numP 2 (numP 1 st).2).2).2).2).2)
def cmdVal (c : Int × Int × Int × ByteArray × ByteArray) : Value := .agg #[.int .i64 c.1, .int .i64 c.2.1, .int .i64 c.2.2.1, .string c.2.2.2.1, .string c.2.2.2.2]
set_option maxRecDepth 100000 in
set_option maxHeartbeats 1000000 in
theorem implCommand_any (b : Nat) (st : Option (List Int)) (w : World) (h : Rd w b st) :
    Calls Try.prog 32 #[.pointer (some ⟨b, 0, none⟩)] w fun e w' => e = .returned (cmdVal (cmdP st).1) ∧ Rd w' b (cmdP st).2 ∧ Touch (fun k => k = b) w w' := by
  have hb := h.lt
  have H0 := hide h
  clear h
  go_enter Try.func32, Try.ntmps32
  go_wp2_with fail
  have D0 := hide (Blk.new w #[.int .i64 0, .int .i64 0, .int .i64 0, .string ⟨#[]⟩, .string ⟨#[]⟩] 24 w.heap.size rfl)
  have R0 := hide ((unhide D0).alloc (.cells #[.int .i64 0, .int .i64 0, .int .i64 0, .string ⟨#[]⟩, .string ⟨#[]⟩] 24))
  have C0 := hide (Blk.new (w.alloc (.cells #[.int .i64 0, .int .i64 0, .int .i64 0, .string ⟨#[]⟩, .string ⟨#[]⟩] 24)) #[.int .i64 0, .int .i64 0, .int .i64 0, .string ⟨#[]⟩, .string ⟨#[]⟩] 24 (w.heap.size + 1) (by simp))
  have T0 := hide (((Touch.refl (fun k => k = b) w).alloc (.cells #[.int .i64 0, .int .i64 0, .int .i64 0, .string ⟨#[]⟩, .string ⟨#[]⟩] 24)).alloc (.cells #[.int .i64 0, .int .i64 0, .int .i64 0, .string ⟨#[]⟩, .string ⟨#[]⟩] 24))
  have S0 := hide (((unhide H0).alloc (.cells #[.int .i64 0, .int .i64 0, .int .i64 0, .string ⟨#[]⟩, .string ⟨#[]⟩] 24)).alloc (.cells #[.int .i64 0, .int .i64 0, .int .i64 0, .string ⟨#[]⟩, .string ⟨#[]⟩] 24))
  clear D0 H0
  generalize (w.alloc (.cells #[.int .i64 0, .int .i64 0, .int .i64 0, .string ⟨#[]⟩, .string ⟨#[]⟩] 24)).alloc (.cells #[.int .i64 0, .int .i64 0, .int .i64 0, .string ⟨#[]⟩, .string ⟨#[]⟩] 24) = w0 at *
  refine (implNumber_any 1 1 rfl b st _ (unhide S0) (by omega)).mono ?_
  rintro e w1 ⟨rfl, hR, hT, hz⟩
  obtain ⟨x1, st1, hx1⟩ : ∃ x s, numP 1 st = (x, s) := ⟨_, _, rfl⟩
  rw [hx1] at hR ⊢
  have HX1 := hide hx1
  dsimp only at hR ⊢
  have R1 := hide ((unhide R0).kept hT (by show ¬ w.heap.size = b; omega))
  have C1' := hide ((unhide C0).kept hT (by show ¬ w.heap.size + 1 = b; omega))
  have T1' := hide ((unhide T0).trans hT (fun _ _ h => h))
  have S1' := hide hR
  clear hx1 hR hT hz R0 C0 T0 S0
  have c1 := (unhide C1').cell 0 rfl
  have f1 := (unhide C1').fro 0
  have C1 := hide ((unhide C1').set 0 (.int .i64 x1) (by simp))
  have R1s := hide ((unhide R1).other (C := w.heap.size + 1) 0 (.int .i64 x1) (by omega))
  have T1 := hide ((unhide T1').setCell ⟨w.heap.size + 1, 0, none⟩ (.int .i64 x1) (fun hlt => by simp at hlt; omega))
  have S1 := hide ((unhide S1').other (C := w.heap.size + 1) 0 (.int .i64 x1) (by omega))
  simp only [List.set_cons_zero, List.set_cons_succ] at C1
  clear C1' R1 T1' S1'
  have R1 := R1s
  clear R1s
  go_wp2_with fail
  clear c1 f1
  generalize w1.setCell ⟨w.heap.size + 1, 0, none⟩ (.int .i64 x1) = w1s at *
  refine (implNumber_any 2 2 rfl b st1 _ (unhide S1) (by omega)).mono ?_
  rintro e w2 ⟨rfl, hR, hT, hz⟩
  obtain ⟨x2, st2, hx2⟩ : ∃ x s, numP 2 st1 = (x, s) := ⟨_, _, rfl⟩
  rw [hx2] at hR ⊢
  have HX2 := hide hx2
  dsimp only at hR ⊢
  have R2 := hide ((unhide R1).kept hT (by show ¬ w.heap.size = b; omega))
  have C2' := hide ((unhide C1).kept hT (by show ¬ w.heap.size + 1 = b; omega))
  have T2' := hide ((unhide T1).trans hT (fun _ _ h => h))
  have S2' := hide hR
  clear hx2 hR hT hz R1 C1 T1 S1
  have c2 := (unhide C2').cell 1 rfl
  have f2 := (unhide C2').fro 1
  have C2 := hide ((unhide C2').set 1 (.int .i64 x2) (by simp))
  have R2s := hide ((unhide R2).other (C := w.heap.size + 1) 1 (.int .i64 x2) (by omega))
  have T2 := hide ((unhide T2').setCell ⟨w.heap.size + 1, 1, none⟩ (.int .i64 x2) (fun hlt => by simp at hlt; omega))
  have S2 := hide ((unhide S2').other (C := w.heap.size + 1) 1 (.int .i64 x2) (by omega))
  simp only [List.set_cons_zero, List.set_cons_succ] at C2
  clear C2' R2 T2' S2'
  have R2 := R2s
  clear R2s
  go_wp2_with fail
  clear c2 f2
  generalize w2.setCell ⟨w.heap.size + 1, 1, none⟩ (.int .i64 x2) = w2s at *
  refine (implNumber_any 2 2 rfl b st2 _ (unhide S2) (by omega)).mono ?_
  rintro e w3 ⟨rfl, hR, hT, hz⟩
  obtain ⟨x3, st3, hx3⟩ : ∃ x s, numP 2 st2 = (x, s) := ⟨_, _, rfl⟩
  rw [hx3] at hR ⊢
  have HX3 := hide hx3
  dsimp only at hR ⊢
  have R3 := hide ((unhide R2).kept hT (by show ¬ w.heap.size = b; omega))
  have C3' := hide ((unhide C2).kept hT (by show ¬ w.heap.size + 1 = b; omega))
  have T3' := hide ((unhide T2).trans hT (fun _ _ h => h))
  have S3' := hide hR
  clear hx3 hR hT hz R2 C2 T2 S2
  have c3 := (unhide C3').cell 2 rfl
  have f3 := (unhide C3').fro 2
  have C3 := hide ((unhide C3').set 2 (.int .i64 x3) (by simp))
  have R3s := hide ((unhide R3).other (C := w.heap.size + 1) 2 (.int .i64 x3) (by omega))
  have T3 := hide ((unhide T3').setCell ⟨w.heap.size + 1, 2, none⟩ (.int .i64 x3) (fun hlt => by simp at hlt; omega))
  have S3 := hide ((unhide S3').other (C := w.heap.size + 1) 2 (.int .i64 x3) (by omega))
  simp only [List.set_cons_zero, List.set_cons_succ] at C3
  clear C3' R3 T3' S3'
  have R3 := R3s
  clear R3s
  go_wp2_with fail
  clear c3 f3
  generalize w3.setCell ⟨w.heap.size + 1, 2, none⟩ (.int .i64 x3) = w3s at *
  refine (implText_any b st3 _ (unhide S3)).mono ?_
  rintro e w4 ⟨rfl, hR, hT, hz⟩
  obtain ⟨x4, st4, hx4⟩ : ∃ x s, textP st3 = (x, s) := ⟨_, _, rfl⟩
  rw [hx4] at hR ⊢
  have HX4 := hide hx4
  dsimp only at hR ⊢
  have R4 := hide ((unhide R3).kept hT (by show ¬ w.heap.size = b; omega))
  have C4' := hide ((unhide C3).kept hT (by show ¬ w.heap.size + 1 = b; omega))
  have T4' := hide ((unhide T3).trans hT (fun _ _ h => h))
  have S4' := hide hR
  clear hx4 hR hT hz R3 C3 T3 S3
  generalize hs4 : strOfNums x4 = s4 at *
  have HS4 := hide hs4
  clear hs4
  have c4 := (unhide C4').cell 3 rfl
  have f4 := (unhide C4').fro 3
  have C4 := hide ((unhide C4').set 3 (.string s4) (by simp))
  have R4s := hide ((unhide R4).other (C := w.heap.size + 1) 3 (.string s4) (by omega))
  have T4 := hide ((unhide T4').setCell ⟨w.heap.size + 1, 3, none⟩ (.string s4) (fun hlt => by simp at hlt; omega))
  have S4 := hide ((unhide S4').other (C := w.heap.size + 1) 3 (.string s4) (by omega))
  simp only [List.set_cons_zero, List.set_cons_succ] at C4
  clear C4' R4 T4' S4'
  have R4 := R4s
  clear R4s
  go_wp2_with fail
  clear c4 f4
  generalize w4.setCell ⟨w.heap.size + 1, 3, none⟩ (.string s4) = w4s at *
  refine (implText_any b st4 _ (unhide S4)).mono ?_
  rintro e w5 ⟨rfl, hR, hT, hz⟩
  obtain ⟨x5, st5, hx5⟩ : ∃ x s, textP st4 = (x, s) := ⟨_, _, rfl⟩
  rw [hx5] at hR ⊢
  have HX5 := hide hx5
  dsimp only at hR ⊢
  have R5 := hide ((unhide R4).kept hT (by show ¬ w.heap.size = b; omega))
  have C5' := hide ((unhide C4).kept hT (by show ¬ w.heap.size + 1 = b; omega))
  have T5' := hide ((unhide T4).trans hT (fun _ _ h => h))
  have S5' := hide hR
  clear hx5 hR hT hz R4 C4 T4 S4
  generalize hs5 : strOfNums x5 = s5 at *
  have HS5 := hide hs5
  clear hs5
  have c5 := (unhide C5').cell 4 rfl
  have f5 := (unhide C5').fro 4
  have g0 := (unhide C5').cell 0 rfl
  have g1 := (unhide C5').cell 1 rfl
  have g2 := (unhide C5').cell 2 rfl
  have g3 := (unhide C5').cell 3 rfl
  have r0 := (unhide R5).cell 0 rfl
  have q0 := (unhide R5).fro 0
  have r1 := (unhide R5).cell 1 rfl
  have q1 := (unhide R5).fro 1
  have r2 := (unhide R5).cell 2 rfl
  have q2 := (unhide R5).fro 2
  have r3 := (unhide R5).cell 3 rfl
  have q3 := (unhide R5).fro 3
  have r4 := (unhide R5).cell 4 rfl
  have q4 := (unhide R5).fro 4
  have C5 := hide ((unhide C5').set 4 (.string s5) (by simp))
  have R5s := hide ((unhide R5).other (C := w.heap.size + 1) 4 (.string s5) (by omega))
  have T5 := hide ((unhide T5').setCell ⟨w.heap.size + 1, 4, none⟩ (.string s5) (fun hlt => by simp at hlt; omega))
  have S5 := hide ((unhide S5').other (C := w.heap.size + 1) 4 (.string s5) (by omega))
  simp only [List.set_cons_zero, List.set_cons_succ] at C5
  clear C5' R5 T5' S5'
  have R5 := R5s
  clear R5s
  have hne : w.heap.size + 1 ≠ w.heap.size := by omega
  go_wp2_with fail
  refine bodyPost_ret (v := .agg #[.int .i64 x1, .int .i64 x2, .int .i64 x3, .string s4, .string s5]) (by simp [results, Try.results32, go_sem, r0, r1, r2, r3, r4]) rfl ⟨?_, ?_, ?_⟩
  · have e : (cmdP st).1 = (x1, x2, x3, s4, s5) := by simp only [cmdP, unhide HX1, unhide HX2, unhide HX3, unhide HX4, unhide HX5, unhide HS4, unhide HS5]
    rw [e]; rfl
  · have e : (cmdP st).2 = st5 := by simp only [cmdP, unhide HX1, unhide HX2, unhide HX3, unhide HX4, unhide HX5]
    rw [e]
    exact (((((unhide S5).other 0 _ hb).other 1 _ hb).other 2 _ hb).other 3 _ hb).other 4 _ hb
  · exact (((((unhide T5).setCell _ _ (fun hlt => by simp at hlt)).setCell _ _ (fun hlt => by simp at hlt)).setCell _ _ (fun hlt => by simp at hlt)).setCell _ _ (fun hlt => by simp at hlt)).setCell _ _ (fun hlt => by simp at hlt)

end Go.Proofs.Ytmjbcepkfgfdmaa
