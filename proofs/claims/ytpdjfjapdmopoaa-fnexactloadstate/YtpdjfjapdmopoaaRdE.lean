/- An entry read by the reader: impl. -/
import Derived.Test.YtpdjfjapdmopoaaRdT
namespace Go.Proofs.Ytpdjfjapdmopoaa
open Go.ChangeShapes Go.WideShapes Go.ChangeAt Go.RowKit
set_option linter.unusedVariables false
set_option linter.unusedSimpArgs false

/-- What is read as an entry. -/
def entP (st : Option (List Int)) : (Int × Int × ByteArray) × Option (List Int) :=
  (((numP 4 st).1, (numP 1 (numP 4 st).2).1, strOfNums (textP (numP 1 (numP 4 st).2).2).1), (textP (numP 1 (numP 4 st).2).2).2)
def entVal (c : Int × Int × ByteArray) : Value := .agg #[.int .i64 c.1, .int .i64 c.2.1, .string c.2.2]

set_option maxRecDepth 100000 in
set_option maxHeartbeats 1000000 in
theorem implEntry_any (b : Nat) (st : Option (List Int)) (w : World) (h : Rd w b st) :
    Calls Try.prog 55 #[.pointer (some ⟨b, 0, none⟩)] w fun e w' => e = .returned (entVal (entP st).1) ∧ Rd w' b (entP st).2 ∧ Touch (fun k => k = b) w w' := by
  have hb := h.lt
  have H0 := hide h
  clear h
  go_enter Try.func55, Try.ntmps55
  go_wp2_with fail
  have D0 := hide (Blk.new w #[.int .i64 0, .int .i64 0, .string ⟨#[]⟩] 78 w.heap.size rfl)
  have R0 := hide ((unhide D0).alloc (.cells #[.int .i64 0, .int .i64 0, .string ⟨#[]⟩] 78))
  have C0 := hide (Blk.new (w.alloc (.cells #[.int .i64 0, .int .i64 0, .string ⟨#[]⟩] 78)) #[.int .i64 0, .int .i64 0, .string ⟨#[]⟩] 78 (w.heap.size + 1) (by simp))
  have T0 := hide (((Touch.refl (fun k => k = b) w).alloc (.cells #[.int .i64 0, .int .i64 0, .string ⟨#[]⟩] 78)).alloc (.cells #[.int .i64 0, .int .i64 0, .string ⟨#[]⟩] 78))
  have S0 := hide (((unhide H0).alloc (.cells #[.int .i64 0, .int .i64 0, .string ⟨#[]⟩] 78)).alloc (.cells #[.int .i64 0, .int .i64 0, .string ⟨#[]⟩] 78))
  clear D0 H0
  generalize (w.alloc (.cells #[.int .i64 0, .int .i64 0, .string ⟨#[]⟩] 78)).alloc (.cells #[.int .i64 0, .int .i64 0, .string ⟨#[]⟩] 78) = w0 at *
  refine (implNumber_any 4 4 rfl b st _ (unhide S0) (by omega)).mono ?_
  rintro e w1 ⟨rfl, hR, hT, hz⟩
  obtain ⟨x1, st1, hx1⟩ : ∃ x s, numP 4 st = (x, s) := ⟨_, _, rfl⟩
  rw [hx1] at hR ⊢
  have HX1 := hide hx1
  dsimp only at hR ⊢
  have R1 := hide ((unhide R0).kept hT (by show ¬ w.heap.size = b; omega))
  have C1' := hide ((unhide C0).kept hT (by show ¬ w.heap.size + 1 = b; omega))
  have T1' := hide ((unhide T0).trans hT (fun _ _ h => h))
  have S1' := hide hR
  clear hx1 hR hT hz R0 C0 T0 S0
  have c1 := (unhide C1').cell 0 rfl
  have f1 := (unhide C1').fro 0
  have C1 := hide ((unhide C1').set 0 (.int .i64 x1) (by simp))
  have R1s := hide ((unhide R1).other (C := w.heap.size + 1) 0 (.int .i64 x1) (by omega))
  have T1 := hide ((unhide T1').setCell ⟨w.heap.size + 1, 0, none⟩ (.int .i64 x1) (fun hlt => by simp at hlt; omega))
  have S1 := hide ((unhide S1').other (C := w.heap.size + 1) 0 (.int .i64 x1) (by omega))
  simp only [List.set_cons_zero, List.set_cons_succ] at C1
  clear C1' R1 T1' S1'
  have R1 := R1s
  clear R1s
  go_wp2_with fail
  clear c1 f1
  generalize w1.setCell ⟨w.heap.size + 1, 0, none⟩ (.int .i64 x1) = w1s at *
  refine (implNumber_any 1 1 rfl b st1 _ (unhide S1) (by omega)).mono ?_
  rintro e w2 ⟨rfl, hR, hT, hz⟩
  obtain ⟨x2, st2, hx2⟩ : ∃ x s, numP 1 st1 = (x, s) := ⟨_, _, rfl⟩
  rw [hx2] at hR ⊢
  have HX2 := hide hx2
  dsimp only at hR ⊢
  have R2 := hide ((unhide R1).kept hT (by show ¬ w.heap.size = b; omega))
  have C2' := hide ((unhide C1).kept hT (by show ¬ w.heap.size + 1 = b; omega))
  have T2' := hide ((unhide T1).trans hT (fun _ _ h => h))
  have S2' := hide hR
  clear hx2 hR hT hz R1 C1 T1 S1
  have c2 := (unhide C2').cell 1 rfl
  have f2 := (unhide C2').fro 1
  have C2 := hide ((unhide C2').set 1 (.int .i64 x2) (by simp))
  have R2s := hide ((unhide R2).other (C := w.heap.size + 1) 1 (.int .i64 x2) (by omega))
  have T2 := hide ((unhide T2').setCell ⟨w.heap.size + 1, 1, none⟩ (.int .i64 x2) (fun hlt => by simp at hlt; omega))
  have S2 := hide ((unhide S2').other (C := w.heap.size + 1) 1 (.int .i64 x2) (by omega))
  simp only [List.set_cons_zero, List.set_cons_succ] at C2
  clear C2' R2 T2' S2'
  have R2 := R2s
  clear R2s
  go_wp2_with fail
  clear c2 f2
  generalize w2.setCell ⟨w.heap.size + 1, 1, none⟩ (.int .i64 x2) = w2s at *
  refine (implText_any b st2 _ (unhide S2)).mono ?_
  rintro e w3 ⟨rfl, hR, hT, hz⟩
  obtain ⟨x3, st3, hx3⟩ : ∃ x s, textP st2 = (x, s) := ⟨_, _, rfl⟩
  rw [hx3] at hR ⊢
  have HX3 := hide hx3
  dsimp only at hR ⊢
  have R3 := hide ((unhide R2).kept hT (by show ¬ w.heap.size = b; omega))
  have C3' := hide ((unhide C2).kept hT (by show ¬ w.heap.size + 1 = b; omega))
  have T3' := hide ((unhide T2).trans hT (fun _ _ h => h))
  have S3' := hide hR
  clear hx3 hR hT hz R2 C2 T2 S2
  generalize hs3 : strOfNums x3 = s3 at *
  have HS3 := hide hs3
  clear hs3
  have c3 := (unhide C3').cell 2 rfl
  have f3 := (unhide C3').fro 2
  have g0 := (unhide C3').cell 0 rfl
  have g1 := (unhide C3').cell 1 rfl
  have r0 := (unhide R3).cell 0 rfl
  have q0 := (unhide R3).fro 0
  have r1 := (unhide R3).cell 1 rfl
  have q1 := (unhide R3).fro 1
  have r2 := (unhide R3).cell 2 rfl
  have q2 := (unhide R3).fro 2
  have C3 := hide ((unhide C3').set 2 (.string s3) (by simp))
  have R3s := hide ((unhide R3).other (C := w.heap.size + 1) 2 (.string s3) (by omega))
  have T3 := hide ((unhide T3').setCell ⟨w.heap.size + 1, 2, none⟩ (.string s3) (fun hlt => by simp at hlt; omega))
  have S3 := hide ((unhide S3').other (C := w.heap.size + 1) 2 (.string s3) (by omega))
  simp only [List.set_cons_zero, List.set_cons_succ] at C3
  clear C3' R3 T3' S3'
  have R3 := R3s
  clear R3s
  have hne : w.heap.size + 1 ≠ w.heap.size := by omega
  go_wp2_with fail
  refine bodyPost_ret (v := .agg #[.int .i64 x1, .int .i64 x2, .string s3]) (by simp [results, Try.results55, go_sem, r0, r1, r2]) rfl ⟨?_, ?_, ?_⟩
  · have e : (entP st).1 = (x1, x2, s3) := by simp only [entP, unhide HX1, unhide HX2, unhide HX3, unhide HS3]
    rw [e]; rfl
  · have e : (entP st).2 = st3 := by simp only [entP, unhide HX1, unhide HX2, unhide HX3]
    rw [e]
    exact (((unhide S3).other 0 _ hb).other 1 _ hb).other 2 _ hb
  · exact (((unhide T3).setCell _ _ (fun hlt => by simp at hlt)).setCell _ _ (fun hlt => by simp at hlt)).setCell _ _ (fun hlt => by simp at hlt)
end Go.Proofs.Ytpdjfjapdmopoaa
