/- The reader's texts, whether it is done, a command read: impl. -/
import Derived.Test.YtfcnemafbefofahRd
import Derived.Test.YtfcnemafbefofahBlk
namespace Go.Proofs.Ytfcnemafbefofah
open Go.ChangeShapes Go.WideShapes Go.ChangeAt Go.RowKit
set_option linter.unusedVariables false
set_option linter.unusedSimpArgs false

def rangeP : Option (List Int) → Prop
  | none => True
  | some rs => ∀ i, 0 ≤ rs.getD i 0 ∧ rs.getD i 0 ≤ 255
theorem Rd.range {w : World} {b : Nat} {st : Option (List Int)} (h : Rd w b st) : rangeP st := by
  cases st with
  | none => trivial
  | some rs => obtain ⟨⟨v, _, _, _, _, _, _, _, hr⟩, _⟩ := h; exact hr
theorem takeP_range {st : Option (List Int)} (h : rangeP st) (n : Nat) : (∀ i, 0 ≤ (takeP n st).1.getD i 0 ∧ (takeP n st).1.getD i 0 ≤ 255) ∧ rangeP (takeP n st).2 := by
  cases st with
  | none => exact ⟨fun i => by simp [takeP], trivial⟩
  | some rs =>
    by_cases hle : n ≤ rs.length
    · simp only [takeP, hle, if_true]; exact ⟨range_take n h, range_drop n h⟩
    · simp only [takeP, hle, if_false]; exact ⟨fun i => by simp, trivial⟩
theorem num1_range {st : Option (List Int)} (h : rangeP st) : 0 ≤ (numP 1 st).1 ∧ (numP 1 st).1 ≤ 255 := by
  have hl := takeP_len 1 st
  have hr := (takeP_range h 1).1
  show 0 ≤ dec (takeP 1 st).1 ∧ dec (takeP 1 st).1 ≤ 255
  have hd := decN_lo _ hr (takeP 1 st).1.length
  unfold dec
  rcases (show (takeP 1 st).1.length = 0 ∨ (takeP 1 st).1.length = 1 by omega) with e | e
  · rw [e] at hd ⊢; simp at hd; omega
  · rw [e] at hd ⊢; simp at hd; omega
theorem ret_str {a b : ByteArray} (h : a = b) : Ending.returned (.string a) = .returned (.string b) := by rw [h]
def textP (st : Option (List Int)) : List Int × Option (List Int) := takeP (numP 1 st).1.toNat (numP 1 st).2
theorem conv_rd {P : Program} {w : World} {b : Nat} {v : Value} {l : List Int} (src dst e : TypeId)
    (hs : P.underlying src = some (.slice e)) (he : P.underlying e = some (.int .u8)) (hd : P.underlying dst = some .string)
    (h : RdV w b v l) : (convert src dst v).run P w = .ok (.string (strOfNums l)) w := by
  obtain ⟨a, cap, rfl, _, _, hc, _⟩ := h
  rcases hc with ⟨rfl, rfl⟩ | ⟨c, off, rfl, _, hcell⟩
  · have : l.length = 0 := by omega
    obtain rfl := List.eq_nil_of_length_eq_zero this
    exact run_convert_bytes_nil w src e hs he 0 0 dst hd
  · exact run_convert_bytes_arg w src e hs he c off l.length cap l rfl hcell dst hd

set_option maxRecDepth 100000 in
set_option maxHeartbeats 1000000 in
theorem implText_any (b : Nat) (st : Option (List Int)) (w : World) (h : Rd w b st) :
    Calls Try.prog 51 #[.pointer (some ⟨b, 0, none⟩)] w fun e w' => e = .returned (.string (strOfNums (textP st).1)) ∧ Rd w' b (textP st).2 ∧ Touch (fun k => k = b) w w' ∧ w'.heap.size = w.heap.size := by
  have H := hide h
  have hr := num1_range h.range
  have HP : Hid (textP st = takeP (numP 1 st).1.toNat (numP 1 st).2) := rfl
  clear h
  go_enter Try.func51, Try.ntmps51
  go_wp2_with fail
  refine (implNumber_any 1 1 rfl b st w (unhide H) (by omega)).mono ?_
  rintro e w1 ⟨rfl, hR1, hT1, hz1⟩
  have R1 := hide (And.intro hR1 (And.intro hT1 hz1))
  clear hR1 hT1 hz1 H
  generalize (numP 1 st).1 = x at *
  generalize (numP 1 st).2 = st1 at *
  obtain ⟨n, rfl⟩ : ∃ n : Nat, x = (n : Int) := ⟨x.toNat, by omega⟩
  rw [Int.toNat_natCast] at HP
  go_wp2_with fail
  refine (take_any n b st1 w1 (unhide R1).1 (by omega)).mono ?_
  rintro e w2 ⟨v2, rfl, hv2, hR2, hT2, hz2⟩
  have hcv := conv_rd (P := Try.prog) 22 9 5 Try.underlying22 Try.underlying5 Try.underlying9 hv2
  have R2 := hide (And.intro hR2 (And.intro hT2 hz2))
  clear hR2 hT2 hz2 hv2
  generalize hs2 : strOfNums (takeP n st1).1 = s2 at *
  have HS := hide hs2
  clear hs2
  go_wp2_with fail
  go_ret
  rw [unhide HP]
  exact ⟨ret_str (unhide HS).symm, (unhide R2).1, (unhide R1).2.1.trans (unhide R2).2.1 (fun _ _ h => h), by rw [(unhide R2).2.2, (unhide R1).2.2]⟩

def doneP : Option (List Int) → Bool
  | some [] => true
  | _ => false
set_option maxRecDepth 100000 in
set_option maxHeartbeats 1000000 in
theorem done_any (b : Nat) (st : Option (List Int)) (w : World) (h : Rd w b st) :
    Calls Try.prog 43 #[.pointer (some ⟨b, 0, none⟩)] w fun e w' => e = .returned (.bool (doneP st)) ∧ w' = w := by
  cases st with
  | none =>
    obtain ⟨c0, c1, _, _⟩ := h
    go_enter Try.func43, Try.ntmps43
    go_wp2_with fail
    go_ret
    exact ⟨rfl, rfl⟩
  | some rs =>
    obtain ⟨⟨v, c0, a, cap, rfl, hc1, hc2, _, _⟩, c1, _, _⟩ := h
    unfold maxLen at hc2
    cases rs with
    | nil =>
      simp only [List.length_nil] at c0
      go_enter Try.func43, Try.ntmps43
      go_wp2_with fail
      go_ret
      exact ⟨rfl, rfl⟩
    | cons x r =>
      have hx : (((x :: r).length : Int) == 0) = false := by simp; omega
      generalize (x :: r).length = n at *
      go_enter Try.func43, Try.ntmps43
      go_wp2_with fail
      go_ret
      exact ⟨rfl, rfl⟩

/-- What is read as a command. -/
def cmdP (st : Option (List Int)) : (Int × Int × Int × ByteArray × ByteArray) × Option (List Int) :=
  (((numP 1 st).1, (numP 2 (numP 1 st).2).1, (numP 2 (numP 2 (numP 1 st).2).2).1, strOfNums (textP (numP 2 (numP 2 (numP 1 st).2).2).2).1, strOfNums (textP (textP (numP 2 (numP 2 (numP 1 st).2).2).2).2).1), (textP (textP (numP 2 (numP 2 (numP 1 st).2).2).2).2).2)
def cmdVal (c : Int × Int × Int × ByteArray × ByteArray) : Value := .agg #[.int .i64 c.1, .int .i64 c.2.1, .int .i64 c.2.2.1, .string c.2.2.2.1, .string c.2.2.2.2]
theorem Rd.alloc {w : World} {b : Nat} {st : Option (List Int)} (h : Rd w b st) (o : Obj) : Rd (w.alloc o) b st := h.kept (T := fun _ => False) ((Touch.refl _ _).alloc o) (fun _ _ h => h)
theorem Rd.other {w : World} {b C : Nat} {st : Option (List Int)} (h : Rd w b st) (j : Nat) (v : Value) (hne : b < C) : Rd (w.setCell ⟨C, j, none⟩ v) b st :=
  h.kept (T := fun k => k = C) ((Touch.refl _ _).setCell _ _ (fun _ => rfl)) (fun k hk e => by omega)

set_option maxRecDepth 100000 in
set_option maxHeartbeats 1000000 in
theorem implCommand_any (b : Nat) (st : Option (List Int)) (w : World) (h : Rd w b st) :
    Calls Try.prog 42 #[.pointer (some ⟨b, 0, none⟩)] w fun e w' => e = .returned (cmdVal (cmdP st).1) ∧ Rd w' b (cmdP st).2 ∧ Touch (fun k => k = b) w w' := by
  have hb := h.lt
  have H0 := hide h
  clear h
  go_enter Try.func42, Try.ntmps42
  go_wp2_with fail
  have D0 := hide (Blk.new w #[.int .i64 0, .int .i64 0, .int .i64 0, .string ⟨#[]⟩, .string ⟨#[]⟩] 34 w.heap.size rfl)
  have R0 := hide ((unhide D0).alloc (.cells #[.int .i64 0, .int .i64 0, .int .i64 0, .string ⟨#[]⟩, .string ⟨#[]⟩] 34))
  have C0 := hide (Blk.new (w.alloc (.cells #[.int .i64 0, .int .i64 0, .int .i64 0, .string ⟨#[]⟩, .string ⟨#[]⟩] 34)) #[.int .i64 0, .int .i64 0, .int .i64 0, .string ⟨#[]⟩, .string ⟨#[]⟩] 34 (w.heap.size + 1) (by simp))
  have T0 := hide (((Touch.refl (fun k => k = b) w).alloc (.cells #[.int .i64 0, .int .i64 0, .int .i64 0, .string ⟨#[]⟩, .string ⟨#[]⟩] 34)).alloc (.cells #[.int .i64 0, .int .i64 0, .int .i64 0, .string ⟨#[]⟩, .string ⟨#[]⟩] 34))
  have S0 := hide (((unhide H0).alloc (.cells #[.int .i64 0, .int .i64 0, .int .i64 0, .string ⟨#[]⟩, .string ⟨#[]⟩] 34)).alloc (.cells #[.int .i64 0, .int .i64 0, .int .i64 0, .string ⟨#[]⟩, .string ⟨#[]⟩] 34))
  clear D0 H0
  generalize (w.alloc (.cells #[.int .i64 0, .int .i64 0, .int .i64 0, .string ⟨#[]⟩, .string ⟨#[]⟩] 34)).alloc (.cells #[.int .i64 0, .int .i64 0, .int .i64 0, .string ⟨#[]⟩, .string ⟨#[]⟩] 34) = w0 at *
  refine (implNumber_any 1 1 rfl b st _ (unhide S0) (by omega)).mono ?_
  rintro e w1 ⟨rfl, hR, hT, hz⟩
  obtain ⟨x1, st1, hx1⟩ : ∃ x s, numP 1 st = (x, s) := ⟨_, _, rfl⟩
  rw [hx1] at hR ⊢
  have HX1 := hide hx1
  dsimp only at hR ⊢
  have R1 := hide ((unhide R0).kept hT (by show ¬ w.heap.size = b; omega))
  have C1' := hide ((unhide C0).kept hT (by show ¬ w.heap.size + 1 = b; omega))
  have T1' := hide ((unhide T0).trans hT (fun _ _ h => h))
  have S1' := hide hR
  clear hx1 hR hT hz R0 C0 T0 S0
  have c1 := (unhide C1').cell 0 rfl
  have f1 := (unhide C1').fro 0
  have C1 := hide ((unhide C1').set 0 (.int .i64 x1) (by simp))
  have R1s := hide ((unhide R1).other (C := w.heap.size + 1) 0 (.int .i64 x1) (by omega))
  have T1 := hide ((unhide T1').setCell ⟨w.heap.size + 1, 0, none⟩ (.int .i64 x1) (fun hlt => by simp at hlt; omega))
  have S1 := hide ((unhide S1').other (C := w.heap.size + 1) 0 (.int .i64 x1) (by omega))
  simp only [List.set_cons_zero, List.set_cons_succ] at C1
  clear C1' R1 T1' S1'
  have R1 := R1s
  clear R1s
  go_wp2_with fail
  clear c1 f1
  generalize w1.setCell ⟨w.heap.size + 1, 0, none⟩ (.int .i64 x1) = w1s at *
  refine (implNumber_any 2 2 rfl b st1 _ (unhide S1) (by omega)).mono ?_
  rintro e w2 ⟨rfl, hR, hT, hz⟩
  obtain ⟨x2, st2, hx2⟩ : ∃ x s, numP 2 st1 = (x, s) := ⟨_, _, rfl⟩
  rw [hx2] at hR ⊢
  have HX2 := hide hx2
  dsimp only at hR ⊢
  have R2 := hide ((unhide R1).kept hT (by show ¬ w.heap.size = b; omega))
  have C2' := hide ((unhide C1).kept hT (by show ¬ w.heap.size + 1 = b; omega))
  have T2' := hide ((unhide T1).trans hT (fun _ _ h => h))
  have S2' := hide hR
  clear hx2 hR hT hz R1 C1 T1 S1
  have c2 := (unhide C2').cell 1 rfl
  have f2 := (unhide C2').fro 1
  have C2 := hide ((unhide C2').set 1 (.int .i64 x2) (by simp))
  have R2s := hide ((unhide R2).other (C := w.heap.size + 1) 1 (.int .i64 x2) (by omega))
  have T2 := hide ((unhide T2').setCell ⟨w.heap.size + 1, 1, none⟩ (.int .i64 x2) (fun hlt => by simp at hlt; omega))
  have S2 := hide ((unhide S2').other (C := w.heap.size + 1) 1 (.int .i64 x2) (by omega))
  simp only [List.set_cons_zero, List.set_cons_succ] at C2
  clear C2' R2 T2' S2'
  have R2 := R2s
  clear R2s
  go_wp2_with fail
  clear c2 f2
  generalize w2.setCell ⟨w.heap.size + 1, 1, none⟩ (.int .i64 x2) = w2s at *
  refine (implNumber_any 2 2 rfl b st2 _ (unhide S2) (by omega)).mono ?_
  rintro e w3 ⟨rfl, hR, hT, hz⟩
  obtain ⟨x3, st3, hx3⟩ : ∃ x s, numP 2 st2 = (x, s) := ⟨_, _, rfl⟩
  rw [hx3] at hR ⊢
  have HX3 := hide hx3
  dsimp only at hR ⊢
  have R3 := hide ((unhide R2).kept hT (by show ¬ w.heap.size = b; omega))
  have C3' := hide ((unhide C2).kept hT (by show ¬ w.heap.size + 1 = b; omega))
  have T3' := hide ((unhide T2).trans hT (fun _ _ h => h))
  have S3' := hide hR
  clear hx3 hR hT hz R2 C2 T2 S2
  have c3 := (unhide C3').cell 2 rfl
  have f3 := (unhide C3').fro 2
  have C3 := hide ((unhide C3').set 2 (.int .i64 x3) (by simp))
  have R3s := hide ((unhide R3).other (C := w.heap.size + 1) 2 (.int .i64 x3) (by omega))
  have T3 := hide ((unhide T3').setCell ⟨w.heap.size + 1, 2, none⟩ (.int .i64 x3) (fun hlt => by simp at hlt; omega))
  have S3 := hide ((unhide S3').other (C := w.heap.size + 1) 2 (.int .i64 x3) (by omega))
  simp only [List.set_cons_zero, List.set_cons_succ] at C3
  clear C3' R3 T3' S3'
  have R3 := R3s
  clear R3s
  go_wp2_with fail
  clear c3 f3
  generalize w3.setCell ⟨w.heap.size + 1, 2, none⟩ (.int .i64 x3) = w3s at *
  refine (implText_any b st3 _ (unhide S3)).mono ?_
  rintro e w4 ⟨rfl, hR, hT, hz⟩
  obtain ⟨x4, st4, hx4⟩ : ∃ x s, textP st3 = (x, s) := ⟨_, _, rfl⟩
  rw [hx4] at hR ⊢
  have HX4 := hide hx4
  dsimp only at hR ⊢
  have R4 := hide ((unhide R3).kept hT (by show ¬ w.heap.size = b; omega))
  have C4' := hide ((unhide C3).kept hT (by show ¬ w.heap.size + 1 = b; omega))
  have T4' := hide ((unhide T3).trans hT (fun _ _ h => h))
  have S4' := hide hR
  clear hx4 hR hT hz R3 C3 T3 S3
  generalize hs4 : strOfNums x4 = s4 at *
  have HS4 := hide hs4
  clear hs4
  have c4 := (unhide C4').cell 3 rfl
  have f4 := (unhide C4').fro 3
  have C4 := hide ((unhide C4').set 3 (.string s4) (by simp))
  have R4s := hide ((unhide R4).other (C := w.heap.size + 1) 3 (.string s4) (by omega))
  have T4 := hide ((unhide T4').setCell ⟨w.heap.size + 1, 3, none⟩ (.string s4) (fun hlt => by simp at hlt; omega))
  have S4 := hide ((unhide S4').other (C := w.heap.size + 1) 3 (.string s4) (by omega))
  simp only [List.set_cons_zero, List.set_cons_succ] at C4
  clear C4' R4 T4' S4'
  have R4 := R4s
  clear R4s
  go_wp2_with fail
  clear c4 f4
  generalize w4.setCell ⟨w.heap.size + 1, 3, none⟩ (.string s4) = w4s at *
  refine (implText_any b st4 _ (unhide S4)).mono ?_
  rintro e w5 ⟨rfl, hR, hT, hz⟩
  obtain ⟨x5, st5, hx5⟩ : ∃ x s, textP st4 = (x, s) := ⟨_, _, rfl⟩
  rw [hx5] at hR ⊢
  have HX5 := hide hx5
  dsimp only at hR ⊢
  have R5 := hide ((unhide R4).kept hT (by show ¬ w.heap.size = b; omega))
  have C5' := hide ((unhide C4).kept hT (by show ¬ w.heap.size + 1 = b; omega))
  have T5' := hide ((unhide T4).trans hT (fun _ _ h => h))
  have S5' := hide hR
  clear hx5 hR hT hz R4 C4 T4 S4
  generalize hs5 : strOfNums x5 = s5 at *
  have HS5 := hide hs5
  clear hs5
  have c5 := (unhide C5').cell 4 rfl
  have f5 := (unhide C5').fro 4
  have g0 := (unhide C5').cell 0 rfl
  have g1 := (unhide C5').cell 1 rfl
  have g2 := (unhide C5').cell 2 rfl
  have g3 := (unhide C5').cell 3 rfl
  have r0 := (unhide R5).cell 0 rfl
  have q0 := (unhide R5).fro 0
  have r1 := (unhide R5).cell 1 rfl
  have q1 := (unhide R5).fro 1
  have r2 := (unhide R5).cell 2 rfl
  have q2 := (unhide R5).fro 2
  have r3 := (unhide R5).cell 3 rfl
  have q3 := (unhide R5).fro 3
  have r4 := (unhide R5).cell 4 rfl
  have q4 := (unhide R5).fro 4
  have C5 := hide ((unhide C5').set 4 (.string s5) (by simp))
  have R5s := hide ((unhide R5).other (C := w.heap.size + 1) 4 (.string s5) (by omega))
  have T5 := hide ((unhide T5').setCell ⟨w.heap.size + 1, 4, none⟩ (.string s5) (fun hlt => by simp at hlt; omega))
  have S5 := hide ((unhide S5').other (C := w.heap.size + 1) 4 (.string s5) (by omega))
  simp only [List.set_cons_zero, List.set_cons_succ] at C5
  clear C5' R5 T5' S5'
  have R5 := R5s
  clear R5s
  have hne : w.heap.size + 1 ≠ w.heap.size := by omega
  go_wp2_with fail
  refine bodyPost_ret (v := .agg #[.int .i64 x1, .int .i64 x2, .int .i64 x3, .string s4, .string s5]) (by simp [results, Try.results42, go_sem, r0, r1, r2, r3, r4]) rfl ⟨?_, ?_, ?_⟩
  · have e : (cmdP st).1 = (x1, x2, x3, s4, s5) := by simp only [cmdP, unhide HX1, unhide HX2, unhide HX3, unhide HX4, unhide HX5, unhide HS4, unhide HS5]
    rw [e]; rfl
  · have e : (cmdP st).2 = st5 := by simp only [cmdP, unhide HX1, unhide HX2, unhide HX3, unhide HX4, unhide HX5]
    rw [e]
    exact (((((unhide S5).other 0 _ hb).other 1 _ hb).other 2 _ hb).other 3 _ hb).other 4 _ hb
  · exact (((((unhide T5).setCell _ _ (fun hlt => by simp at hlt)).setCell _ _ (fun hlt => by simp at hlt)).setCell _ _ (fun hlt => by simp at hlt)).setCell _ _ (fun hlt => by simp at hlt)).setCell _ _ (fun hlt => by simp at hlt)

end Go.Proofs.Ytfcnemafbefofah
