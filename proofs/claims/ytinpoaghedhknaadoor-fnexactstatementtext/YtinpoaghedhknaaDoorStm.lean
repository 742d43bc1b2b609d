/- Statements and trusts: opened, weighed, copied; whether they are right, in both packages. -/
import Derived.Test.YtinpoaghedhknaaDoorHf
import Derived.Test.YtinpoaghedhknaaDoorLawG
import Derived.Deep.Fields
import Derived.Laws.Cover1
import Derived.Laws.StructEq
namespace Go.Proofs.YtinpoaghedhknaaDoor
open Go.ChangeShapes Go.WideShapes Go.ChangeAt Go.RowKit Go.Deep
set_option linter.unusedVariables false
set_option maxRecDepth 100000

theorem array3 {α : Type} {cs : Array α} (h : cs.size = 3) : ∃ c0 c1 c2, cs = #[c0, c1, c2] := by
  obtain ⟨l⟩ := cs
  match l, h with
  | [c0, c1, c2], _ => exact ⟨c0, c1, c2, rfl⟩
theorem arr5 {α : Type} {cs : Array α} (h : cs.size = 5) : ∃ c0 c1 c2 c3 c4, cs = #[c0, c1, c2, c3, c4] := by
  obtain ⟨l⟩ := cs
  match l, h with
  | [c0, c1, c2, c3, c4], _ => exact ⟨c0, c1, c2, c3, c4, rfl⟩
theorem open_stm {H : Type} {enc : TypeId × Value → H} {W : World} {base b0 : Nat} {r : Reach} {sp : Nat → Bool} {held : Bool} {v : Value} {d : DataW H} {p : List MemPlace}
    (hv : Value.okWide Tryd.prog W r b0 42 v) (h : DataW.Trod enc Tryd.prog W base sp held 42 v d p) :
    ∃ (z : Int) (lg mp : ByteArray), v = .agg #[.int .i64 z, .string lg, .string mp] ∧ (Lit.int .i64 z).wf = true ∧ lg.size ≤ maxLen ∧ mp.size ≤ maxLen := by
  obtain ⟨cs, rfl, hsz⟩ := okWide_struct Tryd.underlying42 hv
  have hC : Tryd.prog.cellsOf 42 = 3 := by kernel_rfl
  obtain ⟨c0, c1, c2, rfl⟩ := array3 (hsz.trans hC)
  obtain ⟨fuel, hf⟩ := h
  obtain ⟨xs, n, _, _, _, hlen, hfl⟩ := DataW.trod_struct Tryd.underlying42 hf
  have i3 : Tryd.prog.cellsOf 3 = 1 := by kernel_rfl
  have i9 : Tryd.prog.cellsOf 9 = 1 := by kernel_rfl
  obtain ⟨y0, e0⟩ := get_some hlen (show 0 < 3 by omega)
  obtain ⟨y1, e1⟩ := get_some hlen (show 1 < 3 by omega)
  obtain ⟨y2, e2⟩ := get_some hlen (show 2 < 3 by omega)
  have g0 : DataW.trod enc Tryd.prog W base sp held n 3 [c0] = some y0 := by simpa [Value.cells, i3] using (hfl 0 _ rfl).trans e0
  have g1 : DataW.trod enc Tryd.prog W base sp held n 9 [c1] = some y1 := by simpa [Value.cells, i9] using (hfl 1 _ rfl).trans e1
  have g2 : DataW.trod enc Tryd.prog W base sp held n 9 [c2] = some y2 := by simpa [Value.cells, i9] using (hfl 2 _ rfl).trans e2
  obtain ⟨a0, f0, _, q0⟩ := DataW.trod_int Tryd.underlying3 g0
  obtain ⟨a1, f1, _, q1⟩ := DataW.trod_string Tryd.underlying9 g1
  obtain ⟨a2, f2, _, q2⟩ := DataW.trod_string Tryd.underlying9 g2
  simp only [List.cons.injEq, and_true] at f0 f1 f2
  subst f0 f1 f2
  exact ⟨a0, a1, a2, rfl, q0, q1, q2⟩
set_option maxHeartbeats 1000000 in
theorem szStatement_yes (z l : Int) (lg mp : ByteArray) (w : World) (hl0 : 0 ≤ l) (hl : l ≤ 1048576) (h1 : (lg.size : Int) ≤ l) (h2 : (lg.size : Int) + (mp.size : Int) ≤ l) :
    Calls Tryd.prog 10 #[.agg #[.int .i64 z, .string lg, .string mp], .int .i64 l] w fun e w' => e = .returned (.int .i64 (l - (lg.size : Int) - (mp.size : Int))) ∧ Below w.heap.size w w' := by
  go_enter Tryd.func10, Tryd.ntmps10
  go_wp2_with fail
  go_ret
  exact ⟨rfl, (Below.refl _ _).alloc (Nat.le_refl _) _⟩
set_option maxHeartbeats 1000000 in
theorem szStatement_no (z l : Int) (lg mp : ByteArray) (w : World) (hl0 : 0 ≤ l) (hl : l ≤ 1048576) (hk : lg.size ≤ maxLen) (hv : mp.size ≤ maxLen) (h : l < (lg.size : Int) + (mp.size : Int)) :
    Calls Tryd.prog 10 #[.agg #[.int .i64 z, .string lg, .string mp], .int .i64 l] w fun e w' => e = .returned (.int .i64 (-1)) ∧ Below w.heap.size w w' := by
  unfold maxLen at hk hv
  by_cases h1 : l < (lg.size : Int)
  · go_enter Tryd.func10, Tryd.ntmps10
    go_wp2_with fail
    go_ret
    exact ⟨rfl, (Below.refl _ _).alloc (Nat.le_refl _) _⟩
  · go_enter Tryd.func10, Tryd.ntmps10
    go_wp2_with fail
    go_ret
    exact ⟨rfl, (Below.refl _ _).alloc (Nat.le_refl _) _⟩
set_option maxHeartbeats 1000000 in
theorem toStatement_any (z : Int) (lg mp : ByteArray) (w : World) :
    Calls Tryd.prog 12 #[.agg #[.int .i64 z, .string lg, .string mp]] w fun e w' => e = .returned (.agg #[.int .i64 z, .string lg, .string mp]) ∧ Below w.heap.size w w' := by
  go_enter Tryd.func12, Tryd.ntmps12
  go_wp2_with fail
  refine bodyPost_ret (v := .agg #[.int .i64 z, .string lg, .string mp]) (by simp [results, Tryd.results12, go_sem]) rfl ⟨rfl, ?_⟩
  exact (((Below.refl _ _).alloc (Nat.le_refl _) _).alloc (by simp) _).alloc (by simp; omega) _

/-- A statement is right. -/
def stmB (z : Int) (lg mp : ByteArray) : Bool := inB z 0 50 && (decide (lg.size = 32) && decide (mp.size = 32))
theorem stmB_iff {z : Int} {lg mp : ByteArray} : stmB z lg mp = true ↔ (0 ≤ z ∧ z ≤ 50) ∧ lg.size = 32 ∧ mp.size = 32 := by
  unfold stmB; rw [Bool.and_eq_true, Bool.and_eq_true, inB_iff]; simp
set_option maxHeartbeats 1000000 in
theorem statementOK_any (z : Int) (lg mp : ByteArray) (w : World) (hl : lg.size ≤ maxLen) (hm : mp.size ≤ maxLen) :
    Calls Tryd.prog 29 #[.agg #[.int .i64 z, .string lg, .string mp]] w fun e w' => e = .returned (.bool (stmB z lg mp)) ∧ Below w.heap.size w w' := by
  have B0 := hide ((Below.refl w.heap.size w).alloc (Nat.le_refl _) (.cells #[.int .i64 z, .string lg, .string mp] 45))
  have HV : Hid (stmB z lg mp = (inB z 0 50 && (decide (lg.size = 32) && decide (mp.size = 32)))) := rfl
  have H1 := hide (fun wx => within_any z 0 50 wx)
  have H2 := hide (fun wx => notHash_any lg wx hl)
  have H3 := hide (fun wx => notHash_any mp wx hm)
  clear hl hm
  generalize inB z 0 50 = a at *
  generalize decide (lg.size = 32) = b at *
  generalize decide (mp.size = 32) = c at *
  go_enter Tryd.func29, Tryd.ntmps29
  go_wp2_with fail
  refine (unhide H1 _).mono ?_
  rintro e w' ⟨rfl, rfl⟩
  cases a
  · go_wp2_with fail
    go_ret
    exact ⟨ret_bool (unhide HV).symm, unhide B0⟩
  go_wp2_with fail
  refine (unhide H2 _).mono ?_
  rintro e w' ⟨rfl, rfl⟩
  cases b
  · go_wp2_with fail
    go_ret
    exact ⟨ret_bool (unhide HV).symm, unhide B0⟩
  go_wp2_with fail
  refine (unhide H3 _).mono ?_
  rintro e w' ⟨rfl, rfl⟩
  cases c
  all_goals
    go_wp2_with fail
    go_ret
    exact ⟨ret_bool (unhide HV).symm, unhide B0⟩
set_option maxHeartbeats 1000000 in
theorem l15Statement_any (z : Int) (lg mp : ByteArray) (w : World) (hl : lg.size ≤ maxLen) (hm : mp.size ≤ maxLen) :
    Calls Tryd.prog 27 #[.agg #[.int .i64 z, .string lg, .string mp]] w fun e w' => e = .returned (.bool (stmB z lg mp)) ∧ Below w.heap.size w w' := by
  unfold maxLen at hl hm
  have B0 := hide ((Below.refl w.heap.size w).alloc (Nat.le_refl _) (.cells #[.int .i64 z, .string lg, .string mp] 45))
  have HV : Hid (stmB z lg mp = (inB z 0 50 && (decide (lg.size = 32) && decide (mp.size = 32)))) := rfl
  have H1 := hide (fun wx => l01In_any z 0 50 wx)
  generalize inB z 0 50 = a at *
  go_enter Tryd.func27, Tryd.ntmps27
  go_wp2_with fail
  refine (unhide H1 _).mono ?_
  rintro e w' ⟨rfl, rfl⟩
  cases a
  · go_wp2_with fail
    go_ret
    exact ⟨ret_bool (unhide HV).symm, unhide B0⟩
  by_cases h1 : lg.size = 32
  · rw [decide_eq_true h1] at HV
    have h1' : (lg.size : Int) = 32 := by omega
    by_cases h2 : mp.size = 32
    · rw [decide_eq_true h2] at HV
      have h2' : ((mp.size : Int) == 32) = true := by rw [beq_iff_eq]; omega
      clear h1 h2
      go_wp2_with fail
      go_ret
      exact ⟨ret_bool (unhide HV).symm, unhide B0⟩
    · rw [decide_eq_false h2] at HV
      have h2' : ((mp.size : Int) == 32) = false := by rw [beq_eq_false_iff_ne]; omega
      clear h1 h2
      go_wp2_with fail
      go_ret
      exact ⟨ret_bool (unhide HV).symm, unhide B0⟩
  · rw [decide_eq_false h1] at HV
    have h1' : ¬ (lg.size : Int) = 32 := by omega
    clear h1
    go_wp2_with fail
    go_ret
    exact ⟨ret_bool (unhide HV).symm, unhide B0⟩
/-- A trust is right. -/
def truB (ky : ByteArray) (hs : Bool) (z : Int) (lg mp : ByteArray) : Bool :=
  decide (ky.size = 32) && (if hs = true then stmB z lg mp else decide (z = 0) && (emptyB lg && emptyB mp))
end Go.Proofs.YtinpoaghedhknaaDoor
