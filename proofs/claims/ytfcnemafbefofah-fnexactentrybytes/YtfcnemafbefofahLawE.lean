/- What the laws do with entries: szEntry, toEntry; and an entry that came in, opened. -/
import Derived.Test.YtfcnemafbefofahIn
import Derived.Test.YtfcnemafbefofahLawG
import Derived.Deep.Fields
namespace Go.Proofs.Ytfcnemafbefofah
open Go.ChangeShapes Go.WideShapes Go.ChangeAt Go.RowKit Go.Deep
set_option linter.unusedVariables false

theorem array3' {α : Type} {cs : Array α} (h : cs.size = 3) : ∃ c0 c1 c2, cs = #[c0, c1, c2] := by
  obtain ⟨l⟩ := cs
  match l, h with
  | [c0, c1, c2], _ => exact ⟨c0, c1, c2, rfl⟩
theorem open_ent {H : Type} {enc : TypeId × Value → H} {W : World} {base b0 : Nat} {r : Reach} {sp : Nat → Bool} {held : Bool} {v : Value} {d : DataW H} {p : List MemPlace}
    (hv : Value.okWide Try.prog W r b0 44 v) (h : DataW.Trod enc Try.prog W base sp held 44 v d p) :
    ∃ (t k : Int) (d : ByteArray), v = .agg #[.int .i64 t, .int .i64 k, .string d] ∧ (Lit.int .i64 t).wf = true ∧ (Lit.int .i64 k).wf = true ∧ d.size ≤ maxLen := by
  obtain ⟨cs, rfl, hsz⟩ := okWide_struct Try.underlying44 hv
  have hC : Try.prog.cellsOf 44 = 3 := by kernel_rfl
  obtain ⟨c0, c1, c2, rfl⟩ := array3' (hsz.trans hC)
  obtain ⟨fuel, hf⟩ := h
  obtain ⟨xs, n, _, _, _, hlen, hfl⟩ := DataW.trod_struct Try.underlying44 hf
  have i3 : Try.prog.cellsOf 3 = 1 := by kernel_rfl
  have i9 : Try.prog.cellsOf 9 = 1 := by kernel_rfl
  obtain ⟨y0, e0⟩ := get_some hlen (show 0 < 3 by omega)
  obtain ⟨y1, e1⟩ := get_some hlen (show 1 < 3 by omega)
  obtain ⟨y2, e2⟩ := get_some hlen (show 2 < 3 by omega)
  have g0 : DataW.trod enc Try.prog W base sp held n 3 [c0] = some y0 := by simpa [Value.cells, i3] using (hfl 0 _ rfl).trans e0
  have g1 : DataW.trod enc Try.prog W base sp held n 3 [c1] = some y1 := by simpa [Value.cells, i3] using (hfl 1 _ rfl).trans e1
  have g2 : DataW.trod enc Try.prog W base sp held n 9 [c2] = some y2 := by simpa [Value.cells, i9] using (hfl 2 _ rfl).trans e2
  obtain ⟨a0, f0, _, q0⟩ := DataW.trod_int Try.underlying3 g0
  obtain ⟨a1, f1, _, q1⟩ := DataW.trod_int Try.underlying3 g1
  obtain ⟨a2, f2, _, q2⟩ := DataW.trod_string Try.underlying9 g2
  simp only [List.cons.injEq, and_true] at f0 f1 f2
  subst f0 f1 f2
  exact ⟨a0, a1, a2, rfl, q0, q1, q2⟩

set_option maxRecDepth 100000 in
set_option maxHeartbeats 1000000 in
theorem szEntry_yes (t k : Int) (d : ByteArray) (w : World) (h : d.size ≤ 1048576) :
    Calls Try.prog 26 #[.agg #[.int .i64 t, .int .i64 k, .string d], .int .i64 1048576] w fun e w' => e = .returned (.int .i64 (1048576 - (d.size : Int))) ∧ Below w.heap.size w w' := by
  go_enter Try.func26, Try.ntmps26
  go_wp2_with fail
  go_ret
  exact ⟨rfl, (Below.refl _ _).alloc (Nat.le_refl _) _⟩
set_option maxRecDepth 100000 in
set_option maxHeartbeats 1000000 in
theorem szEntry_no (t k : Int) (d : ByteArray) (w : World) (hd : d.size ≤ maxLen) (h : 1048576 < d.size) :
    Calls Try.prog 26 #[.agg #[.int .i64 t, .int .i64 k, .string d], .int .i64 1048576] w fun e w' => e = .returned (.int .i64 (-1)) ∧ Below w.heap.size w w' := by
  unfold maxLen at hd
  go_enter Try.func26, Try.ntmps26
  go_wp2_with fail
  go_ret
  exact ⟨rfl, (Below.refl _ _).alloc (Nat.le_refl _) _⟩
set_option maxRecDepth 100000 in
set_option maxHeartbeats 1000000 in
theorem toEntry_any (t k : Int) (d : ByteArray) (w : World) :
    Calls Try.prog 28 #[.agg #[.int .i64 t, .int .i64 k, .string d]] w fun e w' => e = .returned (.agg #[.int .i64 t, .int .i64 k, .string d]) ∧ Below w.heap.size w w' := by
  go_enter Try.func28, Try.ntmps28
  go_wp2_with fail
  refine bodyPost_ret (v := .agg #[.int .i64 t, .int .i64 k, .string d]) (by simp [results, Try.results28, go_sem]) rfl ⟨rfl, ?_⟩
  exact (((Below.refl _ _).alloc (Nat.le_refl _) _).alloc (by simp) _).alloc (by simp; omega) _
end Go.Proofs.Ytfcnemafbefofah
