/- What the laws do with commands: szCommand, toCommand; and a command that came in, opened. -/
import Derived.Test.YtfcnemafbefofahCmd
import Derived.Deep.Fields
namespace Go.Proofs.Ytfcnemafbefofah
open Go.ChangeShapes Go.WideShapes Go.ChangeAt Go.RowKit Go.Deep
set_option linter.unusedVariables false

theorem array5 {α : Type} {cs : Array α} (h : cs.size = 5) : ∃ c0 c1 c2 c3 c4, cs = #[c0, c1, c2, c3, c4] := by
  obtain ⟨l⟩ := cs
  match l, h with
  | [c0, c1, c2, c3, c4], _ => exact ⟨c0, c1, c2, c3, c4, rfl⟩
theorem get_some {α : Type} {l : List α} {i n : Nat} (hl : l.length = n) (hi : i < n) : ∃ x, l[i]? = some x := by
  subst hl; exact ⟨l[i], List.getElem?_eq_getElem hi⟩
theorem open_cmd {H : Type} {enc : TypeId × Value → H} {W : World} {base b0 : Nat} {r : Reach} {sp : Nat → Bool} {held : Bool} {v : Value} {d : DataW H} {p : List MemPlace}
    (hv : Value.okWide Try.prog W r b0 31 v) (h : DataW.Trod enc Try.prog W base sp held 31 v d p) :
    ∃ (k s q : Int) (key val : ByteArray), v = .agg #[.int .i64 k, .int .i64 s, .int .i64 q, .string key, .string val] ∧ (Lit.int .i64 k).wf = true ∧ (Lit.int .i64 s).wf = true ∧ (Lit.int .i64 q).wf = true ∧ key.size ≤ maxLen ∧ val.size ≤ maxLen := by
  obtain ⟨cs, rfl, hsz⟩ := okWide_struct Try.underlying31 hv
  have hC : Try.prog.cellsOf 31 = 5 := by kernel_rfl
  obtain ⟨c0, c1, c2, c3, c4, rfl⟩ := array5 (hsz.trans hC)
  obtain ⟨fuel, hf⟩ := h
  obtain ⟨xs, n, _, _, _, hlen, hfl⟩ := DataW.trod_struct Try.underlying31 hf
  have i3 : Try.prog.cellsOf 3 = 1 := by kernel_rfl
  have i9 : Try.prog.cellsOf 9 = 1 := by kernel_rfl
  obtain ⟨y0, e0⟩ := get_some hlen (show 0 < 5 by omega)
  obtain ⟨y1, e1⟩ := get_some hlen (show 1 < 5 by omega)
  obtain ⟨y2, e2⟩ := get_some hlen (show 2 < 5 by omega)
  obtain ⟨y3, e3⟩ := get_some hlen (show 3 < 5 by omega)
  obtain ⟨y4, e4⟩ := get_some hlen (show 4 < 5 by omega)
  have g0 : DataW.trod enc Try.prog W base sp held n 3 [c0] = some y0 := by simpa [Value.cells, i3] using (hfl 0 _ rfl).trans e0
  have g1 : DataW.trod enc Try.prog W base sp held n 3 [c1] = some y1 := by simpa [Value.cells, i3] using (hfl 1 _ rfl).trans e1
  have g2 : DataW.trod enc Try.prog W base sp held n 3 [c2] = some y2 := by simpa [Value.cells, i3] using (hfl 2 _ rfl).trans e2
  have g3 : DataW.trod enc Try.prog W base sp held n 9 [c3] = some y3 := by simpa [Value.cells, i9] using (hfl 3 _ rfl).trans e3
  have g4 : DataW.trod enc Try.prog W base sp held n 9 [c4] = some y4 := by simpa [Value.cells, i9] using (hfl 4 _ rfl).trans e4
  obtain ⟨a0, f0, _, q0⟩ := DataW.trod_int Try.underlying3 g0
  obtain ⟨a1, f1, _, q1⟩ := DataW.trod_int Try.underlying3 g1
  obtain ⟨a2, f2, _, q2⟩ := DataW.trod_int Try.underlying3 g2
  obtain ⟨a3, f3, _, q3⟩ := DataW.trod_string Try.underlying9 g3
  obtain ⟨a4, f4, _, q4⟩ := DataW.trod_string Try.underlying9 g4
  simp only [List.cons.injEq, and_true] at f0 f1 f2 f3 f4
  subst f0 f1 f2 f3 f4
  exact ⟨a0, a1, a2, a3, a4, rfl, q0, q1, q2, q3, q4⟩

set_option maxRecDepth 100000 in
set_option maxHeartbeats 1000000 in
theorem szCommand_yes (k s q : Int) (key val : ByteArray) (w : World) (h : key.size + val.size ≤ 1048576) :
    Calls Try.prog 15 #[.agg #[.int .i64 k, .int .i64 s, .int .i64 q, .string key, .string val], .int .i64 1048576] w fun e w' => e = .returned (.int .i64 (1048576 - (key.size : Int) - (val.size : Int))) ∧ Below w.heap.size w w' := by
  go_enter Try.func15, Try.ntmps15
  go_wp2_with fail
  go_ret
  exact ⟨rfl, (Below.refl _ _).alloc (Nat.le_refl _) _⟩
set_option maxRecDepth 100000 in
set_option maxHeartbeats 1000000 in
theorem szCommand_no (k s q : Int) (key val : ByteArray) (w : World) (hk : key.size ≤ maxLen) (hv : val.size ≤ maxLen) (h : 1048576 < key.size + val.size) :
    Calls Try.prog 15 #[.agg #[.int .i64 k, .int .i64 s, .int .i64 q, .string key, .string val], .int .i64 1048576] w fun e w' => e = .returned (.int .i64 (-1)) ∧ Below w.heap.size w w' := by
  unfold maxLen at hk hv
  by_cases h1 : 1048576 < key.size
  · go_enter Try.func15, Try.ntmps15
    go_wp2_with fail
    go_ret
    exact ⟨rfl, (Below.refl _ _).alloc (Nat.le_refl _) _⟩
  · go_enter Try.func15, Try.ntmps15
    go_wp2_with fail
    go_ret
    exact ⟨rfl, (Below.refl _ _).alloc (Nat.le_refl _) _⟩
set_option maxRecDepth 100000 in
set_option maxHeartbeats 1000000 in
theorem toCommand_any (k s q : Int) (key val : ByteArray) (w : World) :
    Calls Try.prog 17 #[.agg #[.int .i64 k, .int .i64 s, .int .i64 q, .string key, .string val]] w fun e w' => e = .returned (.agg #[.int .i64 k, .int .i64 s, .int .i64 q, .string key, .string val]) ∧ Below w.heap.size w w' := by
  go_enter Try.func17, Try.ntmps17
  go_wp2_with fail
  refine bodyPost_ret (v := .agg #[.int .i64 k, .int .i64 s, .int .i64 q, .string key, .string val]) (by simp [results, Try.results17, go_sem]) rfl ⟨rfl, ?_⟩
  exact (((Below.refl _ _).alloc (Nat.le_refl _) _).alloc (by simp) _).alloc (by simp; omega) _
end Go.Proofs.Ytfcnemafbefofah
