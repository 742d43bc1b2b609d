/- Rows known whole; a string put behind a row, at a step of a region. -/
import Derived.Test.YtfihhkhdigbmiaaGreatDoorWrS
namespace Go.Proofs.YtfihhkhdigbmiaaGreatDoor
open Go.ChangeShapes Go.WideShapes Go.ChangeAt Go.RowKit
set_option linter.unusedVariables false

theorem heap_new {w : World} {o : Obj} {k : Nat} (h : w.heap.size = k) : (w.alloc o).heap[k]? = some o := by subst h; exact heap_alloc_new w o
theorem heap_old {w : World} {o : Obj} {k : Nat} (h : k < w.heap.size) : (w.alloc o).heap[k]? = w.heap[k]? := Below.heap_alloc w o k h
/-- A slice of bytes over a block that is known whole. -/
theorem own_lit {w : World} {B X n : Nat} {cs : Array Value} (h : w.heap[X]? = some (.cells cs 5 (0, 0))) (hB : B ≤ X) (hn : cs.size = n) (hm : n ≤ maxLen) : w.ownsRow B 5 1 (.slice (some ⟨X, 0, none⟩) n n) n cs.toList :=
  ⟨by simp [hn], .inr ⟨X, n, cs, rfl, hB, h, Nat.le_refl _, hm, by simp [hn], by rw [Nat.mul_one, ← hn, ← Array.length_toList, List.take_length]⟩⟩
/-- A string's bytes put behind a row of the call's own, at a step of a region that draws. -/
theorem step_append_str {P : Program} (w : World) {ops : Array Oper} {o : Oper} {a : Act} {K : Act → World → Prop} {Q : Exit → Act → World → Prop} {E : Prop} (hgd : o.guard = none) (sl x : Operand) (t u : TypeId)
    (ho : o.op = .call { callee := .builtin .append, args := #[sl, x], argTypes := #[t, u] })
    (base : Nat) (e : TypeId) (i : TypeInfo) (ht : P.underlying t = some (.slice e)) (hu : P.underlying u = some .string) (hi : P.info? e = some i) (hz : i.zero = some (.int .u8 0)) (hsize : i.size = 1) (hby : i.bytes = 1)
    (v : Value) (n : Nat) (xs : List Value) (hs : a.eval sl = v) (hown : w.ownsRow base e 1 v n xs) (s : ByteArray) (hx : a.eval x = .string s) (hpos : 0 < n + s.size) (hb : n + s.size ≤ 140737488355328) (hbase : base ≤ w.heap.size)
    (h : ∀ g cap w', w'.ownsRow base e 1 (.slice (some ⟨g, 0, none⟩) (n + s.size) cap) (n + s.size) (xs ++ Lib.strCells s) → w.grownBy w' v.ownBlock → (v.ownBlock = some g ∨ g = w.heap.size) → K (a.put o.dst (.slice (some ⟨g, 0, none⟩) (n + s.size) cap)) w') :
    if Region.wanted o (yielded ops a.tmps) = true then Oper.wp P o a w K Q else E := by
  have hw : Region.wanted o (yielded ops a.tmps) = true := by simp [Region.wanted, hgd]
  rw [if_pos hw]
  obtain ⟨v', w', hr, h2, h3, h4⟩ := Lib.run_append_own_string (P := P) w base t u o.type e i ht hu hi hz hsize hby v n xs hown s (by unfold maxLen; omega) hb hbase
  unfold Oper.wp execOp
  simp only [ho, resolve, invoke, builtin, Sem.run_bind, Sem.run_pure, Result.andThen_ok, List.map_toArray, List.map_cons, List.map_nil, hs, hx, hr]
  obtain ⟨g, cap, rfl, _, _⟩ := h2.form hpos
  refine h g cap w' h2 h3 ?_
  rcases str_lies ht hu hi hz hsize hby hown hb hr h4 with e | e
  · left; rw [← e]; rfl
  · right; simpa [Value.ownBlock] using e

theorem own_empty (w : World) (B X : Nat) (hX : w.heap.size = X) (hB : B ≤ X) : OwnB B (w.alloc (.cells #[] 5)) (.slice (some ⟨X, 0, none⟩) 0 0) [] :=
  ⟨own_lit (heap_new hX) hB rfl (by unfold maxLen; omega), fun i => by simp⟩
end Go.Proofs.YtfihhkhdigbmiaaGreatDoor
