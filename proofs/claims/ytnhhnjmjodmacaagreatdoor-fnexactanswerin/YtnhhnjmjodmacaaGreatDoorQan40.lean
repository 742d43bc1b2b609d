/- Commands applied one after another, pure; a ledger's rows in memory, and the boxes that they do not lie in. -/
import Derived.Test.YtnhhnjmjodmacaaGreatDoorQan39
namespace Go.Proofs.YtnhhnjmjodmacaaGreatDoor.Sha
open Go.ChangeShapes Go.WideShapes Go.ChangeAt Go.RowKit Go.Deep
set_option linter.unusedVariables false
set_option linter.unusedSimpArgs false
/-- The ledger behind the first so many commands, from nothing. -/
def stA (l : List Cm) : Nat → Lst
  | 0 => ⟨[], none, []⟩
  | k + 1 => (apOut (stA l k) (l.getD k default)).1
/-- The reply to the command at a place. -/
def reA (l : List Cm) (k : Nat) : Re := (apOut (stA l k) (l.getD k default)).2
/-- The replies to the first so many commands. -/
def resA (l : List Cm) (k : Nat) : List Re := (List.range k).map (reA l)
theorem resA_succ (l : List Cm) (k : Nat) : resA l (k + 1) = resA l k ++ [reA l k] := by unfold resA; rw [List.range_succ, List.map_append]; rfl
theorem resA_len (l : List Cm) (k : Nat) : (resA l k).length = k := by simp [resA]
theorem resA_get (l : List Cm) (k i : Nat) (h : i < k) : (resA l k).getD i default = reA l i := by simp [resA, List.getD_eq_getElem?_getD, h]
theorem lok_nil : LOK ⟨[], none, []⟩ := ⟨by simp, by simp, trivial, trivial, trivial, by simp, fun i j _ h => absurd h (by simp), by simp⟩
theorem stA_ok {l : List Cm} : ∀ (k : Nat), (∀ i, i < k → cmK (l.getD i default) = true) → LOK (stA l k)
  | 0, _ => lok_nil
  | k + 1, h => (ap_ok (stA_ok k (fun i hi => h i (by omega))) (h k (by omega))).1
/-- A ledger's rows, none of them in these blocks. -/
structure LedB (T : Nat → Prop) (w : World) (x : Lst) (lv kv sv : Value) : Prop where
  s : Strs w lv x.ls
  b : Brs (fun k => ¬ T k) w kv (brOf x.o).kids
  e : Sess w sv x.ss
  ps : 0 < x.ls.length → ∀ k, lv.ownBlock = some k → ¬ T k
  pe : 0 < x.ss.length → ∀ k, sv.ownBlock = some k → ¬ T k
theorem LedB.below {T : Nat → Prop} {w w' : World} {x : Lst} {lv kv sv : Value} (h : LedB T w x lv kv sv) (hb : Below w.heap.size w w') : LedB T w' x lv kv sv := ⟨h.s.below hb, h.b.blw hb, h.e.below hb, h.ps, h.pe⟩
theorem LedB.touch {T T' : Nat → Prop} {w w' : World} {x : Lst} {lv kv sv : Value} (h : LedB T w x lv kv sv) (ht : Touch T' w w') (hT : ∀ k, T' k → T k) : LedB T w' x lv kv sv :=
  ⟨h.s.touch ht (fun hp k hk e => h.ps hp k hk (hT k e)), h.b.touch ht (fun k hk e => hk (hT k e)), h.e.touch ht (fun hp k hk e => h.pe hp k hk (hT k e)), h.ps, h.pe⟩
theorem LedB.mono {T T' : Nat → Prop} {w : World} {x : Lst} {lv kv sv : Value} (h : LedB T w x lv kv sv) (hT : ∀ k, T' k → T k) : LedB T' w x lv kv sv :=
  ⟨h.s, h.b.mono (fun k hk e => hk (hT k e)), h.e, fun hp k hk e => h.ps hp k hk (hT k e), fun hp k hk e => h.pe hp k hk (hT k e)⟩
theorem Brs.boundS {S : Nat → Prop} {w : World} {v : Value} {l : List Br} (h : Brs S w v l) : Brs (fun x => S x ∧ x < w.heap.size) w v l := by
  induction h with
  | nil a cap hc => exact .nil a cap hc
  | row b off cap l kv h0 h1 h2 h3 h4 h5 h6 h7 ih => exact .row b off cap l kv h0 h1 h2 h3 ⟨h4, h3⟩ h5 h6 ih
/-- Nor in any block that is not there yet. -/
theorem LedB.up {T : Nat → Prop} {w : World} {x : Lst} {lv kv sv : Value} (h : LedB T w x lv kv sv) : LedB (fun k => T k ∨ w.heap.size ≤ k) w x lv kv sv :=
  ⟨h.s, h.b.boundS.mono (fun k hk e => e.elim hk.1 (fun e => by have := hk.2; omega)), h.e, fun hp k hk e => e.elim (h.ps hp k hk) (fun e => by have := h.s.lowB hp k hk; omega), fun hp k hk e => e.elim (h.pe hp k hk) (fun e => by have := h.e.lowB hp k hk; omega)⟩
theorem LedB.next {T : Nat → Prop} {wc w' : World} {x y : Lst} {lv kv sv lv' kv' sv' : Value} (h : LedB T wc x lv kv sv) (hs : Strs w' lv' y.ls) (hb : Brs (fun _ => True) w' kv' (brOf y.o).kids) (he : Sess w' sv' y.ss) (fl : Fresh wc.heap.size lv lv') (fs : Fresh wc.heap.size sv sv') (hT : ∀ k, T k → k < wc.heap.size ∧ Fin w' k 7) : LedB T w' y lv' kv' sv' :=
  ⟨hs, (Brs.smallO (fun k hk => (hT k hk).2) y.o kv' hb).mono (fun k hk => hk.2), he,
   fun hp k hk e => fl.elim (fun q => by subst q; exact h.ps (by rw [h.s.lenE hs]; exact hp) k hk e) (fun q => by have := q k hk; have := (hT k e).1; omega),
   fun hp k hk e => fs.elim (fun q => by subst q; exact h.pe (by rw [h.e.lenE he]; exact hp) k hk e) (fun q => by have := q k hk; have := (hT k e).1; omega)⟩
theorem LedB.nil (T : Nat → Prop) (w : World) : LedB T w ⟨[], none, []⟩ (.slice none 0 0) (.slice none 0 0) (.slice none 0 0) :=
  ⟨⟨none, 0, rfl, by simp, .inl rfl⟩, .nil none 0 (by unfold maxLen; omega), ⟨none, 0, rfl, by simp, by unfold maxLen; omega, .inl rfl⟩, (fun h => absurd h (by simp)), (fun h => absurd h (by simp))⟩
/-- A box that holds a ledger. -/
def ledC (x : Lst) (lv kv sv : Value) : List Value := [lv, .string (brOf x.o).key, .string (brOf x.o).val, .int .i64 (brOf x.o).at_, kv, sv]
theorem LedB.shape {T : Nat → Prop} {w : World} {x : Lst} {lv kv sv : Value} (h : LedB T w x lv kv sv) : ∃ la lc ka kn kc sa sc, lv = .slice la x.ls.length lc ∧ kv = .slice ka kn kc ∧ sv = .slice sa x.ss.length sc := by
  obtain ⟨la, lc, e1, _⟩ := h.s
  obtain ⟨ka, kc, e2, _⟩ := h.b.shape
  obtain ⟨sa, sc, e3, _⟩ := h.e
  exact ⟨la, lc, ka, _, kc, sa, sc, e1, e2, e3⟩
end Go.Proofs.YtnhhnjmjodmacaaGreatDoor.Sha
