/- A console's line: the map of its readers, looked up. -/
import Derived.Test.YtihhbngpajephaaDoorCnA
import Derived.Maps.Own
import Derived.Maps.OwnOps
import Derived.Deep.Cut
import Derived.Test.YtihhbngpajephaaDoorBlk
namespace Go.Proofs.YtihhbngpajephaaDoor.Sha
open Go.ChangeShapes Go.WideShapes Go.ChangeAt Go.RowKit Go.Maps
set_option linter.unusedVariables false
set_option linter.unusedSimpArgs false

/-- How a function's value reads: by its number. -/
def fR (v : Value) : Option (DataW Unit × List MemPlace) :=
  match v with
  | .func (.func f) a b => if a.size = 0 ∧ b.size = 0 then some (.lit (.int .i64 (f : Int)), []) else none
  | .nilFunc => some (.lit (.int .i64 (-1)), [])
  | _ => none
theorem fR_inv {v : Value} {d : DataW Unit} {ps : List MemPlace} {c : Int} (h : fR v = some (d, ps)) (hd : d = .lit (.int .i64 c)) : (∃ f : Nat, v = .func (.func f) #[] #[] ∧ c = (f : Int)) ∨ (v = .nilFunc ∧ c = -1) := by
  subst hd
  unfold fR at h
  split at h
  · rename_i f a b
    split at h
    · rename_i hab
      simp only [Option.some.injEq, Prod.mk.injEq, DataW.lit.injEq, Lit.int.injEq, true_and] at h
      obtain rfl := Array.eq_empty_of_size_eq_zero hab.1
      obtain rfl := Array.eq_empty_of_size_eq_zero hab.2
      exact .inl ⟨f, rfl, h.1.symm⟩
    · cases h
  · simp only [Option.some.injEq, Prod.mk.injEq, DataW.lit.injEq, Lit.int.injEq, true_and] at h
    exact .inr ⟨rfl, h.1.symm⟩
  · cases h
/-- A map's entry, laid by a literal. -/
theorem wpList_insert_lit {H : Type} {P : Program} (w : World) {ops : Array Oper} {rest : List Oper} {o : Oper} {a : Act} {Q : Exit → Act → World → Prop}
    (hg : o.guard = none) (m x v : Operand) (t : TypeId) (hop : o.op = Op.insert t m x v)
    (k e : TypeId) (K : Keyed P k) (ht : P.underlying t = some (.map k e)) (R : Value → Option (DataW H × List MemPlace)) (b n : Nat) (D : DataW H)
    (hm : a.eval m = .map (some b)) (hown : w.ownsMap P k R b n D) (hn : n < maxLen) (key val : Value) (kl : Lit) (hx : a.eval x = key) (hv : a.eval v = val) (hkey : keyOf P k key = some kl)
    (d : DataW H) (ps : List MemPlace) (hval : R val = some (d, ps))
    (hK : ∀ w', w'.ownsMap P k R b (n + 1) (D.put kl d) → w.grownBy w' (some b) → wpList P ops Q rest (a.put o.dst undef) w') :
    wpList P ops Q (o :: rest) a w := by
  refine wpList_plain hg fun K' hK' => ?_
  obtain ⟨w', hrun, r1, r2⟩ := hown.update K ht hn hkey hval
  unfold Oper.wp
  simp [execOp, hop, hm, hx, hv, hrun, Result.andThen]
  exact hK' _ _ (hK w' r1 r2)
theorem strKey : Keyed Tryd.prog 9 := string_keyed Tryd.underlying9
theorem zeroF (w : World) : (zeroValue 48).run Tryd.prog w = .ok .nilFunc w := by kernel_rfl
theorem grownM {w5 w6 : World} {r : Option Nat} (hg : w5.grownBy w6 r) : Touch (fun q => r = some q) w5 w6 := (Touch.refl _ w5).grown hg (fun q hq _ => hq)
/-- The readers' map, as a literal lays it. -/
def rdrD : DataW Unit := .map [(.string #[97, 100, 100].toList, .lit (.int .i64 (22 : Nat))), (.string #[100, 114, 111, 112].toList, .lit (.int .i64 (23 : Nat))), (.string #[108, 101, 97, 102].toList, .lit (.int .i64 (27 : Nat))), (.string #[108, 105, 115, 116].toList, .lit (.int .i64 (26 : Nat))), (.string #[111, 112, 101, 110].toList, .lit (.int .i64 (24 : Nat))), (.string #[112, 117, 116].toList, .lit (.int .i64 (21 : Nat))), (.string #[114, 111, 111, 116].toList, .lit (.int .i64 (26 : Nat))), (.string #[115, 104, 117, 116].toList, .lit (.int .i64 (25 : Nat))), (.string #[115, 105, 122, 101].toList, .lit (.int .i64 (26 : Nat))), (.string #[118, 97, 108, 117, 101].toList, .lit (.int .i64 (27 : Nat)))]
/-- The reader of a word, -1 where it has none. -/
def rdrF (l : List UInt8) : Int := if l = #[97, 100, 100].toList then (22 : Nat) else if l = #[100, 114, 111, 112].toList then (23 : Nat) else if l = #[108, 101, 97, 102].toList then (27 : Nat) else if l = #[108, 105, 115, 116].toList then (26 : Nat) else if l = #[111, 112, 101, 110].toList then (24 : Nat) else if l = #[112, 117, 116].toList then (21 : Nat) else if l = #[114, 111, 111, 116].toList then (26 : Nat) else if l = #[115, 104, 117, 116].toList then (25 : Nat) else if l = #[115, 105, 122, 101].toList then (26 : Nat) else if l = #[118, 97, 108, 117, 101].toList then (27 : Nat) else -1
theorem rdr_at (l : List UInt8) : rdrD.atKey (.string l) (.lit (.int .i64 (-1))) = .lit (.int .i64 (rdrF l)) := by
  by_cases h0 : l = #[97, 100, 100].toList
  · subst h0; rfl
  have f0 : (#[97, 100, 100].toList == l) = false := beq_eq_false_iff_ne.2 (Ne.symm h0)
  by_cases h1 : l = #[100, 114, 111, 112].toList
  · subst h1; rfl
  have f1 : (#[100, 114, 111, 112].toList == l) = false := beq_eq_false_iff_ne.2 (Ne.symm h1)
  by_cases h2 : l = #[108, 101, 97, 102].toList
  · subst h2; rfl
  have f2 : (#[108, 101, 97, 102].toList == l) = false := beq_eq_false_iff_ne.2 (Ne.symm h2)
  by_cases h3 : l = #[108, 105, 115, 116].toList
  · subst h3; rfl
  have f3 : (#[108, 105, 115, 116].toList == l) = false := beq_eq_false_iff_ne.2 (Ne.symm h3)
  by_cases h4 : l = #[111, 112, 101, 110].toList
  · subst h4; rfl
  have f4 : (#[111, 112, 101, 110].toList == l) = false := beq_eq_false_iff_ne.2 (Ne.symm h4)
  by_cases h5 : l = #[112, 117, 116].toList
  · subst h5; rfl
  have f5 : (#[112, 117, 116].toList == l) = false := beq_eq_false_iff_ne.2 (Ne.symm h5)
  by_cases h6 : l = #[114, 111, 111, 116].toList
  · subst h6; rfl
  have f6 : (#[114, 111, 111, 116].toList == l) = false := beq_eq_false_iff_ne.2 (Ne.symm h6)
  by_cases h7 : l = #[115, 104, 117, 116].toList
  · subst h7; rfl
  have f7 : (#[115, 104, 117, 116].toList == l) = false := beq_eq_false_iff_ne.2 (Ne.symm h7)
  by_cases h8 : l = #[115, 105, 122, 101].toList
  · subst h8; rfl
  have f8 : (#[115, 105, 122, 101].toList == l) = false := beq_eq_false_iff_ne.2 (Ne.symm h8)
  by_cases h9 : l = #[118, 97, 108, 117, 101].toList
  · subst h9; rfl
  have f9 : (#[118, 97, 108, 117, 101].toList == l) = false := beq_eq_false_iff_ne.2 (Ne.symm h9)
  unfold rdrF
  rw [if_neg h0, if_neg h1, if_neg h2, if_neg h3, if_neg h4, if_neg h5, if_neg h6, if_neg h7, if_neg h8, if_neg h9]
  unfold rdrD DataW.atKey
  simp only [List.find?, Lit.sameKey, f0, f1, f2, f3, f4, f5, f6, f7, f8, f9]
theorem rdr_lit (w0 : World) : ∃ w1 w2 w3 w4 w5 w6 w7 w8 w9 w10, (Instr.mapUpdate 49 (.map (some w0.heap.size)) (.string ⟨#[112, 117, 116]⟩) (.func (.func 21) #[] #[])).run Tryd.prog (w0.alloc (.map #[] 0)) = .ok () w1 ∧ (Instr.mapUpdate 49 (.map (some w0.heap.size)) (.string ⟨#[97, 100, 100]⟩) (.func (.func 22) #[] #[])).run Tryd.prog w1 = .ok () w2 ∧ (Instr.mapUpdate 49 (.map (some w0.heap.size)) (.string ⟨#[100, 114, 111, 112]⟩) (.func (.func 23) #[] #[])).run Tryd.prog w2 = .ok () w3 ∧ (Instr.mapUpdate 49 (.map (some w0.heap.size)) (.string ⟨#[111, 112, 101, 110]⟩) (.func (.func 24) #[] #[])).run Tryd.prog w3 = .ok () w4 ∧ (Instr.mapUpdate 49 (.map (some w0.heap.size)) (.string ⟨#[115, 104, 117, 116]⟩) (.func (.func 25) #[] #[])).run Tryd.prog w4 = .ok () w5 ∧ (Instr.mapUpdate 49 (.map (some w0.heap.size)) (.string ⟨#[114, 111, 111, 116]⟩) (.func (.func 26) #[] #[])).run Tryd.prog w5 = .ok () w6 ∧ (Instr.mapUpdate 49 (.map (some w0.heap.size)) (.string ⟨#[115, 105, 122, 101]⟩) (.func (.func 26) #[] #[])).run Tryd.prog w6 = .ok () w7 ∧ (Instr.mapUpdate 49 (.map (some w0.heap.size)) (.string ⟨#[108, 105, 115, 116]⟩) (.func (.func 26) #[] #[])).run Tryd.prog w7 = .ok () w8 ∧ (Instr.mapUpdate 49 (.map (some w0.heap.size)) (.string ⟨#[118, 97, 108, 117, 101]⟩) (.func (.func 27) #[] #[])).run Tryd.prog w8 = .ok () w9 ∧ (Instr.mapUpdate 49 (.map (some w0.heap.size)) (.string ⟨#[108, 101, 97, 102]⟩) (.func (.func 27) #[] #[])).run Tryd.prog w9 = .ok () w10 ∧ w10.ownsMap Tryd.prog 9 fR w0.heap.size 10 rdrD ∧ Touch (fun q => some w0.heap.size = some q) (w0.alloc (.map #[] 0)) w10 := by
  have hown0 := World.ownsMap_made w0 Tryd.prog 9 fR
  have t0 := Touch.refl (fun q => some w0.heap.size = some q) (w0.alloc (.map #[] 0))
  obtain ⟨w1, r1, hown1, g1⟩ := hown0.update strKey Tryd.underlying49 (by unfold maxLen; omega) (key := .string ⟨#[112, 117, 116]⟩) (val := .func (.func 21) #[] #[]) (Go.WideMaps.keyOf_string_mk Tryd.underlying9 (by unfold maxLen; decide)) rfl
  have t1 := t0.trans (grownM g1) (fun q _ e => e)
  clear g1 hown0 t0
  obtain ⟨w2, r2, hown2, g2⟩ := hown1.update strKey Tryd.underlying49 (by unfold maxLen; omega) (key := .string ⟨#[97, 100, 100]⟩) (val := .func (.func 22) #[] #[]) (Go.WideMaps.keyOf_string_mk Tryd.underlying9 (by unfold maxLen; decide)) rfl
  have t2 := t1.trans (grownM g2) (fun q _ e => e)
  clear g2 hown1 t1
  obtain ⟨w3, r3, hown3, g3⟩ := hown2.update strKey Tryd.underlying49 (by unfold maxLen; omega) (key := .string ⟨#[100, 114, 111, 112]⟩) (val := .func (.func 23) #[] #[]) (Go.WideMaps.keyOf_string_mk Tryd.underlying9 (by unfold maxLen; decide)) rfl
  have t3 := t2.trans (grownM g3) (fun q _ e => e)
  clear g3 hown2 t2
  obtain ⟨w4, r4, hown4, g4⟩ := hown3.update strKey Tryd.underlying49 (by unfold maxLen; omega) (key := .string ⟨#[111, 112, 101, 110]⟩) (val := .func (.func 24) #[] #[]) (Go.WideMaps.keyOf_string_mk Tryd.underlying9 (by unfold maxLen; decide)) rfl
  have t4 := t3.trans (grownM g4) (fun q _ e => e)
  clear g4 hown3 t3
  obtain ⟨w5, r5, hown5, g5⟩ := hown4.update strKey Tryd.underlying49 (by unfold maxLen; omega) (key := .string ⟨#[115, 104, 117, 116]⟩) (val := .func (.func 25) #[] #[]) (Go.WideMaps.keyOf_string_mk Tryd.underlying9 (by unfold maxLen; decide)) rfl
  have t5 := t4.trans (grownM g5) (fun q _ e => e)
  clear g5 hown4 t4
  obtain ⟨w6, r6, hown6, g6⟩ := hown5.update strKey Tryd.underlying49 (by unfold maxLen; omega) (key := .string ⟨#[114, 111, 111, 116]⟩) (val := .func (.func 26) #[] #[]) (Go.WideMaps.keyOf_string_mk Tryd.underlying9 (by unfold maxLen; decide)) rfl
  have t6 := t5.trans (grownM g6) (fun q _ e => e)
  clear g6 hown5 t5
  obtain ⟨w7, r7, hown7, g7⟩ := hown6.update strKey Tryd.underlying49 (by unfold maxLen; omega) (key := .string ⟨#[115, 105, 122, 101]⟩) (val := .func (.func 26) #[] #[]) (Go.WideMaps.keyOf_string_mk Tryd.underlying9 (by unfold maxLen; decide)) rfl
  have t7 := t6.trans (grownM g7) (fun q _ e => e)
  clear g7 hown6 t6
  obtain ⟨w8, r8, hown8, g8⟩ := hown7.update strKey Tryd.underlying49 (by unfold maxLen; omega) (key := .string ⟨#[108, 105, 115, 116]⟩) (val := .func (.func 26) #[] #[]) (Go.WideMaps.keyOf_string_mk Tryd.underlying9 (by unfold maxLen; decide)) rfl
  have t8 := t7.trans (grownM g8) (fun q _ e => e)
  clear g8 hown7 t7
  obtain ⟨w9, r9, hown9, g9⟩ := hown8.update strKey Tryd.underlying49 (by unfold maxLen; omega) (key := .string ⟨#[118, 97, 108, 117, 101]⟩) (val := .func (.func 27) #[] #[]) (Go.WideMaps.keyOf_string_mk Tryd.underlying9 (by unfold maxLen; decide)) rfl
  have t9 := t8.trans (grownM g9) (fun q _ e => e)
  clear g9 hown8 t8
  obtain ⟨w10, r10, hown10, g10⟩ := hown9.update strKey Tryd.underlying49 (by unfold maxLen; omega) (key := .string ⟨#[108, 101, 97, 102]⟩) (val := .func (.func 27) #[] #[]) (Go.WideMaps.keyOf_string_mk Tryd.underlying9 (by unfold maxLen; decide)) rfl
  have t10 := t9.trans (grownM g10) (fun q _ e => e)
  clear g10 hown9 t9
  exact ⟨_, _, _, _, _, _, _, _, _, _, r1, r2, r3, r4, r5, r6, r7, r8, r9, r10, hown10, t10⟩
end Go.Proofs.YtihhbngpajephaaDoor.Sha
