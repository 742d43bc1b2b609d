/- Lists of acts: what can be read, what is one's own; the laws' sz, to, eq. (Written by py/sl3.py.) -/
import Derived.Test.YtedfidpmehamdaaStrO
import Derived.Test.YtedfidpmehamdaaStr
import Derived.Test.YtedfidpmehamdaaLawG
import Derived.Test.YtedfidpmehamdaaBlk
import Derived.Deep.Fields
import Derived.Deep.Slices
import Derived.Deep.RegionHeld3
namespace Go.Proofs.Ytedfidpmehamdaa
open Go.ChangeShapes Go.WideShapes Go.ChangeAt Go.RowKit Go.Deep
set_option linter.unusedVariables false
set_option linter.unusedSimpArgs false

structure Op where
  bg : Int
  en : Int
  wr : Bool
  va : ByteArray
deriving Inhabited
def opC (f : Op) : List Value := [.int .i64 f.bg, .int .i64 f.en, .bool f.wr, .string f.va]
def opsC (l : List Op) : List Value := l.flatMap opC
/-- The value is a slice that holds these acts. -/
def Ops (w : World) (v : Value) (l : List Op) : Prop :=
  ∃ a cap, v = .slice a l.length cap ∧ l.length ≤ cap ∧ cap ≤ maxLen ∧ (l.length = 0 ∨ ∃ b off, a = some ⟨b, off, none⟩ ∧ b < w.heap.size ∧ ∀ i, i < l.length → w.cell? ⟨b, off + i * 4, none⟩ = some (.int .i64 (l.getD i default).bg) ∧ w.cell? ⟨b, off + i * 4 + 1, none⟩ = some (.int .i64 (l.getD i default).en) ∧ w.cell? ⟨b, off + i * 4 + 2, none⟩ = some (.bool (l.getD i default).wr) ∧ w.cell? ⟨b, off + i * 4 + 3, none⟩ = some (.string (l.getD i default).va))
theorem Ops.below {w w' : World} {v : Value} {l : List Op} (h : Ops w v l) (hb : Below w.heap.size w w') : Ops w' v l := by
  obtain ⟨a, cap, hv, hn, hm, hc⟩ := h
  refine ⟨a, cap, hv, hn, hm, ?_⟩
  rcases hc with h0 | ⟨b, off, ha, hlt, hc⟩
  · exact .inl h0
  · exact .inr ⟨b, off, ha, Nat.lt_of_lt_of_le hlt hb.size, fun i hi => ⟨(hb.cell (p := ⟨b, off + i * 4, none⟩) hlt).trans (hc i hi).1, (hb.cell (p := ⟨b, off + i * 4 + 1, none⟩) hlt).trans (hc i hi).2.1, (hb.cell (p := ⟨b, off + i * 4 + 2, none⟩) hlt).trans (hc i hi).2.2.1, (hb.cell (p := ⟨b, off + i * 4 + 3, none⟩) hlt).trans (hc i hi).2.2.2⟩⟩
theorem opsC_len (l : List Op) : (opsC l).length = l.length * 4 := by
  induction l with
  | nil => rfl
  | cons f r ih => simp only [opsC, List.flatMap_cons, List.length_append, List.length_cons] at ih ⊢; rw [ih]; simp [opC]; omega
theorem opsC_app (x y : List Op) : opsC (x ++ y) = opsC x ++ opsC y := by simp [opsC]
theorem opsC_get : ∀ (l : List Op) (i : Nat), i < l.length → (opsC l)[i * 4]? = some (.int .i64 (l.getD i default).bg) ∧ (opsC l)[i * 4 + 1]? = some (.int .i64 (l.getD i default).en) ∧ (opsC l)[i * 4 + 2]? = some (.bool (l.getD i default).wr) ∧ (opsC l)[i * 4 + 3]? = some (.string (l.getD i default).va)
  | [], i, h => by simp at h
  | f :: r, 0, h => ⟨rfl, rfl, rfl, rfl⟩
  | f :: r, i + 1, h => by
    have ih := opsC_get r i (by simpa using h)
    have e : opsC (f :: r) = .int .i64 f.bg :: .int .i64 f.en :: .bool f.wr :: .string f.va :: opsC r := rfl
    rw [e, show (i + 1) * 4 = i * 4 + 1 + 1 + 1 + 1 by omega, show i * 4 + 1 + 1 + 1 + 1 + 1 = (i * 4 + 1) + 1 + 1 + 1 + 1 by omega, show i * 4 + 1 + 1 + 1 + 1 + 2 = (i * 4 + 2) + 1 + 1 + 1 + 1 by omega, show i * 4 + 1 + 1 + 1 + 1 + 3 = (i * 4 + 3) + 1 + 1 + 1 + 1 by omega]
    simp only [List.getElem?_cons_succ, List.getD_cons_succ]
    exact ih
theorem opsC_set : ∀ (l : List Op) (k : Nat) (f : Op), k < l.length → (((((opsC l).set (k * 4) (.int .i64 f.bg)).set (k * 4 + 1) (.int .i64 f.en)).set (k * 4 + 2) (.bool f.wr)).set (k * 4 + 3) (.string f.va)) = opsC (l.set k f)
  | [], k, f, h => by simp at h
  | g :: r, 0, f, h => rfl
  | g :: r, k + 1, f, h => by
    have ih := opsC_set r k f (by simpa using h)
    have e : ∀ (g : Op) (r : List Op), opsC (g :: r) = .int .i64 g.bg :: .int .i64 g.en :: .bool g.wr :: .string g.va :: opsC r := fun _ _ => rfl
    rw [List.set_cons_succ, e, e, ← ih, show (k + 1) * 4 = k * 4 + 1 + 1 + 1 + 1 by omega, show k * 4 + 1 + 1 + 1 + 1 + 1 = (k * 4 + 1) + 1 + 1 + 1 + 1 by omega, show k * 4 + 1 + 1 + 1 + 1 + 2 = (k * 4 + 2) + 1 + 1 + 1 + 1 by omega, show k * 4 + 1 + 1 + 1 + 1 + 3 = (k * 4 + 3) + 1 + 1 + 1 + 1 by omega]
    simp only [List.set_cons_succ]
/-- The value is a slice of the call's own, from block B on, that holds these acts. -/
def OwnOp (B : Nat) (w : World) (v : Value) (l : List Op) : Prop := w.ownsRow B 39 4 v l.length (opsC l)
theorem OwnOp.cells {B : Nat} {w : World} {g cap n : Nat} {l : List Op} (h : w.ownsRow B 39 4 (.slice (some ⟨g, 0, none⟩) n cap) n (opsC l)) (i : Nat) (hi : i < l.length) (hn : n = l.length) :
    w.cell? ⟨g, i * 4, none⟩ = some (.int .i64 (l.getD i default).bg) ∧ w.cell? ⟨g, i * 4 + 1, none⟩ = some (.int .i64 (l.getD i default).en) ∧ w.cell? ⟨g, i * 4 + 2, none⟩ = some (.bool (l.getD i default).wr) ∧ w.cell? ⟨g, i * 4 + 3, none⟩ = some (.string (l.getD i default).va) := by
  obtain ⟨e0, e1, e2, e3⟩ := opsC_get l i hi
  exact ⟨(h.cellAt _ (by omega)).trans e0, (h.cellAt _ (by omega)).trans e1, (h.cellAt _ (by omega)).trans e2, (h.cellAt _ (by omega)).trans e3⟩
theorem OwnOp.read {B : Nat} {w : World} {v : Value} {l : List Op} (h : OwnOp B w v l) : Ops w v l := by
  rcases h.2 with ⟨rfl, h0⟩ | ⟨g, cap, cur, rfl, hb, hg, hn, hm, _⟩
  · obtain rfl := List.eq_nil_of_length_eq_zero h0
    exact ⟨none, 0, rfl, Nat.le_refl _, by unfold maxLen; omega, .inl rfl⟩
  · refine ⟨_, _, rfl, hn, hm, .inr ⟨g, 0, rfl, (Array.getElem?_eq_some_iff.1 hg).1, fun i hi => ?_⟩⟩
    have := OwnOp.cells h i hi rfl
    simpa using this
theorem OwnOp.kept {T : Nat → Prop} {B : Nat} {w w' : World} {v : Value} {l : List Op} (h : OwnOp B w v l) (ht : Touch T w w') (hn : ∀ k, v.ownBlock = some k → ¬ T k) : OwnOp B w' v l := own_kept h ht hn
theorem OwnOp.below {B : Nat} {w w' : World} {v : Value} {l : List Op} (h : OwnOp B w v l) (hb : Below w.heap.size w w') : OwnOp B w' v l := h.kept (T := fun _ => False) (Touch.ofBelow hb) (fun _ _ h => h)
theorem OwnOp.lt {B : Nat} {w : World} {v : Value} {l : List Op} (h : OwnOp B w v l) : ∀ k, v.ownBlock = some k → B ≤ k ∧ k < w.heap.size := World.ownsRow.lt h
theorem OwnOp.down {B B' : Nat} {w : World} {v : Value} {l : List Op} (h : OwnOp B w v l) (hB : B' ≤ B) : OwnOp B' w v l := by
  obtain ⟨hl, hc⟩ := h
  refine ⟨hl, ?_⟩
  rcases hc with h0 | ⟨g, cap, cur, hv, hg, rest⟩
  · exact .inl h0
  · exact .inr ⟨g, cap, cur, hv, by omega, rest⟩
theorem OwnOp.nil (B : Nat) (w : World) : OwnOp B w (.slice none 0 0) [] := World.ownsRow_nil w B 39 4
theorem infoOp : (Try.prog.info? 39).map (fun i => (i.zero, i.size, i.bytes)) = some (some (.agg #[.int .i64 0, .int .i64 0, .bool false, .string ⟨#[]⟩]), 4, 40) := by kernel_rfl
theorem wrapOp (n : Int) (h0 : 0 ≤ n) (h1 : n < 9223372036854775808) : IntKind.i64.wrap n = n := by
  simp only [IntKind.wrap, IntKind.bits, IntKind.signed]
  simp
  omega
def owF (f : Op) : Int := (f.va.size : Int)
theorem owF_nn (f : Op) : 0 ≤ owF f := by unfold owF; omega
/-- Bytes of the texts of the first k acts. -/
def owTo (l : List Op) : Nat → Int
  | 0 => 0
  | k + 1 => owTo l k + owF (l.getD k default)
theorem ow_mono (l : List Op) (i j : Nat) (h : i ≤ j) : owTo l i ≤ owTo l j := by
  induction j with
  | zero => obtain rfl : i = 0 := by omega
            exact Int.le_refl _
  | succ j ih =>
    by_cases e : i = j + 1
    · subst e; exact Int.le_refl _
    · have := ih (by omega)
      have := owF_nn (l.getD j default)
      show _ ≤ owTo l j + _
      omega
def oszR (L : Int) (l : List Op) : Int := if (l.length : Int) + owTo l l.length ≤ L then L - (l.length : Int) - owTo l l.length else -1
def oszF (f : Op) (left : Int) : Int := if left - owF f < 0 then -1 else left - owF f
theorem oszR_cases (L : Int) (l : List Op) : oszR L l = -1 ∨ (0 ≤ oszR L l ∧ oszR L l ≤ L) := by
  have hw0 := ow_mono l 0 l.length (Nat.zero_le _)
  have hw00 : owTo l 0 = 0 := rfl
  unfold oszR; split
  · right; omega
  · left; rfl
theorem osmall_of (L : Int) (hL : L ≤ 1048576) (l : List Op) (h : 0 ≤ oszR L l) : l.length ≤ 1048576 ∧ ∀ i, (l.getD i default).va.size ≤ 1048576 := by
  have h1 : (l.length : Int) + owTo l l.length ≤ L := by
    unfold oszR at h
    split at h
    · assumption
    · omega
  have hw0 := ow_mono l 0 l.length (Nat.zero_le _)
  have hw00 : owTo l 0 = 0 := rfl
  refine ⟨by omega, fun i => ?_⟩
  by_cases hi : i < l.length
  · have e2 : owTo l (i + 1) = owTo l i + owF (l.getD i default) := rfl
    have := ow_mono l (i + 1) l.length (by omega)
    have := ow_mono l 0 i (Nat.zero_le _)
    unfold owF at e2
    omega
  · rw [List.getD_eq_getElem?_getD, List.getElem?_eq_none (by omega)]
    simp only [Option.getD_none]
    have e3 : (default : Op).va.size = 0 := rfl
    omega
def zeroOp : Op := ⟨0, 0, false, ⟨#[]⟩⟩
def fillOp (l : List Op) (k : Nat) : List Op := (List.range l.length).map fun j => if j < k then l.getD j default else zeroOp
theorem fillOp_len (l : List Op) (k : Nat) : (fillOp l k).length = l.length := by simp [fillOp]
theorem fillOp_all (l : List Op) : fillOp l l.length = l := by
  apply List.ext_getElem?
  intro j
  by_cases hj : j < l.length
  · simp [fillOp, hj, List.getD_eq_getElem?_getD]
  · simp [fillOp, hj]
theorem fillOp_set (l : List Op) (k : Nat) (hk : k < l.length) : (fillOp l k).set k (l.getD k default) = fillOp l (k + 1) := by
  apply List.ext_getElem?
  intro j
  rw [List.getElem?_set]
  simp only [fillOp_len]
  by_cases e : k = j
  · subst e
    rw [if_pos rfl, if_pos hk]
    simp [fillOp, hk]
  · rw [if_neg e]
    by_cases hj : j < l.length
    · by_cases h1 : j < k
      · simp [fillOp, hj, h1, show j < k + 1 by omega]
      · simp [fillOp, hj, h1, show ¬ j < k + 1 by omega]
    · simp [fillOp, hj]
theorem madeOp_at (x0 x1 x2 x3 : Value) (n j : Nat) (hj : j < n) : (madeCells #[x0, x1, x2, x3] n).toList[j]? = some (if j % 4 = 0 then x0 else if j % 4 = 1 then x1 else if j % 4 = 2 then x2 else x3) := by
  have h3 : (#[x0, x1, x2, x3] : Array Value).size = 4 := rfl
  unfold madeCells
  rw [h3, Array.getElem?_toList, Array.getElem?_map]
  have hr : (Array.range n)[j]? = some j := by simp [hj]
  rw [hr, Option.map_some]
  rcases (show j % 4 = 0 ∨ j % 4 = 1 ∨ j % 4 = 2 ∨ j % 4 = 3 by omega) with e | e | e | e
  · rw [e]; rfl
  · rw [e]; rfl
  · rw [e]; rfl
  · rw [e]; rfl
theorem madeOp (l : List Op) : (madeCells (Value.agg #[.int .i64 0, .int .i64 0, .bool false, .string ⟨#[]⟩]).cells (l.length * 4)).toList = opsC (fillOp l 0) := by
  have hcs : (Value.agg #[.int .i64 0, .int .i64 0, .bool false, .string ⟨#[]⟩]).cells = #[Value.int .i64 0, Value.int .i64 0, Value.bool false, Value.string ⟨#[]⟩] := rfl
  rw [hcs]
  apply List.ext_getElem?
  intro j
  by_cases hj : j < l.length * 4
  · have hq : j / 4 < (fillOp l 0).length := by rw [fillOp_len]; omega
    obtain ⟨g0, g1, g2, g3⟩ := opsC_get (fillOp l 0) (j / 4) hq
    have hz : (fillOp l 0).getD (j / 4) default = zeroOp := by
      rw [fillOp_len] at hq
      rw [List.getD_eq_getElem?_getD]
      simp [fillOp, hq]
    rw [hz] at g0 g1 g2 g3
    rw [madeOp_at _ _ _ _ _ _ hj]
    rcases (show j % 4 = 0 ∨ j % 4 = 1 ∨ j % 4 = 2 ∨ j % 4 = 3 by omega) with e | e | e | e
    · rw [show j / 4 * 4 = j by omega] at g0; rw [g0, e]; rfl
    · rw [show j / 4 * 4 + 1 = j by omega] at g1; rw [g1, e]; rfl
    · rw [show j / 4 * 4 + 2 = j by omega] at g2; rw [g2, e]; rfl
    · rw [show j / 4 * 4 + 3 = j by omega] at g3; rw [g3, e]; rfl
  · have e1 : (madeCells #[Value.int .i64 0, Value.int .i64 0, Value.bool false, Value.string ⟨#[]⟩] (l.length * 4)).toList[j]? = none := List.getElem?_eq_none (by rw [Array.length_toList, size_madeCells]; omega)
    have e2 : (opsC (fillOp l 0))[j]? = none := List.getElem?_eq_none (by rw [opsC_len, fillOp_len]; omega)
    rw [e1, e2]
end Go.Proofs.Ytedfidpmehamdaa
