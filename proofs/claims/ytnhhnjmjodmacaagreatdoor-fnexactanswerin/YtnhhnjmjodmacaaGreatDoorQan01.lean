/- Lists of sessions: what can be read, what is one's own; the laws' eq, marks, held. Numbers in their bounds; a struct's box; small laws. A region that draws its order, whose operations only read and whose callees may lay blocks of their own: walked once, in the order of the text, over the worlds in which all that was there is as it was. Sessions, pure: where one stands, one more, one less, one changed. Lists of replies: what can be read, what is one's own; the laws' eq, marks, held. -/
import Derived.Test.YtnhhnjmjodmacaaGreatDoorQan00
import Derived.Deep.Fields
import Derived.Deep.Slices
import Derived.Deep.RegionHeld3
import Derived.Deep.Quiet
namespace Go.Proofs.YtnhhnjmjodmacaaGreatDoor
open Go.ChangeShapes Go.WideShapes Go.ChangeAt Go.RowKit Go.Deep
set_option linter.unusedVariables false
set_option linter.unusedSimpArgs false
structure Se where
  id : Int
  sq : Int
  kd : Int
  pl : Int
  vl : ByteArray
deriving Inhabited
def seC (f : Se) : List Value := [.int .i64 f.id, .int .i64 f.sq, .int .i64 f.kd, .int .i64 f.pl, .string f.vl]
def sesC (l : List Se) : List Value := l.flatMap seC
/-- The value is a slice that holds these sessions. -/
def Sess (w : World) (v : Value) (l : List Se) : Prop :=
  ∃ a cap, v = .slice a l.length cap ∧ l.length ≤ cap ∧ cap ≤ maxLen ∧ (l.length = 0 ∨ ∃ b off, a = some ⟨b, off, none⟩ ∧ b < w.heap.size ∧ ∀ i, i < l.length → w.cell? ⟨b, off + i * 5, none⟩ = some (.int .i64 (l.getD i default).id) ∧ w.cell? ⟨b, off + i * 5 + 1, none⟩ = some (.int .i64 (l.getD i default).sq) ∧ w.cell? ⟨b, off + i * 5 + 2, none⟩ = some (.int .i64 (l.getD i default).kd) ∧ w.cell? ⟨b, off + i * 5 + 3, none⟩ = some (.int .i64 (l.getD i default).pl) ∧ w.cell? ⟨b, off + i * 5 + 4, none⟩ = some (.string (l.getD i default).vl))
theorem Sess.below {w w' : World} {v : Value} {l : List Se} (h : Sess w v l) (hb : Below w.heap.size w w') : Sess w' v l := by
  obtain ⟨a, cap, hv, hn, hm, hc⟩ := h
  refine ⟨a, cap, hv, hn, hm, ?_⟩
  rcases hc with h0 | ⟨b, off, ha, hlt, hc⟩
  · exact .inl h0
  · exact .inr ⟨b, off, ha, Nat.lt_of_lt_of_le hlt hb.size, fun i hi => ⟨(hb.cell (p := ⟨b, off + i * 5, none⟩) hlt).trans (hc i hi).1, (hb.cell (p := ⟨b, off + i * 5 + 1, none⟩) hlt).trans (hc i hi).2.1, (hb.cell (p := ⟨b, off + i * 5 + 2, none⟩) hlt).trans (hc i hi).2.2.1, (hb.cell (p := ⟨b, off + i * 5 + 3, none⟩) hlt).trans (hc i hi).2.2.2.1, (hb.cell (p := ⟨b, off + i * 5 + 4, none⟩) hlt).trans (hc i hi).2.2.2.2⟩⟩
theorem sesC_len (l : List Se) : (sesC l).length = l.length * 5 := by
  induction l with
  | nil => rfl
  | cons f r ih => simp only [sesC, List.flatMap_cons, List.length_append, List.length_cons] at ih ⊢; rw [ih]; simp [seC]; omega
theorem sesC_app (x y : List Se) : sesC (x ++ y) = sesC x ++ sesC y := by simp [sesC]
theorem sesC_get : ∀ (l : List Se) (i : Nat), i < l.length → (sesC l)[i * 5]? = some (.int .i64 (l.getD i default).id) ∧ (sesC l)[i * 5 + 1]? = some (.int .i64 (l.getD i default).sq) ∧ (sesC l)[i * 5 + 2]? = some (.int .i64 (l.getD i default).kd) ∧ (sesC l)[i * 5 + 3]? = some (.int .i64 (l.getD i default).pl) ∧ (sesC l)[i * 5 + 4]? = some (.string (l.getD i default).vl)
  | [], i, h => by simp at h
  | f :: r, 0, h => ⟨rfl, rfl, rfl, rfl, rfl⟩
  | f :: r, i + 1, h => by
    have ih := sesC_get r i (by simpa using h)
    have e : sesC (f :: r) = .int .i64 f.id :: .int .i64 f.sq :: .int .i64 f.kd :: .int .i64 f.pl :: .string f.vl :: sesC r := rfl
    rw [e, show (i + 1) * 5 = i * 5 + 1 + 1 + 1 + 1 + 1 by omega, show i * 5 + 1 + 1 + 1 + 1 + 1 + 1 = (i * 5 + 1) + 1 + 1 + 1 + 1 + 1 by omega, show i * 5 + 1 + 1 + 1 + 1 + 1 + 2 = (i * 5 + 2) + 1 + 1 + 1 + 1 + 1 by omega, show i * 5 + 1 + 1 + 1 + 1 + 1 + 3 = (i * 5 + 3) + 1 + 1 + 1 + 1 + 1 by omega, show i * 5 + 1 + 1 + 1 + 1 + 1 + 4 = (i * 5 + 4) + 1 + 1 + 1 + 1 + 1 by omega]
    simp only [List.getElem?_cons_succ, List.getD_cons_succ]
    exact ih
theorem sesC_set : ∀ (l : List Se) (k : Nat) (f : Se), k < l.length → ((((((sesC l).set (k * 5) (.int .i64 f.id)).set (k * 5 + 1) (.int .i64 f.sq)).set (k * 5 + 2) (.int .i64 f.kd)).set (k * 5 + 3) (.int .i64 f.pl)).set (k * 5 + 4) (.string f.vl)) = sesC (l.set k f)
  | [], k, f, h => by simp at h
  | g :: r, 0, f, h => rfl
  | g :: r, k + 1, f, h => by
    have ih := sesC_set r k f (by simpa using h)
    have e : ∀ (g : Se) (r : List Se), sesC (g :: r) = .int .i64 g.id :: .int .i64 g.sq :: .int .i64 g.kd :: .int .i64 g.pl :: .string g.vl :: sesC r := fun _ _ => rfl
    rw [List.set_cons_succ, e, e, ← ih, show (k + 1) * 5 = k * 5 + 1 + 1 + 1 + 1 + 1 by omega, show k * 5 + 1 + 1 + 1 + 1 + 1 + 1 = (k * 5 + 1) + 1 + 1 + 1 + 1 + 1 by omega, show k * 5 + 1 + 1 + 1 + 1 + 1 + 2 = (k * 5 + 2) + 1 + 1 + 1 + 1 + 1 by omega, show k * 5 + 1 + 1 + 1 + 1 + 1 + 3 = (k * 5 + 3) + 1 + 1 + 1 + 1 + 1 by omega, show k * 5 + 1 + 1 + 1 + 1 + 1 + 4 = (k * 5 + 4) + 1 + 1 + 1 + 1 + 1 by omega]
    simp only [List.set_cons_succ]
/-- The value is a slice of the call's own, from block B on, that holds these sessions. -/
def OwnSe (B : Nat) (w : World) (v : Value) (l : List Se) : Prop := w.ownsRow B 106 5 v l.length (sesC l)
theorem OwnSe.cells {B : Nat} {w : World} {g cap n : Nat} {l : List Se} (h : w.ownsRow B 106 5 (.slice (some ⟨g, 0, none⟩) n cap) n (sesC l)) (i : Nat) (hi : i < l.length) (hn : n = l.length) :
    w.cell? ⟨g, i * 5, none⟩ = some (.int .i64 (l.getD i default).id) ∧ w.cell? ⟨g, i * 5 + 1, none⟩ = some (.int .i64 (l.getD i default).sq) ∧ w.cell? ⟨g, i * 5 + 2, none⟩ = some (.int .i64 (l.getD i default).kd) ∧ w.cell? ⟨g, i * 5 + 3, none⟩ = some (.int .i64 (l.getD i default).pl) ∧ w.cell? ⟨g, i * 5 + 4, none⟩ = some (.string (l.getD i default).vl) := by
  obtain ⟨e0, e1, e2, e3, e4⟩ := sesC_get l i hi
  exact ⟨(h.cellAt _ (by omega)).trans e0, (h.cellAt _ (by omega)).trans e1, (h.cellAt _ (by omega)).trans e2, (h.cellAt _ (by omega)).trans e3, (h.cellAt _ (by omega)).trans e4⟩
theorem OwnSe.read {B : Nat} {w : World} {v : Value} {l : List Se} (h : OwnSe B w v l) : Sess w v l := by
  rcases h.2 with ⟨rfl, h0⟩ | ⟨g, cap, cur, rfl, hb, hg, hn, hm, _⟩
  · obtain rfl := List.eq_nil_of_length_eq_zero h0
    exact ⟨none, 0, rfl, Nat.le_refl _, by unfold maxLen; omega, .inl rfl⟩
  · refine ⟨_, _, rfl, hn, hm, .inr ⟨g, 0, rfl, (Array.getElem?_eq_some_iff.1 hg).1, fun i hi => ?_⟩⟩
    have := OwnSe.cells h i hi rfl
    simpa using this
theorem OwnSe.kept {T : Nat → Prop} {B : Nat} {w w' : World} {v : Value} {l : List Se} (h : OwnSe B w v l) (ht : Touch T w w') (hn : ∀ k, v.ownBlock = some k → ¬ T k) : OwnSe B w' v l := own_kept h ht hn
theorem OwnSe.below {B : Nat} {w w' : World} {v : Value} {l : List Se} (h : OwnSe B w v l) (hb : Below w.heap.size w w') : OwnSe B w' v l := h.kept (T := fun _ => False) (Touch.ofBelow hb) (fun _ _ h => h)
theorem OwnSe.lt {B : Nat} {w : World} {v : Value} {l : List Se} (h : OwnSe B w v l) : ∀ k, v.ownBlock = some k → B ≤ k ∧ k < w.heap.size := World.ownsRow.lt h
theorem OwnSe.down {B B' : Nat} {w : World} {v : Value} {l : List Se} (h : OwnSe B w v l) (hB : B' ≤ B) : OwnSe B' w v l := by
  obtain ⟨hl, hc⟩ := h
  refine ⟨hl, ?_⟩
  rcases hc with h0 | ⟨g, cap, cur, hv, hg, rest⟩
  · exact .inl h0
  · exact .inr ⟨g, cap, cur, hv, by omega, rest⟩
theorem OwnSe.nil (B : Nat) (w : World) : OwnSe B w (.slice none 0 0) [] := World.ownsRow_nil w B 106 5
theorem infoSe : (Tryz.prog.info? 106).map (fun i => (i.zero, i.size, i.bytes)) = some (some (.agg #[.int .i64 0, .int .i64 0, .int .i64 0, .int .i64 0, .string ⟨#[]⟩]), 5, 48) := by kernel_rfl
theorem wrapSe (n : Int) (h0 : 0 ≤ n) (h1 : n < 9223372036854775808) : IntKind.i64.wrap n = n := by
  simp only [IntKind.wrap, IntKind.bits, IntKind.signed]
  simp
  omega
end Go.Proofs.YtnhhnjmjodmacaaGreatDoor
namespace Go.Proofs.YtnhhnjmjodmacaaGreatDoor
open Go.ChangeShapes Go.WideShapes Go.ChangeAt Go.RowKit
set_option linter.unusedVariables false
def inB (n lo hi : Int) : Bool := decide (lo ≤ n) && decide (n ≤ hi)
theorem inB_iff {n lo hi : Int} : inB n lo hi = true ↔ lo ≤ n ∧ n ≤ hi := by simp [inB]
theorem within_any (n lo hi : Int) (w : World) :
    Calls Tryz.prog 72 #[.int .i64 n, .int .i64 lo, .int .i64 hi] w fun e w' => e = .returned (.bool (inB n lo hi)) ∧ w' = w := by
  by_cases h1 : lo ≤ n
  · by_cases h2 : n ≤ hi
    · have H := hide (show inB n lo hi = true from inB_iff.2 ⟨h1, h2⟩)
      go_enter Tryz.func72, Tryz.ntmps72
      go_wp2
      go_ret
      exact ⟨ret_bool (unhide H).symm, rfl⟩
    · have H := hide (show inB n lo hi = false by simp [inB]; omega)
      go_enter Tryz.func72, Tryz.ntmps72
      go_wp2
      go_ret
      exact ⟨ret_bool (unhide H).symm, rfl⟩
  · have H := hide (show inB n lo hi = false by simp [inB]; omega)
    go_enter Tryz.func72, Tryz.ntmps72
    go_wp2
    go_ret
    exact ⟨ret_bool (unhide H).symm, rfl⟩
theorem l01In_any (n lo hi : Int) (w : World) :
    Calls Tryz.prog 58 #[.int .i64 n, .int .i64 lo, .int .i64 hi] w fun e w' => e = .returned (.bool (inB n lo hi)) ∧ w' = w := by
  by_cases h1 : lo ≤ n
  · by_cases h2 : n ≤ hi
    · have H := hide (show inB n lo hi = true from inB_iff.2 ⟨h1, h2⟩)
      go_enter Tryz.func58, Tryz.ntmps58
      go_wp2
      go_ret
      exact ⟨ret_bool (unhide H).symm, rfl⟩
    · have H := hide (show inB n lo hi = false by simp [inB]; omega)
      go_enter Tryz.func58, Tryz.ntmps58
      go_wp2
      go_ret
      exact ⟨ret_bool (unhide H).symm, rfl⟩
  · have H := hide (show inB n lo hi = false by simp [inB]; omega)
    go_enter Tryz.func58, Tryz.ntmps58
    go_wp2
    go_ret
    exact ⟨ret_bool (unhide H).symm, rfl⟩

theorem five_cell {w wx : World} {B : Nat} {a b c d e : Value} {t : TypeId} (hB : B = w.heap.size) (h : Below (w.heap.size + 1) (w.alloc (.cells #[a, b, c, d, e] t)) wx) :
    wx.cell? ⟨B, 0, none⟩ = some a ∧ wx.cell? ⟨B, 1, none⟩ = some b ∧ wx.cell? ⟨B, 2, none⟩ = some c ∧ wx.cell? ⟨B, 3, none⟩ = some d ∧ wx.cell? ⟨B, 4, none⟩ = some e := by
  subst hB
  refine ⟨?_, ?_, ?_, ?_, ?_⟩
  all_goals
    rw [h.cell (by simp), World.cell?_alloc_at _ _ _ _ rfl]; rfl

def emptyB (s : ByteArray) : Bool := s.toList.isEmpty
theorem emptyB_iff {s : ByteArray} : emptyB s = true ↔ s.size = 0 := by
  unfold emptyB; rw [List.isEmpty_iff, ByteArray.toList_eq]
  constructor
  · intro h; have : s.data.toList.length = 0 := by rw [h]; rfl
    rw [Array.length_toList] at this; exact this
  · intro h; apply List.eq_nil_of_length_eq_zero; rw [Array.length_toList]; exact h
theorem ret_two {a : Value} {x y : Int} (h : x = y) : Ending.returned (.tuple #[a, .int .i64 x]) = .returned (.tuple #[a, .int .i64 y]) := by rw [h]
end Go.Proofs.YtnhhnjmjodmacaaGreatDoor
namespace Go.Proofs.YtnhhnjmjodmacaaGreatDoor
open Go.ChangeShapes Go.WideShapes Go.ChangeAt Go.RowKit
set_option linter.unusedVariables false
/-- A world in which all that was there in w is as it was. -/
structure Wb (w : World) where
  at_ : World
  below : Below w.heap.size w at_
instance (w : World) : Inhabited (Wb w) := ⟨⟨w, Below.refl _ _⟩⟩
theorem Wb.cell {w : World} {a : Addr} {v : Value} (h : w.cell? a = some v) (hb : a.block < w.heap.size) (p : Wb w) : p.at_.cell? a = some v := (p.below.cell hb).trans h
end Go.Proofs.YtnhhnjmjodmacaaGreatDoor
namespace Go.Proofs.YtnhhnjmjodmacaaGreatDoor
open Go.ChangeShapes Go.WideShapes Go.ChangeAt Go.RowKit Go.Deep
set_option linter.unusedVariables false
set_option linter.unusedSimpArgs false
def newS (id : Int) : Se := ⟨id, 0, 0, 0, ⟨#[]⟩⟩
/-- The place of a session, or where it would stand. -/
structure IsPos (ss : List Se) (id : Int) (q : Nat) : Prop where
  le : q ≤ ss.length
  lo : ∀ i, i < q → (ss.getD i default).id < id
  hi : ∀ i, q ≤ i → i < ss.length → id ≤ (ss.getD i default).id
theorem IsPos.uniq {ss : List Se} {id : Int} {q r : Nat} (h : IsPos ss id q) (g : IsPos ss id r) : q = r := by
  rcases Nat.lt_trichotomy q r with e | e | e
  · have h1 := g.lo q e
    have h2 := h.hi q (Nat.le_refl _) (by have := g.le; omega)
    omega
  · exact e
  · have h1 := h.lo r e
    have h2 := g.hi r (Nat.le_refl _) (by have := h.le; omega)
    omega
def posS : List Se → Int → Nat
  | [], _ => 0
  | s :: r, id => if s.id < id then posS r id + 1 else 0
/-- Sessions rise. -/
def RiseS (ss : List Se) : Prop := ∀ i j, i < j → j < ss.length → (ss.getD i default).id < (ss.getD j default).id
theorem RiseS.tail {s : Se} {r : List Se} (h : RiseS (s :: r)) : RiseS r := fun i j hij hj => by
  have := h (i + 1) (j + 1) (by omega) (by simp; omega)
  simpa using this
theorem pos_is {id : Int} : ∀ {ss : List Se}, RiseS ss → IsPos ss id (posS ss id)
  | [], _ => ⟨Nat.le_refl _, fun i hi => by simp [posS] at hi, fun i _ hi => by simp at hi⟩
  | s :: r, h => by
    have ih := pos_is (id := id) h.tail
    unfold posS
    by_cases hs : s.id < id
    · rw [if_pos hs]
      refine ⟨by simp; exact ih.le, fun i hi => ?_, fun i hi hl => ?_⟩
      · cases i with
        | zero => simpa using hs
        | succ i => simpa using ih.lo i (by omega)
      · cases i with
        | zero => omega
        | succ i => simpa using ih.hi i (by omega) (by simp at hl; omega)
    · rw [if_neg hs]
      refine ⟨Nat.zero_le _, fun i hi => by omega, fun i _ hl => ?_⟩
      cases i with
      | zero => simp; omega
      | succ i =>
        have := h 0 (i + 1) (by omega) hl
        simp at this ⊢
        omega
def hasS (ss : List Se) (id : Int) : Bool := decide (posS ss id < ss.length ∧ (ss.getD (posS ss id) default).id = id)
def insS (ss : List Se) (q : Nat) (s : Se) : List Se := ss.take q ++ s :: ss.drop q
def delS (ss : List Se) (q : Nat) : List Se := ss.take q ++ ss.drop (q + 1)
theorem insS_len (ss : List Se) (q : Nat) (s : Se) (h : q ≤ ss.length) : (insS ss q s).length = ss.length + 1 := by
  unfold insS; simp; omega
theorem insS_get (ss : List Se) (q : Nat) (s : Se) (h : q ≤ ss.length) (i : Nat) : (insS ss q s).getD i default = if i < q then ss.getD i default else if i = q then s else ss.getD (i - 1) default := by
  unfold insS
  rw [List.getD_eq_getElem?_getD, List.getElem?_append]
  have hl : (ss.take q).length = q := by simp; omega
  rw [hl]
  by_cases h1 : i < q
  · rw [if_pos h1, if_pos h1, List.getElem?_take_of_lt h1, ← List.getD_eq_getElem?_getD]
  · rw [if_neg h1, if_neg h1]
    by_cases h2 : i = q
    · subst h2; simp
    · rw [if_neg h2, show i - q = (i - q - 1) + 1 by omega, List.getElem?_cons_succ, List.getElem?_drop, ← List.getD_eq_getElem?_getD, show q + (i - q - 1) = i - 1 by omega]
theorem delS_len (ss : List Se) (q : Nat) (h : q < ss.length) : (delS ss q).length = ss.length - 1 := by
  unfold delS; simp; omega
theorem delS_get (ss : List Se) (q : Nat) (h : q < ss.length) (i : Nat) : (delS ss q).getD i default = if i < q then ss.getD i default else ss.getD (i + 1) default := by
  unfold delS
  rw [List.getD_eq_getElem?_getD, List.getElem?_append]
  have hl : (ss.take q).length = q := by simp; omega
  rw [hl]
  by_cases h1 : i < q
  · rw [if_pos h1, if_pos h1, List.getElem?_take_of_lt h1, ← List.getD_eq_getElem?_getD]
  · rw [if_neg h1, if_neg h1, List.getElem?_drop, ← List.getD_eq_getElem?_getD, show q + 1 + (i - q) = i + 1 by omega]
theorem setS_get (ss : List Se) (q : Nat) (s : Se) (h : q < ss.length) (i : Nat) : (ss.set q s).getD i default = if i = q then s else ss.getD i default := by
  rw [List.getD_eq_getElem?_getD, List.getElem?_set]
  by_cases h1 : q = i
  · subst h1; simp [h]
  · rw [if_neg h1, if_neg (fun e => h1 e.symm), ← List.getD_eq_getElem?_getD]
theorem getD_mem {ss : List Se} {i : Nat} (h : i < ss.length) : ss.getD i default ∈ ss := by
  rw [List.getD_eq_getElem?_getD, List.getElem?_eq_getElem h]; exact List.getElem_mem h
theorem has_iff {ss : List Se} {id : Int} : hasS ss id = true ↔ posS ss id < ss.length ∧ (ss.getD (posS ss id) default).id = id := by unfold hasS; simp
theorem ins_rise {ss : List Se} {id : Int} (h : RiseS ss) (hn : hasS ss id = false) : RiseS (insS ss (posS ss id) (newS id)) := by
  have hp := pos_is (id := id) h
  have hn' : ¬ (posS ss id < ss.length ∧ (ss.getD (posS ss id) default).id = id) := fun e => by rw [has_iff.2 e] at hn; cases hn
  intro i j hij hj
  rw [insS_len _ _ _ hp.le] at hj
  rw [insS_get _ _ _ hp.le, insS_get _ _ _ hp.le]
  have hid : (newS id).id = id := rfl
  have hlo := hp.lo
  have hhi := hp.hi
  by_cases a1 : i < posS ss id
  · rw [if_pos a1]
    by_cases b1 : j < posS ss id
    · rw [if_pos b1]; exact h i j hij (by have := hp.le; omega)
    · rw [if_neg b1]
      by_cases b2 : j = posS ss id
      · rw [if_pos b2, hid]; exact hlo i a1
      · rw [if_neg b2]
        have h1 := hlo i a1
        have h2 := hhi (j - 1) (by omega) (by omega)
        omega
  · rw [if_neg a1, if_neg (by omega : ¬ j < posS ss id), if_neg (by omega : ¬ j = posS ss id)]
    by_cases a2 : i = posS ss id
    · rw [if_pos a2, hid]
      have h2 := hhi (j - 1) (by omega) (by omega)
      by_cases e : j - 1 = posS ss id
      · have : (ss.getD (j - 1) default).id ≠ id := fun e2 => hn' ⟨by omega, by rw [← e]; exact e2⟩
        omega
      · have h3 := h (posS ss id) (j - 1) (by omega) (by omega)
        have h4 := hhi (posS ss id) (Nat.le_refl _) (by omega)
        omega
    · rw [if_neg a2]; exact h (i - 1) (j - 1) (by omega) (by omega)
theorem del_rise {ss : List Se} {q : Nat} (h : RiseS ss) (hq : q < ss.length) : RiseS (delS ss q) := by
  intro i j hij hj
  rw [delS_len _ _ hq] at hj
  rw [delS_get _ _ hq, delS_get _ _ hq]
  split
  · split
    · exact h i j hij (by omega)
    · exact h i (j + 1) (by omega) (by omega)
  · rw [if_neg (by omega)]; exact h (i + 1) (j + 1) (by omega) (by omega)
theorem set_rise {ss : List Se} {q : Nat} {s : Se} (h : RiseS ss) (hq : q < ss.length) (hs : s.id = (ss.getD q default).id) : RiseS (ss.set q s) := by
  have e : ∀ i, ((ss.set q s).getD i default).id = (ss.getD i default).id := fun i => by
    rw [setS_get _ _ _ hq]
    split
    · rename_i hi; rw [hi, hs]
    · rfl
  intro i j hij hj
  rw [e, e]
  exact h i j hij (by simpa using hj)
end Go.Proofs.YtnhhnjmjodmacaaGreatDoor
namespace Go.Proofs.YtnhhnjmjodmacaaGreatDoor
open Go.ChangeShapes Go.WideShapes Go.ChangeAt Go.RowKit Go.Deep
set_option linter.unusedVariables false
set_option linter.unusedSimpArgs false
structure Re where
  kd : Int
  pl : Int
  vl : ByteArray
deriving Inhabited
def reC (f : Re) : List Value := [.int .i64 f.kd, .int .i64 f.pl, .string f.vl]
def resC (l : List Re) : List Value := l.flatMap reC
/-- The value is a slice that holds these replies. -/
def Ress (w : World) (v : Value) (l : List Re) : Prop :=
  ∃ a cap, v = .slice a l.length cap ∧ l.length ≤ cap ∧ cap ≤ maxLen ∧ (l.length = 0 ∨ ∃ b off, a = some ⟨b, off, none⟩ ∧ b < w.heap.size ∧ ∀ i, i < l.length → w.cell? ⟨b, off + i * 3, none⟩ = some (.int .i64 (l.getD i default).kd) ∧ w.cell? ⟨b, off + i * 3 + 1, none⟩ = some (.int .i64 (l.getD i default).pl) ∧ w.cell? ⟨b, off + i * 3 + 2, none⟩ = some (.string (l.getD i default).vl))
theorem Ress.below {w w' : World} {v : Value} {l : List Re} (h : Ress w v l) (hb : Below w.heap.size w w') : Ress w' v l := by
  obtain ⟨a, cap, hv, hn, hm, hc⟩ := h
  refine ⟨a, cap, hv, hn, hm, ?_⟩
  rcases hc with h0 | ⟨b, off, ha, hlt, hc⟩
  · exact .inl h0
  · exact .inr ⟨b, off, ha, Nat.lt_of_lt_of_le hlt hb.size, fun i hi => ⟨(hb.cell (p := ⟨b, off + i * 3, none⟩) hlt).trans (hc i hi).1, (hb.cell (p := ⟨b, off + i * 3 + 1, none⟩) hlt).trans (hc i hi).2.1, (hb.cell (p := ⟨b, off + i * 3 + 2, none⟩) hlt).trans (hc i hi).2.2⟩⟩
theorem resC_app (x y : List Re) : resC (x ++ y) = resC x ++ resC y := by simp [resC]
theorem resC_get : ∀ (l : List Re) (i : Nat), i < l.length → (resC l)[i * 3]? = some (.int .i64 (l.getD i default).kd) ∧ (resC l)[i * 3 + 1]? = some (.int .i64 (l.getD i default).pl) ∧ (resC l)[i * 3 + 2]? = some (.string (l.getD i default).vl)
  | [], i, h => by simp at h
  | f :: r, 0, h => ⟨rfl, rfl, rfl⟩
  | f :: r, i + 1, h => by
    have ih := resC_get r i (by simpa using h)
    have e : resC (f :: r) = .int .i64 f.kd :: .int .i64 f.pl :: .string f.vl :: resC r := rfl
    rw [e, show (i + 1) * 3 = i * 3 + 1 + 1 + 1 by omega, show i * 3 + 1 + 1 + 1 + 1 = (i * 3 + 1) + 1 + 1 + 1 by omega, show i * 3 + 1 + 1 + 1 + 2 = (i * 3 + 2) + 1 + 1 + 1 by omega]
    simp only [List.getElem?_cons_succ, List.getD_cons_succ]
    exact ih
/-- The value is a slice of the call's own, from block B on, that holds these replies. -/
def OwnRe (B : Nat) (w : World) (v : Value) (l : List Re) : Prop := w.ownsRow B 40 3 v l.length (resC l)
theorem OwnRe.cells {B : Nat} {w : World} {g cap n : Nat} {l : List Re} (h : w.ownsRow B 40 3 (.slice (some ⟨g, 0, none⟩) n cap) n (resC l)) (i : Nat) (hi : i < l.length) (hn : n = l.length) :
    w.cell? ⟨g, i * 3, none⟩ = some (.int .i64 (l.getD i default).kd) ∧ w.cell? ⟨g, i * 3 + 1, none⟩ = some (.int .i64 (l.getD i default).pl) ∧ w.cell? ⟨g, i * 3 + 2, none⟩ = some (.string (l.getD i default).vl) := by
  obtain ⟨e0, e1, e2⟩ := resC_get l i hi
  exact ⟨(h.cellAt _ (by omega)).trans e0, (h.cellAt _ (by omega)).trans e1, (h.cellAt _ (by omega)).trans e2⟩
theorem OwnRe.read {B : Nat} {w : World} {v : Value} {l : List Re} (h : OwnRe B w v l) : Ress w v l := by
  rcases h.2 with ⟨rfl, h0⟩ | ⟨g, cap, cur, rfl, hb, hg, hn, hm, _⟩
  · obtain rfl := List.eq_nil_of_length_eq_zero h0
    exact ⟨none, 0, rfl, Nat.le_refl _, by unfold maxLen; omega, .inl rfl⟩
  · refine ⟨_, _, rfl, hn, hm, .inr ⟨g, 0, rfl, (Array.getElem?_eq_some_iff.1 hg).1, fun i hi => ?_⟩⟩
    have := OwnRe.cells h i hi rfl
    simpa using this
theorem OwnRe.kept {T : Nat → Prop} {B : Nat} {w w' : World} {v : Value} {l : List Re} (h : OwnRe B w v l) (ht : Touch T w w') (hn : ∀ k, v.ownBlock = some k → ¬ T k) : OwnRe B w' v l := own_kept h ht hn
theorem OwnRe.below {B : Nat} {w w' : World} {v : Value} {l : List Re} (h : OwnRe B w v l) (hb : Below w.heap.size w w') : OwnRe B w' v l := h.kept (T := fun _ => False) (Touch.ofBelow hb) (fun _ _ h => h)
theorem OwnRe.lt {B : Nat} {w : World} {v : Value} {l : List Re} (h : OwnRe B w v l) : ∀ k, v.ownBlock = some k → B ≤ k ∧ k < w.heap.size := World.ownsRow.lt h
theorem OwnRe.down {B B' : Nat} {w : World} {v : Value} {l : List Re} (h : OwnRe B w v l) (hB : B' ≤ B) : OwnRe B' w v l := by
  obtain ⟨hl, hc⟩ := h
  refine ⟨hl, ?_⟩
  rcases hc with h0 | ⟨g, cap, cur, hv, hg, rest⟩
  · exact .inl h0
  · exact .inr ⟨g, cap, cur, hv, by omega, rest⟩
theorem OwnRe.nil (B : Nat) (w : World) : OwnRe B w (.slice none 0 0) [] := World.ownsRow_nil w B 40 3
theorem infoRe : (Tryz.prog.info? 40).map (fun i => (i.zero, i.size, i.bytes)) = some (some (.agg #[.int .i64 0, .int .i64 0, .string ⟨#[]⟩]), 3, 32) := by kernel_rfl
set_option maxRecDepth 100000 in
set_option maxHeartbeats 1000000 in
theorem eqReply_any (f : Re) (w : World) :
    Calls Tryz.prog 13 #[.agg #[.int .i64 f.kd, .int .i64 f.pl, .string f.vl], .agg #[.int .i64 f.kd, .int .i64 f.pl, .string f.vl]] w fun e w' => e = .returned (.bool true) ∧ Below w.heap.size w w' := by
  obtain ⟨f0, f1, f2⟩ := f
  dsimp only
  go_enter Tryz.func13, Tryz.ntmps13
  go_wp2_with fail
  go_ret
  exact ⟨rfl, ((Below.refl _ _).alloc (Nat.le_refl _) _).alloc (by simp) _⟩
end Go.Proofs.YtnhhnjmjodmacaaGreatDoor
