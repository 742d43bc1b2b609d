/- What the proof of the claim needs (joined by program): ApQ Res. -/
import Derived.Test.YtnhhnjmjodmacaaGreatDoorQaa02
import Derived.Test.YtnhhnjmjodmacaaGreatDoorQaa00
import Derived.Test.YtnhhnjmjodmacaaGreatDoorQaa01
import Derived.Deep.Fields
import Derived.Deep.Slices
import Derived.Deep.RegionHeld3
namespace Go.Proofs.YtnhhnjmjodmacaaGreatDoor
set_option maxRecDepth 100000
set_option maxHeartbeats 8000000
open Go.ChangeShapes Go.WideShapes Go.ChangeAt Go.RowKit Go.Deep
set_option linter.unusedVariables false
set_option linter.unusedSimpArgs false
def newS (id : Int) : Se := ⟨id, 0, 0, 0, ⟨#[]⟩⟩
structure IsPos (ss : List Se) (id : Int) (q : Nat) : Prop where
 le : q ≤ ss.length
 lo : ∀ i, i < q → (ss.getD i default).id < id
 hi : ∀ i, q ≤ i → i < ss.length → id ≤ (ss.getD i default).id
theorem IsPos.uniq {ss : List Se} {id : Int} {q r : Nat} (h : IsPos ss id q) (g : IsPos ss id r) : q = r := by
 rcases Nat.lt_trichotomy q r with e | e | e
 ·have h1 := g.lo q e
  have h2 := h.hi q (Nat.le_refl _) (by have := g.le; omega)
  omega
 ·exact e
 ·have h1 := h.lo r e
  have h2 := g.hi r (Nat.le_refl _) (by have := h.le; omega)
  omega
def posS : List Se → Int → Nat
 | [], _ => 0
 | s :: r, id => if s.id < id then posS r id + 1 else 0
def RiseS (ss : List Se) : Prop := ∀ i j, i < j → j < ss.length → (ss.getD i default).id < (ss.getD j default).id
theorem RiseS.tail {s : Se} {r : List Se} (h : RiseS (s :: r)) : RiseS r := fun i j hij hj => by
 have := h (i + 1) (j + 1) (by omega) (by simp; omega)
 simpa using this
theorem pos_is {id : Int} : ∀ {ss : List Se}, RiseS ss → IsPos ss id (posS ss id)
 | [], _ => ⟨Nat.le_refl _, fun i hi => by simp [posS] at hi, fun i _ hi => by simp at hi⟩
 | s :: r, h => by
  have ih := pos_is (id := id) h.tail
  unfold posS
  by_cases hs : s.id < id
  ·rw [if_pos hs]
   refine ⟨by simp; exact ih.le, fun i hi => ?_, fun i hi hl => ?_⟩
   ·cases i with
    | zero => simpa using hs
    | succ i => simpa using ih.lo i (by omega)
   ·cases i with
    | zero => omega
    | succ i => simpa using ih.hi i (by omega) (by simp at hl; omega)
  ·rw [if_neg hs]
   refine ⟨Nat.zero_le _, fun i hi => by omega, fun i _ hl => ?_⟩
   cases i with
   | zero => simp; omega
   | succ i =>
    have := h 0 (i + 1) (by omega) hl
    simp at this ⊢
    omega
def hasS (ss : List Se) (id : Int) : Bool := decide (posS ss id < ss.length ∧ (ss.getD (posS ss id) default).id = id)
def insS (ss : List Se) (q : Nat) (s : Se) : List Se := ss.take q ++ s :: ss.drop q
def delS (ss : List Se) (q : Nat) : List Se := ss.take q ++ ss.drop (q + 1)
theorem insS_len (ss : List Se) (q : Nat) (s : Se) (h : q ≤ ss.length) : (insS ss q s).length = ss.length + 1 := by
 unfold insS; simp; omega
theorem insS_get (ss : List Se) (q : Nat) (s : Se) (h : q ≤ ss.length) (i : Nat) : (insS ss q s).getD i default = if i < q then ss.getD i default else if i = q then s else ss.getD (i - 1) default := by
 unfold insS
 rw [List.getD_eq_getElem?_getD, List.getElem?_append]
 have hl : (ss.take q).length = q := by simp; omega
 rw [hl]
 by_cases h1 : i < q
 ·rw [if_pos h1, if_pos h1, List.getElem?_take_of_lt h1, ← List.getD_eq_getElem?_getD]
 ·rw [if_neg h1, if_neg h1]
  by_cases h2 : i = q
  ·subst h2; simp
  ·rw [if_neg h2, show i - q = (i - q - 1) + 1 by omega, List.getElem?_cons_succ, List.getElem?_drop, ← List.getD_eq_getElem?_getD, show q + (i - q - 1) = i - 1 by omega]
theorem delS_len (ss : List Se) (q : Nat) (h : q < ss.length) : (delS ss q).length = ss.length - 1 := by
 unfold delS; simp; omega
theorem delS_get (ss : List Se) (q : Nat) (h : q < ss.length) (i : Nat) : (delS ss q).getD i default = if i < q then ss.getD i default else ss.getD (i + 1) default := by
 unfold delS
 rw [List.getD_eq_getElem?_getD, List.getElem?_append]
 have hl : (ss.take q).length = q := by simp; omega
 rw [hl]
 by_cases h1 : i < q
 ·rw [if_pos h1, if_pos h1, List.getElem?_take_of_lt h1, ← List.getD_eq_getElem?_getD]
 ·rw [if_neg h1, if_neg h1, List.getElem?_drop, ← List.getD_eq_getElem?_getD, show q + 1 + (i - q) = i + 1 by omega]
theorem setS_get (ss : List Se) (q : Nat) (s : Se) (h : q < ss.length) (i : Nat) : (ss.set q s).getD i default = if i = q then s else ss.getD i default := by
 rw [List.getD_eq_getElem?_getD, List.getElem?_set]
 by_cases h1 : q = i
 ·subst h1; simp [h]
 ·rw [if_neg h1, if_neg (fun e => h1 e.symm), ← List.getD_eq_getElem?_getD]
theorem getD_mem {ss : List Se} {i : Nat} (h : i < ss.length) : ss.getD i default ∈ ss := by
 rw [List.getD_eq_getElem?_getD, List.getElem?_eq_getElem h]; exact List.getElem_mem h
theorem has_iff {ss : List Se} {id : Int} : hasS ss id = true ↔ posS ss id < ss.length ∧ (ss.getD (posS ss id) default).id = id := by unfold hasS; simp
theorem ins_rise {ss : List Se} {id : Int} (h : RiseS ss) (hn : hasS ss id = false) : RiseS (insS ss (posS ss id) (newS id)) := by
 have hp := pos_is (id := id) h
 have hn' : ¬ (posS ss id < ss.length ∧ (ss.getD (posS ss id) default).id = id) := fun e => by rw [has_iff.2 e] at hn; cases hn
 intro i j hij hj
 rw [insS_len _ _ _ hp.le] at hj
 rw [insS_get _ _ _ hp.le, insS_get _ _ _ hp.le]
 have hid : (newS id).id = id := rfl
 have hlo := hp.lo
 have hhi := hp.hi
 by_cases a1 : i < posS ss id
 ·rw [if_pos a1]
  by_cases b1 : j < posS ss id
  ·rw [if_pos b1]; exact h i j hij (by have := hp.le; omega)
  ·rw [if_neg b1]
   by_cases b2 : j = posS ss id
   ·rw [if_pos b2, hid]; exact hlo i a1
   ·rw [if_neg b2]
    have h1 := hlo i a1
    have h2 := hhi (j - 1) (by omega) (by omega)
    omega
 ·rw [if_neg a1, if_neg (by omega : ¬ j < posS ss id), if_neg (by omega : ¬ j = posS ss id)]
  by_cases a2 : i = posS ss id
  ·rw [if_pos a2, hid]
   have h2 := hhi (j - 1) (by omega) (by omega)
   by_cases e : j - 1 = posS ss id
   ·have : (ss.getD (j - 1) default).id ≠ id := fun e2 => hn' ⟨by omega, by rw [← e]; exact e2⟩
    omega
   ·have h3 := h (posS ss id) (j - 1) (by omega) (by omega)
    have h4 := hhi (posS ss id) (Nat.le_refl _) (by omega)
    omega
  ·rw [if_neg a2]; exact h (i - 1) (j - 1) (by omega) (by omega)
theorem del_rise {ss : List Se} {q : Nat} (h : RiseS ss) (hq : q < ss.length) : RiseS (delS ss q) := by
 intro i j hij hj
 rw [delS_len _ _ hq] at hj
 rw [delS_get _ _ hq, delS_get _ _ hq]
 split
 ·split
  ·exact h i j hij (by omega)
  ·exact h i (j + 1) (by omega) (by omega)
 ·rw [if_neg (by omega)]; exact h (i + 1) (j + 1) (by omega) (by omega)
theorem set_rise {ss : List Se} {q : Nat} {s : Se} (h : RiseS ss) (hq : q < ss.length) (hs : s.id = (ss.getD q default).id) : RiseS (ss.set q s) := by
 have e : ∀ i, ((ss.set q s).getD i default).id = (ss.getD i default).id := fun i => by
  rw [setS_get _ _ _ hq]
  split
  ·rename_i hi; rw [hi, hs]
  ·rfl
 intro i j hij hj
 rw [e, e]
 exact h i j hij (by simpa using hj)
structure Re where
 kd : Int
 pl : Int
 vl : ByteArray
deriving Inhabited
def reC (f : Re) : List Value := [.int .i64 f.kd, .int .i64 f.pl, .string f.vl]
def resC (l : List Re) : List Value := l.flatMap reC
def Ress (w : World) (v : Value) (l : List Re) : Prop :=
 ∃ a cap, v = .slice a l.length cap ∧ l.length ≤ cap ∧ cap ≤ maxLen ∧ (l.length = 0 ∨ ∃ b off, a = some ⟨b, off, none⟩ ∧ b < w.heap.size ∧ ∀ i, i < l.length → w.cell? ⟨b, off + i * 3, none⟩ = some (.int .i64 (l.getD i default).kd) ∧ w.cell? ⟨b, off + i * 3 + 1, none⟩ = some (.int .i64 (l.getD i default).pl) ∧ w.cell? ⟨b, off + i * 3 + 2, none⟩ = some (.string (l.getD i default).vl))
theorem Ress.below {w w' : World} {v : Value} {l : List Re} (h : Ress w v l) (hb : Below w.heap.size w w') : Ress w' v l := by
 obtain ⟨a, cap, hv, hn, hm, hc⟩ := h
 refine ⟨a, cap, hv, hn, hm, ?_⟩
 rcases hc with h0 | ⟨b, off, ha, hlt, hc⟩
 ·exact .inl h0
 ·exact .inr ⟨b, off, ha, Nat.lt_of_lt_of_le hlt hb.size, fun i hi => ⟨(hb.cell (p := ⟨b, off + i * 3, none⟩) hlt).trans (hc i hi).1, (hb.cell (p := ⟨b, off + i * 3 + 1, none⟩) hlt).trans (hc i hi).2.1, (hb.cell (p := ⟨b, off + i * 3 + 2, none⟩) hlt).trans (hc i hi).2.2⟩⟩
theorem resC_len (l : List Re) : (resC l).length = l.length * 3 := by
 induction l with
 | nil => rfl
 | cons f r ih => simp only [resC, List.flatMap_cons, List.length_append, List.length_cons] at ih ⊢; rw [ih]; simp [reC]; omega
theorem resC_app (x y : List Re) : resC (x ++ y) = resC x ++ resC y := by simp [resC]
theorem resC_get : ∀ (l : List Re) (i : Nat), i < l.length → (resC l)[i * 3]? = some (.int .i64 (l.getD i default).kd) ∧ (resC l)[i * 3 + 1]? = some (.int .i64 (l.getD i default).pl) ∧ (resC l)[i * 3 + 2]? = some (.string (l.getD i default).vl)
 | [], i, h => by simp at h
 | f :: r, 0, h => ⟨rfl, rfl, rfl⟩
 | f :: r, i + 1, h => by
  have ih := resC_get r i (by simpa using h)
  have e : resC (f :: r) = .int .i64 f.kd :: .int .i64 f.pl :: .string f.vl :: resC r := rfl
  rw [e, show (i + 1) * 3 = i * 3 + 1 + 1 + 1 by omega, show i * 3 + 1 + 1 + 1 + 1 = (i * 3 + 1) + 1 + 1 + 1 by omega, show i * 3 + 1 + 1 + 1 + 2 = (i * 3 + 2) + 1 + 1 + 1 by omega]
  simp only [List.getElem?_cons_succ, List.getD_cons_succ]
  exact ih
theorem resC_set : ∀ (l : List Re) (k : Nat) (f : Re), k < l.length → ((((resC l).set (k * 3) (.int .i64 f.kd)).set (k * 3 + 1) (.int .i64 f.pl)).set (k * 3 + 2) (.string f.vl)) = resC (l.set k f)
 | [], k, f, h => by simp at h
 | g :: r, 0, f, h => rfl
 | g :: r, k + 1, f, h => by
  have ih := resC_set r k f (by simpa using h)
  have e : ∀ (g : Re) (r : List Re), resC (g :: r) = .int .i64 g.kd :: .int .i64 g.pl :: .string g.vl :: resC r := fun _ _ => rfl
  rw [List.set_cons_succ, e, e, ← ih, show (k + 1) * 3 = k * 3 + 1 + 1 + 1 by omega, show k * 3 + 1 + 1 + 1 + 1 = (k * 3 + 1) + 1 + 1 + 1 by omega, show k * 3 + 1 + 1 + 1 + 2 = (k * 3 + 2) + 1 + 1 + 1 by omega]
  simp only [List.set_cons_succ]
def OwnRe (B : Nat) (w : World) (v : Value) (l : List Re) : Prop := w.ownsRow B 40 3 v l.length (resC l)
theorem OwnRe.cells {B : Nat} {w : World} {g cap n : Nat} {l : List Re} (h : w.ownsRow B 40 3 (.slice (some ⟨g, 0, none⟩) n cap) n (resC l)) (i : Nat) (hi : i < l.length) (hn : n = l.length) :
  w.cell? ⟨g, i * 3, none⟩ = some (.int .i64 (l.getD i default).kd) ∧ w.cell? ⟨g, i * 3 + 1, none⟩ = some (.int .i64 (l.getD i default).pl) ∧ w.cell? ⟨g, i * 3 + 2, none⟩ = some (.string (l.getD i default).vl) := by
 obtain ⟨e0, e1, e2⟩ := resC_get l i hi
 exact ⟨(h.cellAt _ (by omega)).trans e0, (h.cellAt _ (by omega)).trans e1, (h.cellAt _ (by omega)).trans e2⟩
theorem OwnRe.read {B : Nat} {w : World} {v : Value} {l : List Re} (h : OwnRe B w v l) : Ress w v l := by
 rcases h.2 with ⟨rfl, h0⟩ | ⟨g, cap, cur, rfl, hb, hg, hn, hm, _⟩
 ·obtain rfl := List.eq_nil_of_length_eq_zero h0
  exact ⟨none, 0, rfl, Nat.le_refl _, by unfold maxLen; omega, .inl rfl⟩
 ·refine ⟨_, _, rfl, hn, hm, .inr ⟨g, 0, rfl, (Array.getElem?_eq_some_iff.1 hg).1, fun i hi => ?_⟩⟩
  have := OwnRe.cells h i hi rfl
  simpa using this
theorem OwnRe.kept {T : Nat → Prop} {B : Nat} {w w' : World} {v : Value} {l : List Re} (h : OwnRe B w v l) (ht : Touch T w w') (hn : ∀ k, v.ownBlock = some k → ¬ T k) : OwnRe B w' v l := own_kept h ht hn
theorem OwnRe.below {B : Nat} {w w' : World} {v : Value} {l : List Re} (h : OwnRe B w v l) (hb : Below w.heap.size w w') : OwnRe B w' v l := h.kept (T := fun _ => False) (Touch.ofBelow hb) (fun _ _ h => h)
theorem OwnRe.lt {B : Nat} {w : World} {v : Value} {l : List Re} (h : OwnRe B w v l) : ∀ k, v.ownBlock = some k → B ≤ k ∧ k < w.heap.size := World.ownsRow.lt h
theorem OwnRe.down {B B' : Nat} {w : World} {v : Value} {l : List Re} (h : OwnRe B w v l) (hB : B' ≤ B) : OwnRe B' w v l := by
 obtain ⟨hl, hc⟩ := h
 refine ⟨hl, ?_⟩
 rcases hc with h0 | ⟨g, cap, cur, hv, hg, rest⟩
 ·exact .inl h0
 ·exact .inr ⟨g, cap, cur, hv, by omega, rest⟩
theorem OwnRe.nil (B : Nat) (w : World) : OwnRe B w (.slice none 0 0) [] := World.ownsRow_nil w B 40 3
theorem infoRe : (Tryz.prog.info? 40).map (fun i => (i.zero, i.size, i.bytes)) = some (some (.agg #[.int .i64 0, .int .i64 0, .string ⟨#[]⟩]), 3, 32) := by kernel_rfl
theorem wrapRe (n : Int) (h0 : 0 ≤ n) (h1 : n < 9223372036854775808) : IntKind.i64.wrap n = n := by
 simp only [IntKind.wrap, IntKind.bits, IntKind.signed]
 simp
 omega
theorem eqReply_any (f : Re) (w : World) :
  Calls Tryz.prog 13 #[.agg #[.int .i64 f.kd, .int .i64 f.pl, .string f.vl], .agg #[.int .i64 f.kd, .int .i64 f.pl, .string f.vl]] w fun e w' => e = .returned (.bool true) ∧ Below w.heap.size w w' := by
 obtain ⟨f0, f1, f2⟩ := f
 dsimp only
 go_enter Tryz.func13, Tryz.ntmps13
 go_wp2_with fail
 go_ret
 exact ⟨rfl, ((Below.refl _ _).alloc (Nat.le_refl _) _).alloc (by simp) _⟩
theorem eqReplyS_any (v v2 : Value) (l : List Re) (w : World) (h : Ress w v l) (h2 : Ress w v2 l) (hs : l.length ≤ 1048576) :
  Calls Tryz.prog 20 #[v, v2] w fun e w' => e = .returned (.bool true) ∧ Below w.heap.size w w' := by
 obtain ⟨a, cap, rfl, hn, hm, hc⟩ := h
 obtain ⟨a2, cap2, rfl, hn2, hm2, hc2⟩ := h2
 have HC := Hd hc
 have HC2 := Hd hc2
 clear hc hm hc2 hm2 hn hn2
 go_enter Tryz.func20, Tryz.ntmps20
 go_wp2_with fail
 go_loopw [5] (fun i wr => ∃ k : Nat, k ≤ l.length ∧ i = .int .i64 k ∧ Below w.heap.size w wr) (fun i _ => l.length - (intOf i).toNat)
 case atStart => exact ⟨0, Nat.zero_le _, rfl, Below.refl _ _⟩
 case round =>
  obtain ⟨k, hk, rfl, hb⟩ := hrel
  by_cases hlt : k < l.length
  ·obtain ⟨b, off, rfl, hbl, hsrc⟩ : ∃ b off, a = some ⟨b, off, none⟩ ∧ b < w.heap.size ∧ ∀ i, i < l.length → w.cell? ⟨b, off + i * 3, none⟩ = some (.int .i64 (l.getD i default).kd) ∧ w.cell? ⟨b, off + i * 3 + 1, none⟩ = some (.int .i64 (l.getD i default).pl) ∧ w.cell? ⟨b, off + i * 3 + 2, none⟩ = some (.string (l.getD i default).vl) := by
    rcases uh HC with h0 | h1
    ·omega
    ·exact h1
   obtain ⟨b2, off2, rfl, hbl2, hsrc2⟩ : ∃ b off, a2 = some ⟨b, off, none⟩ ∧ b < w.heap.size ∧ ∀ i, i < l.length → w.cell? ⟨b, off + i * 3, none⟩ = some (.int .i64 (l.getD i default).kd) ∧ w.cell? ⟨b, off + i * 3 + 1, none⟩ = some (.int .i64 (l.getD i default).pl) ∧ w.cell? ⟨b, off + i * 3 + 2, none⟩ = some (.string (l.getD i default).vl) := by
    rcases uh HC2 with h0 | h1
    ·omega
    ·exact h1
   obtain ⟨s0, s1, s2⟩ := hsrc k hlt
   obtain ⟨t0, t1, t2⟩ := hsrc2 k hlt
   have c0 := (hb.cell (p := ⟨b, off + k * 3, none⟩) hbl).trans s0
   have d0 := (hb.cell (p := ⟨b2, off2 + k * 3, none⟩) hbl2).trans t0
   have c1 := (hb.cell (p := ⟨b, off + k * 3 + 1, none⟩) hbl).trans s1
   have d1 := (hb.cell (p := ⟨b2, off2 + k * 3 + 1, none⟩) hbl2).trans t1
   have c2 := (hb.cell (p := ⟨b, off + k * 3 + 2, none⟩) hbl).trans s2
   have d2 := (hb.cell (p := ⟨b2, off2 + k * 3 + 2, none⟩) hbl2).trans t2
   have hk0 : (0 : Int) ≤ (k : Int) := by omega
   have hk1 : (k : Int) < (l.length : Int) := by omega
   have hbs := hb.size
   have HB := Hd hb
   clear hsrc hsrc2 s0 t0 s1 t1 s2 t2 hb
   generalize l.getD k default = f at *
   have HT := Hd (fun wx => eqReply_any f wx)
   obtain ⟨f0, f1, f2⟩ := f
   dsimp only at c0 d0 c1 d1 c2 d2 HT
   go_wp2_with fail
   go_region_held3 (fun wx => wx.cell? ⟨b, off + k * 3, none⟩ = some (.int .i64 f0) ∧ wx.cell? ⟨b, off + k * 3 + 1, none⟩ = some (.int .i64 f1) ∧ wx.cell? ⟨b, off + k * 3 + 2, none⟩ = some (.string f2) ∧ wx.cell? ⟨b2, off2 + k * 3, none⟩ = some (.int .i64 f0) ∧ wx.cell? ⟨b2, off2 + k * 3 + 1, none⟩ = some (.int .i64 f1) ∧ wx.cell? ⟨b2, off2 + k * 3 + 2, none⟩ = some (.string f2))
    (first | go_keep | exact ⟨(hb2.cell (p := ⟨b, off + k * 3, none⟩) (by simp; omega)).trans c0, (hb2.cell (p := ⟨b, off + k * 3 + 1, none⟩) (by simp; omega)).trans c1, (hb2.cell (p := ⟨b, off + k * 3 + 2, none⟩) (by simp; omega)).trans c2, (hb2.cell (p := ⟨b2, off2 + k * 3, none⟩) (by simp; omega)).trans d0, (hb2.cell (p := ⟨b2, off2 + k * 3 + 1, none⟩) (by simp; omega)).trans d1, (hb2.cell (p := ⟨b2, off2 + k * 3 + 2, none⟩) (by simp; omega)).trans d2⟩)
    ((go_at_call 13; refine (uh HT _).mono ?_; rintro e w2 ⟨rfl, hb2⟩))
   all_goals
    have HBZ := Hd ((uh HB).trans (show Below w.heap.size wr w2 from (below_drewN (Below.refl _ wr) 1).trans (hb2.mono (by simpa using hbs))))
    clear hb2 HB
    go_wp2_with fail
    refine ⟨⟨k + 1, by omega, by go_num, uh HBZ⟩, ?_⟩
    simp [intOf]; omega
  ·have HB := Hd hb
   clear hb
   go_wp2_with fail
   go_ret
   exact ⟨rfl, uh HB⟩
def rmk (c j : Nat) : Re := ⟨(c : Int) + 3 * (j : Int), (c : Int) + 3 * (j : Int) + 1, mtx (c + 3 * j + 2)⟩
def rmkTo (c : Nat) (l : List Re) (k : Nat) : List Re := (List.range l.length).map fun j => if j < k then rmk c j else l.getD j default
def rmks (c n : Nat) : List Re := (List.range n).map fun j => rmk c j
theorem rmkTo_len (c : Nat) (l : List Re) (k : Nat) : (rmkTo c l k).length = l.length := by simp [rmkTo]
theorem rmks_len (c n : Nat) : (rmks c n).length = n := by simp [rmks]
theorem rmks_get (c n j : Nat) (h : j < n) : (rmks c n).getD j default = rmk c j := by simp [rmks, List.getD_eq_getElem?_getD, h]
theorem rmkTo_zero (c : Nat) (l : List Re) : rmkTo c l 0 = l := by
 apply List.ext_getElem?
 intro j
 by_cases hj : j < l.length
 ·simp [rmkTo, hj, List.getD_eq_getElem?_getD]
 ·simp [rmkTo, hj]
theorem rmkTo_all (c : Nat) (l : List Re) : rmkTo c l l.length = rmks c l.length := by
 apply List.ext_getElem?
 intro j
 by_cases hj : j < l.length
 ·simp [rmkTo, rmks, hj]
 ·simp [rmkTo, rmks, hj]
theorem rmkTo_set (c : Nat) (l : List Re) (k : Nat) (hk : k < l.length) : (rmkTo c l k).set k (rmk c k) = rmkTo c l (k + 1) := by
 apply List.ext_getElem?
 intro j
 rw [List.getElem?_set]
 simp only [rmkTo_len]
 by_cases e : k = j
 ·subst e
  rw [if_pos rfl, if_pos hk]
  simp [rmkTo, hk]
 ·rw [if_neg e]
  by_cases hj : j < l.length
  ·by_cases h1 : j < k
   ·simp [rmkTo, hj, h1, show j < k + 1 by omega]
   ·simp [rmkTo, hj, h1, show ¬ j < k + 1 by omega]
  ·simp [rmkTo, hj]
theorem markReplyS_any (c : Nat) (hc0 : 0 < c) (hc1 : c ≤ 4194304) (B : Nat) (v : Value) (l : List Re) (w : World) (h : OwnRe B w v l) (hl : l.length ≤ 1048576) :
  Calls Tryz.prog 23 #[v, .int .i64 (c : Int)] w fun e w' => e = .returned (.int .i64 ((c : Int) + 3 * (l.length : Int))) ∧ OwnRe B w' v (rmks c l.length) ∧ Touch (fun k => v.ownBlock = some k) w w' := by
 rcases own_shape h with ⟨rfl, h0⟩ | ⟨g, cap, rfl, hB, hlt0, hn, hm⟩
 ·obtain rfl : l = [] := List.eq_nil_of_length_eq_zero h0
  have HO : Hid (OwnRe B w (.slice none 0 0) (rmks c 0)) := Hd h
  clear h
  go_enter Tryz.func23, Tryz.ntmps23
  go_wp2_with fail
  go_loop [1, 5] (fun k i => k = .int .i64 (c : Int) ∧ i = .int .i64 0) (fun _ _ => 0)
  case atStart => exact ⟨rfl, rfl⟩
  case round =>
   obtain ⟨rfl, rfl⟩ := hrel
   go_wp2_with fail
   go_ret
   exact ⟨ret_int (by simp), uh HO, Touch.refl _ _⟩
 ·have H : Hid (w.ownsRow B 40 3 (.slice (some ⟨g, 0, none⟩) l.length cap) l.length (resC (rmkTo c l 0))) := Hd (by rw [rmkTo_zero]; exact h)
  clear h
  go_enter Tryz.func23, Tryz.ntmps23
  go_wp2_with fail
  go_loopw [1, 5] (fun k i wr => ∃ j : Nat, j ≤ l.length ∧ k = .int .i64 ((c : Int) + 3 * (j : Int)) ∧ i = .int .i64 j ∧ wr.ownsRow B 40 3 (.slice (some ⟨g, 0, none⟩) l.length cap) l.length (resC (rmkTo c l j)) ∧ Touch (fun k => (Value.slice (some ⟨g, 0, none⟩) l.length cap).ownBlock = some k) w wr) (fun _ i _ => l.length - (intOf i).toNat)
  case atStart => exact ⟨0, Nat.zero_le _, congrArg (Value.int .i64) (by omega), rfl, uh H, Touch.refl _ _⟩
  case round =>
   obtain ⟨j, hj, rfl, rfl, hL, hT⟩ := hrel
   by_cases hlt2 : j < l.length
   ·have p0 : (0 : Int) ≤ (j : Int) := by omega
    have p1 : (j : Int) < (l.length : Int) := by omega
    have hfl := resC_len (rmkTo c l j)
    have hml := rmkTo_len c l j
    obtain ⟨g0, g1, g2⟩ := resC_get (rmkTo c l j) j (by omega)
    have q1 : IntKind.i64.wrap ((c : Int) + 3 * (j : Int) + 1) = (c : Int) + 3 * (j : Int) + 1 := wrapRe _ (by omega) (by omega)
    have q2 : IntKind.i64.wrap ((c : Int) + 3 * (j : Int) + 1 + 1) = (c : Int) + 3 * (j : Int) + 1 + 1 := wrapRe _ (by omega) (by omega)
    have q3 : IntKind.i64.wrap ((c : Int) + 3 * (j : Int) + 1 + 1 + 1) = (c : Int) + 3 * (j : Int) + 1 + 1 + 1 := wrapRe _ (by omega) (by omega)
    have c0 := (hL.cellAt (j * 3) (by omega)).trans g0
    have f0 := hL.frozenAt (j * 3)
    have c1 := (hL.cellAt (j * 3 + 1) (by omega)).trans g1
    have f1 := hL.frozenAt (j * 3 + 1)
    have hL1 := (hL.stored (j * 3) (.int .i64 ((c : Int) + 3 * (j : Int)))).1
    have hT1 := hT.setCell ⟨g, j * 3, none⟩ (.int .i64 ((c : Int) + 3 * (j : Int))) (fun _ => rfl)
    have hL2 := (hL1.stored (j * 3 + 1) (.int .i64 ((c : Int) + 3 * (j : Int) + 1))).1
    have hT2 := hT1.setCell ⟨g, j * 3 + 1, none⟩ (.int .i64 ((c : Int) + 3 * (j : Int) + 1)) (fun _ => rfl)
    have c2 := (hL2.cellAt (j * 3 + 2) (by omega)).trans ((List.getElem?_set_ne (by omega)).trans ((List.getElem?_set_ne (by omega)).trans g2))
    have HLL := Hd (And.intro hL2 hT2)
    have HCC : Hid (((wr.setCell ⟨g, j * 3, none⟩ (.int .i64 ((c : Int) + 3 * (j : Int)))).setCell ⟨g, j * 3 + 1, none⟩ (.int .i64 ((c : Int) + 3 * (j : Int) + 1))).cell? ⟨g, j * 3 + 2, none⟩ = some (.string ((rmkTo c l j).getD j default).vl)) := Hd c2
    have hset := resC_set (rmkTo c l j) j (rmk c j) (by omega)
    rw [rmkTo_set c l j hlt2] at hset
    simp only [rmk] at hset
    have HSET := Hd hset
    clear hset
    have HFL := Hd (And.intro hfl hml)
    clear hL hT hL1 hT1 hL2 hT2 c2 hfl hml g0 g1 g2
    generalize hdf : (rmkTo c l j).getD j default = df at *
    clear hdf
    go_wp2_with fail
    clear c0 f0 c1 f1
    generalize ((wr.setCell ⟨g, j * 3, none⟩ (.int .i64 ((c : Int) + 3 * (j : Int)))).setCell ⟨g, j * 3 + 1, none⟩ (.int .i64 ((c : Int) + 3 * (j : Int) + 1))) = u0 at *
    refine (markText_int _ (c + 3 * j + 2) (by omega) u0 (by omega) (by omega)).mono ?_
    rintro e u1 ⟨rfl, hb0⟩
    have hO0 := own_kept (T := fun _ => False) (uh HLL).1 (Touch.ofBelow hb0) (fun _ _ h => h)
    have hS0 : Touch (fun k => (Value.slice (some ⟨g, 0, none⟩) l.length cap).ownBlock = some k) w u1 := (uh HLL).2.trans (T' := fun _ => False) (Touch.ofBelow hb0) (fun _ _ h => h.elim)
    have hg0 : g < u0.heap.size := (World.ownsRow.lt (uh HLL).1 g rfl).2
    have c2 := (hb0.cell (p := ⟨g, j * 3 + 2, none⟩) hg0).trans (uh HCC)
    have f2 := hO0.frozenAt (j * 3 + 2)
    have hQ0 := (hO0.stored (j * 3 + 2) (.string (mtx (c + 3 * j + 2)))).1
    have hR0 := hS0.setCell ⟨g, j * 3 + 2, none⟩ (.string (mtx (c + 3 * j + 2))) (fun _ => rfl)
    rw [uh HSET] at hQ0
    have R6 := Hd (And.intro hQ0 hR0)
    clear hb0 hO0 hS0 hQ0 hR0 HLL HCC HSET HFL hg0
    generalize mtx (c + 3 * j + 2) = x2 at *
    go_wp2_with fail
    refine ⟨⟨j + 1, by omega, ?_, by go_num, (uh R6).1, (uh R6).2⟩, ?_⟩
    ·exact congrArg (Value.int .i64) (by omega)
    ·simp [intOf]; omega
   ·obtain rfl : j = l.length := by omega
    have R := Hd (And.intro hL hT)
    clear hL hT
    go_wp2_with fail
    go_ret
    refine ⟨rfl, ?_, (uh R).2⟩
    have := (uh R).1
    rw [rmkTo_all] at this
    unfold OwnRe
    rw [rmks_len]
    exact this
theorem heldReplyS_any (c : Nat) (hc0 : 0 < c) (hc1 : c ≤ 4194304) (B : Nat) (v : Value) (n : Nat) (w : World) (h : OwnRe B w v (rmks c n)) (hl : n ≤ 1048576) :
  Calls Tryz.prog 24 #[v, .int .i64 (c : Int)] w fun e w' => e = .returned (.int .i64 ((c : Int) + 3 * (n : Int))) ∧ Below w.heap.size w w' := by
 rcases own_shape h with ⟨rfl, h0⟩ | ⟨g, cap, rfl, hB, hlt0, hn, hm⟩
 ·rw [rmks_len] at h0
  subst h0
  clear h
  go_enter Tryz.func24, Tryz.ntmps24
  go_wp2_with fail
  go_loop [1, 5] (fun k i => k = .int .i64 (c : Int) ∧ i = .int .i64 0) (fun _ _ => 0)
  case atStart => exact ⟨rfl, rfl⟩
  case round =>
   obtain ⟨rfl, rfl⟩ := hrel
   go_wp2_with fail
   go_ret
   exact ⟨ret_int (by simp), Below.refl _ _⟩
 ·have HC := Hd (fun j (hj : j < n) => OwnRe.cells h j (by rw [rmks_len]; exact hj) rfl)
  have hml := rmks_len c n
  rw [hml]
  clear h hml
  go_enter Tryz.func24, Tryz.ntmps24
  go_wp2_with fail
  go_loopw [1, 5] (fun k i wr => ∃ j : Nat, j ≤ n ∧ k = .int .i64 ((c : Int) + 3 * (j : Int)) ∧ i = .int .i64 j ∧ Below w.heap.size w wr) (fun _ i _ => n - (intOf i).toNat)
  case atStart => exact ⟨0, Nat.zero_le _, congrArg (Value.int .i64) (by omega), rfl, Below.refl _ _⟩
  case round =>
   obtain ⟨j, hj, rfl, rfl, hb⟩ := hrel
   by_cases hlt2 : j < n
   ·obtain ⟨d0, d1, d2⟩ := uh HC j hlt2
    rw [rmks_get c n j hlt2] at d0 d1 d2
    simp only [rmk] at d0 d1 d2
    have HDD : Hid (w.cell? ⟨g, j * 3 + 2, none⟩ = some (.string (mtx (c + 3 * j + 2)))) := Hd d2
    have c0 := (hb.cell (p := ⟨g, j * 3, none⟩) hlt0).trans d0
    have c1 := (hb.cell (p := ⟨g, j * 3 + 1, none⟩) hlt0).trans d1
    have c2 := (hb.cell (p := ⟨g, j * 3 + 2, none⟩) hlt0).trans d2
    have p0 : (0 : Int) ≤ (j : Int) := by omega
    have p1 : (j : Int) < (n : Int) := by omega
    have q1 : IntKind.i64.wrap ((c : Int) + 3 * (j : Int) + 1) = (c : Int) + 3 * (j : Int) + 1 := wrapRe _ (by omega) (by omega)
    have q2 : IntKind.i64.wrap ((c : Int) + 3 * (j : Int) + 1 + 1) = (c : Int) + 3 * (j : Int) + 1 + 1 := wrapRe _ (by omega) (by omega)
    have q3 : IntKind.i64.wrap ((c : Int) + 3 * (j : Int) + 1 + 1 + 1) = (c : Int) + 3 * (j : Int) + 1 + 1 + 1 := wrapRe _ (by omega) (by omega)
    have HB := Hd hb
    have hz := hb.size
    clear hb d0 d1 d2
    go_wp2_with fail
    go_region_held3 (fun wx => wx.cell? ⟨g, j * 3 + 2, none⟩ = some (.string (mtx (c + 3 * j + 2)))) (first | go_keep | exact (hb0.cell (p := ⟨g, j * 3 + 2, none⟩) (by simp; omega)).trans (by assumption)) ((go_at_call 51; refine (markText_int _ (c + 3 * j + 2) (by omega) _ (by omega) (by omega)).mono ?_; rintro e v0 ⟨rfl, hb0⟩))
    all_goals
     have HBN := Hd ((uh HB).trans (show Below w.heap.size wr v0 from (below_drewN (Below.refl _ wr) 1).trans (hb0.mono (by simpa using hz))))
     clear hb0 HB hz
     have HB := HBN
     clear HBN
     have hz := (uh HB).size
     go_wp2_with fail
     refine ⟨⟨j + 1, by omega, congrArg (Value.int .i64) (by omega), by go_num, uh HB⟩, ?_⟩
     simp [intOf]; omega
   ·obtain rfl : j = n := by omega
    have R := Hd hb
    clear hb
    go_wp2_with fail
    go_ret
    exact ⟨rfl, uh R⟩
end Go.Proofs.YtnhhnjmjodmacaaGreatDoor
