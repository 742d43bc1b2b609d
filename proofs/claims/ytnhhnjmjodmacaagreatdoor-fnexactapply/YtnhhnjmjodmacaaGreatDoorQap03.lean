/- What the proof of the claim needs (joined by program): In Qb SeO ApQ Res Cs Sha. -/
import Derived.Test.YtnhhnjmjodmacaaGreatDoorQap00
import Derived.Test.YtnhhnjmjodmacaaGreatDoorQap02
import Derived.Test.YtnhhnjmjodmacaaGreatDoorQap01
import Derived.Deep.Quiet
import Derived.Deep.Fields
import Derived.Deep.Slices
import Derived.Deep.RegionHeld3
namespace Go.Proofs.YtnhhnjmjodmacaaGreatDoor
set_option maxRecDepth 100000
set_option maxHeartbeats 8000000
open Go.ChangeShapes Go.WideShapes Go.ChangeAt Go.RowKit
set_option linter.unusedVariables false
def inB (n lo hi : Int) : Bool := decide (lo ≤ n) && decide (n ≤ hi)
theorem inB_iff {n lo hi : Int} : inB n lo hi = true ↔ lo ≤ n ∧ n ≤ hi := by simp [inB]
theorem inB_no {n lo hi : Int} (h : inB n lo hi = false) : n < lo ∨ hi < n := by
 simp [inB] at h; omega
theorem within_any (n lo hi : Int) (w : World) :
  Calls Tryz.prog 72 #[.int .i64 n, .int .i64 lo, .int .i64 hi] w fun e w' => e = .returned (.bool (inB n lo hi)) ∧ w' = w := by
 by_cases h1 : lo ≤ n
 ·by_cases h2 : n ≤ hi
  ·have H := Hd (show inB n lo hi = true from inB_iff.2 ⟨h1, h2⟩)
   go_enter Tryz.func72, Tryz.ntmps72
   go_wp2
   go_ret
   exact ⟨ret_bool (uh H).symm, rfl⟩
  ·have H := Hd (show inB n lo hi = false by simp [inB]; omega)
   go_enter Tryz.func72, Tryz.ntmps72
   go_wp2
   go_ret
   exact ⟨ret_bool (uh H).symm, rfl⟩
 ·have H := Hd (show inB n lo hi = false by simp [inB]; omega)
  go_enter Tryz.func72, Tryz.ntmps72
  go_wp2
  go_ret
  exact ⟨ret_bool (uh H).symm, rfl⟩
theorem l01In_any (n lo hi : Int) (w : World) :
  Calls Tryz.prog 58 #[.int .i64 n, .int .i64 lo, .int .i64 hi] w fun e w' => e = .returned (.bool (inB n lo hi)) ∧ w' = w := by
 by_cases h1 : lo ≤ n
 ·by_cases h2 : n ≤ hi
  ·have H := Hd (show inB n lo hi = true from inB_iff.2 ⟨h1, h2⟩)
   go_enter Tryz.func58, Tryz.ntmps58
   go_wp2
   go_ret
   exact ⟨ret_bool (uh H).symm, rfl⟩
  ·have H := Hd (show inB n lo hi = false by simp [inB]; omega)
   go_enter Tryz.func58, Tryz.ntmps58
   go_wp2
   go_ret
   exact ⟨ret_bool (uh H).symm, rfl⟩
 ·have H := Hd (show inB n lo hi = false by simp [inB]; omega)
  go_enter Tryz.func58, Tryz.ntmps58
  go_wp2
  go_ret
  exact ⟨ret_bool (uh H).symm, rfl⟩

theorem five_cell {w wx : World} {B : Nat} {a b c d e : Value} {t : TypeId} (hB : B = w.heap.size) (h : Below (w.heap.size + 1) (w.alloc (.cells #[a, b, c, d, e] t)) wx) :
  wx.cell? ⟨B, 0, none⟩ = some a ∧ wx.cell? ⟨B, 1, none⟩ = some b ∧ wx.cell? ⟨B, 2, none⟩ = some c ∧ wx.cell? ⟨B, 3, none⟩ = some d ∧ wx.cell? ⟨B, 4, none⟩ = some e := by
 subst hB
 refine ⟨?_, ?_, ?_, ?_, ?_⟩
 all_goals
  rw [h.cell (by simp), World.cell?_alloc_at _ _ _ _ rfl]; rfl

def emptyB (s : ByteArray) : Bool := s.toList.isEmpty
theorem emptyB_iff {s : ByteArray} : emptyB s = true ↔ s.size = 0 := by
 unfold emptyB; rw [List.isEmpty_iff, ByteArray.toList_eq]
 constructor
 ·intro h; have : s.data.toList.length = 0 := by rw [h]; rfl
  rw [Array.length_toList] at this; exact this
 ·intro h; apply List.eq_nil_of_length_eq_zero; rw [Array.length_toList]; exact h
theorem ret_two {a : Value} {x y : Int} (h : x = y) : Ending.returned (.tuple #[a, .int .i64 x]) = .returned (.tuple #[a, .int .i64 y]) := by rw [h]
structure Wb (w : World) where
 at_ : World
 below : Below w.heap.size w at_
instance (w : World) : Inhabited (Wb w) := ⟨⟨w, Below.refl _ _⟩⟩
theorem wp_region_wb {P : Program} {id : Nat} {Q : Exit → Act → World → Prop} {a : Act} {w : World} {l : List Oper} (hm : P.follows .mixedOrders = true) (hB : Region.lexB .any l.toArray = true)
  (h : wpQuiet P l.toArray (fun w' => ∃ p : Wb w, w' = p.at_) (fun a' => ∀ w', (∃ p : Wb w, w' = p.at_) → Q .normal a' w') l a) : (Code.region id l.toArray true).wp P Q a w :=
 wp_region_quiet (C := fun w' => ∃ p : Wb w, w' = p.at_) hm hB ⟨⟨w.drew, below_drewN (Below.refl _ w) 1⟩, rfl⟩ (by simpa using h)
theorem Wb.cell {w : World} {a : Addr} {v : Value} (h : w.cell? a = some v) (hb : a.block < w.heap.size) (p : Wb w) : p.at_.cell? a = some v := (p.below.cell hb).trans h
theorem wb_same {P : Program} {f : FuncId} {args : Array Value} {w : World} {p : Wb w} {v : Value}
  (h : Calls P f args p.at_ fun e w' => e = .returned v ∧ w' = p.at_) : Calls P f args p.at_ fun e w'' => e = .returned v ∧ ∃ q : Wb w, w'' = q.at_ :=
 h.mono fun _ w' ⟨he, hb⟩ => ⟨he, p, hb⟩
def repB (kd pl : Int) (vl : ByteArray) : Bool := inB kd 0 6 && inB pl 0 50 && decide (vl.size ≤ 60)
def leastS (l : List Se) : Nat → Int
 | 0 => 0
 | i + 1 => (l.getD i default).id + 1
def sesAt (l : List Se) (i : Nat) : Bool := inB (l.getD i default).id (leastS l i) 65535 && inB (l.getD i default).sq 0 65535 && repB (l.getD i default).kd (l.getD i default).pl (l.getD i default).vl
def sesTo (l : List Se) (k : Nat) : Prop := ∀ i, i < k → sesAt l i = true
theorem sesTo.next {l : List Se} {k : Nat} (h : sesTo l k) (hk : sesAt l k = true) : sesTo l (k + 1) := fun i hi => by
 by_cases e : i = k
 ·subst e; exact hk
 ·exact h i (by omega)
theorem leastS_lo {l : List Se} : ∀ {k : Nat}, sesTo l k → 0 ≤ leastS l k
 | 0, _ => Int.le_refl _
 | k + 1, h => by
  have h1 := h k (by omega)
  have h2 := leastS_lo (l := l) (k := k) (fun i hi => h i (by omega))
  unfold sesAt at h1
  simp only [Bool.and_eq_true] at h1
  have := (inB_iff.1 h1.1.1).1
  show 0 ≤ (l.getD k default).id + 1
  omega
def sesB (l : List Se) : Bool := decide (l.length ≤ 8) && (List.range l.length).all (sesAt l)
theorem ses_bad {l : List Se} {k : Nat} (hk : k < l.length) (h : sesAt l k = false) : sesB l = false := by
 have : (List.range l.length).all (sesAt l) = false := by
  rw [List.all_eq_false]; exact ⟨k, by simpa using hk, by simp [h]⟩
 unfold sesB; rw [this]; simp
theorem ses_all {l : List Se} (h3 : l.length ≤ 8) (h : sesTo l l.length) : sesB l = true := by
 have : (List.range l.length).all (sesAt l) = true := by
  rw [List.all_eq_true]; exact fun i hi => h i (by simpa using hi)
 unfold sesB; rw [this, decide_eq_true h3]; simp
theorem sesB_all {l : List Se} (h : sesB l = true) : l.length ≤ 8 ∧ sesTo l l.length := by
 unfold sesB at h
 rw [Bool.and_eq_true, List.all_eq_true] at h
 exact ⟨by simpa using h.1, fun i hi => h.2 i (by simpa using hi)⟩
theorem wrapSes (n : Int) (h0 : 0 ≤ n) (h1 : n < 9223372036854775808) : IntKind.i64.wrap n = n := by
 simp only [IntKind.wrap, IntKind.bits, IntKind.signed]
 simp
 omega
theorem replyOK_any (kd pl : Int) (vl : ByteArray) (w : World) (hv : vl.size ≤ maxLen) :
  Calls Tryz.prog 96 #[.agg #[.int .i64 kd, .int .i64 pl, .string vl]] w fun e w' => e = .returned (.bool (repB kd pl vl)) ∧ Below w.heap.size w w' := by
 have B0 := Hd (bal w (.cells #[.int .i64 kd, .int .i64 pl, .string vl] 40))
 unfold maxLen at hv
 rcases Bool.eq_false_or_eq_true (inB kd 0 6) with h1 | h1
 case inr =>
  have HD : Hid (repB kd pl vl = false) := Hd (by unfold repB; rw [h1]; simp)
  go_enter Tryz.func96, Tryz.ntmps96
  go_wp2_with (go_at_call 72; refine (within_any _ _ _ _).mono ?_; rintro e w' ⟨rfl, hw'⟩; have hw2 := hw'.symm; clear hw'; subst hw2)
  go_ret
  exact ⟨ret_bool (uh HD).symm, uh B0⟩
 rcases Bool.eq_false_or_eq_true (inB pl 0 50) with h2 | h2
 case inr =>
  have HD : Hid (repB kd pl vl = false) := Hd (by unfold repB; rw [h2]; simp)
  go_enter Tryz.func96, Tryz.ntmps96
  go_wp2_with (go_at_call 72; refine (within_any _ _ _ _).mono ?_; rintro e w' ⟨rfl, hw'⟩; have hw2 := hw'.symm; clear hw'; subst hw2)
  go_ret
  exact ⟨ret_bool (uh HD).symm, uh B0⟩
 by_cases h3 : vl.size ≤ 60
 ·have HD : Hid (repB kd pl vl = true) := Hd (by unfold repB; rw [h1, h2, decide_eq_true h3]; rfl)
  have h3b : (vl.size : Int) ≤ 60 := by omega
  go_enter Tryz.func96, Tryz.ntmps96
  go_wp2_with (go_at_call 72; refine (within_any _ _ _ _).mono ?_; rintro e w' ⟨rfl, hw'⟩; have hw2 := hw'.symm; clear hw'; subst hw2)
  go_ret
  exact ⟨ret_bool (by rw [uh HD]; try simp [h3b]), uh B0⟩
 ·have HD : Hid (repB kd pl vl = false) := Hd (by unfold repB; rw [decide_eq_false h3]; simp)
  have h3b : ¬ (vl.size : Int) ≤ 60 := by omega
  go_enter Tryz.func96, Tryz.ntmps96
  go_wp2_with (go_at_call 72; refine (within_any _ _ _ _).mono ?_; rintro e w' ⟨rfl, hw'⟩; have hw2 := hw'.symm; clear hw'; subst hw2)
  go_ret
  exact ⟨ret_bool (by rw [uh HD]; try simp [h3b]), uh B0⟩
theorem sessionsOK_any (v : Value) (l : List Se) (w : World) (h : Sess w v l) (hs : ∀ i, (l.getD i default).vl.size ≤ 1048576) :
  Calls Tryz.prog 68 #[v] w fun e w' => e = .returned (.bool (sesB l)) ∧ Below w.heap.size w w' := by
 obtain ⟨a, cap, rfl, hn, hm, hc⟩ := h
 have HC := Hd hc
 have HS := Hd hs
 have hlm : l.length ≤ 9223372036854775807 := by unfold maxLen at hm; omega
 clear hc hs hm hn
 by_cases h3 : l.length ≤ 8
 case neg =>
  have HD : Hid (sesB l = false) := Hd (by unfold sesB; rw [decide_eq_false h3]; simp)
  have h3b : (8 : Int) < (l.length : Int) := by omega
  go_enter Tryz.func68, Tryz.ntmps68
  go_wp2_with fail
  go_ret
  exact ⟨ret_bool (uh HD).symm, Below.refl _ _⟩
 have h3b : ¬ (8 : Int) < (l.length : Int) := by omega
 go_enter Tryz.func68, Tryz.ntmps68
 go_wp2_with fail
 go_loopw [3, 11] (fun ls i wr => ∃ k : Nat, k ≤ l.length ∧ ls = .int .i64 (leastS l k) ∧ i = .int .i64 k ∧ sesTo l k ∧ Below w.heap.size w wr) (fun _ i _ => l.length - (intOf i).toNat)
 case atStart => exact ⟨0, Nat.zero_le _, rfl, rfl, fun i hi => by omega, Below.refl _ _⟩
 case round =>
  obtain ⟨k, hk, rfl, rfl, hgo, hb⟩ := hrel
  by_cases hlt : k < l.length
  ·obtain ⟨b, off, rfl, hbl, hsrc⟩ : ∃ b off, a = some ⟨b, off, none⟩ ∧ b < w.heap.size ∧ ∀ i, i < l.length → w.cell? ⟨b, off + i * 5, none⟩ = some (.int .i64 (l.getD i default).id) ∧ w.cell? ⟨b, off + i * 5 + 1, none⟩ = some (.int .i64 (l.getD i default).sq) ∧ w.cell? ⟨b, off + i * 5 + 2, none⟩ = some (.int .i64 (l.getD i default).kd) ∧ w.cell? ⟨b, off + i * 5 + 3, none⟩ = some (.int .i64 (l.getD i default).pl) ∧ w.cell? ⟨b, off + i * 5 + 4, none⟩ = some (.string (l.getD i default).vl) := by
    rcases uh HC with h0 | h1
    ·omega
    ·exact h1
   obtain ⟨s0, s1, s2, s3, s4⟩ := hsrc k hlt
   have e0 := (hb.cell (p := ⟨b, off + k * 5, none⟩) hbl).trans s0
   have e1 := (hb.cell (p := ⟨b, off + k * 5 + 1, none⟩) hbl).trans s1
   have e2 := (hb.cell (p := ⟨b, off + k * 5 + 2, none⟩) hbl).trans s2
   have e3 := (hb.cell (p := ⟨b, off + k * 5 + 3, none⟩) hbl).trans s3
   have e4 := (hb.cell (p := ⟨b, off + k * 5 + 4, none⟩) hbl).trans s4
   have hk0 : (0 : Int) ≤ (k : Int) := by omega
   have hk1 : (k : Int) < (l.length : Int) := by omega
   have hfz := uh HS k
   have hbs := hb.size
   have HB := Hd hb
   have HGo := Hd hgo
   have hlo := leastS_lo hgo
   have HEB : Hid (sesAt l k = (inB (l.getD k default).id (leastS l k) 65535 && inB (l.getD k default).sq 0 65535 && repB (l.getD k default).kd (l.getD k default).pl (l.getD k default).vl)) := Hd rfl
   have HLS : Hid (leastS l (k + 1) = (l.getD k default).id + 1) := Hd rfl
   clear hsrc s0 s1 s2 s3 s4 hb hgo
   generalize leastS l k = ls at *
   generalize l.getD k default = f at *
   obtain ⟨f0, f1, f2, f3, f4⟩ := f
   dsimp only at e0 e1 e2 e3 e4 hfz HEB HLS
   have hnm : f4.size ≤ maxLen := by unfold maxLen; omega
   have b0 := Hd (bal wr (.cells #[.int .i64 f0, .int .i64 f1, .int .i64 f2, .int .i64 f3, .string f4] 106))
   have y0 := Hd (Blk.new wr #[.int .i64 f0, .int .i64 f1, .int .i64 f2, .int .i64 f3, .string f4] 106 wr.heap.size rfl)
   have BW := Hd ((uh HB).trans ((uh b0).mono hbs))
   rcases Bool.eq_false_or_eq_true (inB f0 ls 65535) with hi | hi
   case inr =>
    have HD := Hd (ses_bad hlt (by rw [uh HEB, hi]; simp))
    go_wp2_with (go_at_call 72; refine (within_any _ _ _ _).mono ?_; rintro e w' ⟨rfl, hw'⟩; have hw2 := hw'.symm; clear hw'; subst hw2)
    go_ret
    exact ⟨ret_bool (uh HD).symm, uh BW⟩
   rcases Bool.eq_false_or_eq_true (inB f1 0 65535) with hj | hj
   case inr =>
    have HD := Hd (ses_bad hlt (by rw [uh HEB, hj]; simp))
    go_wp2_with (go_at_call 72; refine (within_any _ _ _ _).mono ?_; rintro e w' ⟨rfl, hw'⟩; have hw2 := hw'.symm; clear hw'; subst hw2)
    go_ret
    exact ⟨ret_bool (uh HD).symm, uh BW⟩
   have hi2 := (inB_iff.1 hi).2
   have HR := Hd (fun wx => replyOK_any f2 f3 f4 wx hnm)
   go_wp2_with (go_at_call 72; refine (within_any _ _ _ _).mono ?_; rintro e w' ⟨rfl, hw'⟩; have hw2 := hw'.symm; clear hw'; subst hw2)
   generalize wr.alloc (.cells #[.int .i64 f0, .int .i64 f1, .int .i64 f2, .int .i64 f3, .string f4] 106) = w1 at *
   refine (uh HR w1).mono ?_
   rintro e w2 ⟨rfl, hb2⟩
   have Y2 := (uh y0).below hb2
   have g0 := Y2.cell 0 rfl
   have HB2 := hbt BW hb2
   clear hb2 Y2 e0 e1 e2 e3 e4
   rcases Bool.eq_false_or_eq_true (repB f2 f3 f4) with ho | ho
   case inr =>
    have HD := Hd (ses_bad hlt (by rw [uh HEB, ho]; simp))
    rw [ho]
    go_wp2_with fail
    go_ret
    exact ⟨ret_bool (uh HD).symm, uh HB2⟩
   rw [ho]
   have HN := Hd ((uh HGo).next (by rw [uh HEB, ho, hi, hj]; rfl))
   have hw0 : IntKind.i64.wrap (f0 + 1) = f0 + 1 := wrapSes _ (by have := (inB_iff.1 hi).1; omega) (by omega)
   go_wp2_with fail
   refine ⟨⟨k + 1, by omega, by rw [uh HLS], by go_num, uh HN, uh HB2⟩, ?_⟩
   simp [intOf]; omega
  ·obtain rfl : k = l.length := by omega
   have HD := Hd (ses_all h3 hgo)
   have HBW := Hd hb
   clear hb hgo
   go_wp2_with fail
   go_ret
   exact ⟨ret_bool (uh HD).symm, uh HBW⟩
end Go.Proofs.YtnhhnjmjodmacaaGreatDoor
namespace Go.Proofs.YtnhhnjmjodmacaaGreatDoor
set_option maxRecDepth 100000
set_option maxHeartbeats 8000000
open Go.ChangeShapes Go.WideShapes Go.ChangeAt Go.RowKit Go.Deep
set_option linter.unusedVariables false
set_option linter.unusedSimpArgs false
def newS (id : Int) : Se := ⟨id, 0, 0, 0, ⟨#[]⟩⟩
structure IsPos (ss : List Se) (id : Int) (q : Nat) : Prop where
 le : q ≤ ss.length
 lo : ∀ i, i < q → (ss.getD i default).id < id
 hi : ∀ i, q ≤ i → i < ss.length → id ≤ (ss.getD i default).id
theorem IsPos.uniq {ss : List Se} {id : Int} {q r : Nat} (h : IsPos ss id q) (g : IsPos ss id r) : q = r := by
 rcases Nat.lt_trichotomy q r with e | e | e
 ·have h1 := g.lo q e
  have h2 := h.hi q (Nat.le_refl _) (by have := g.le; omega)
  omega
 ·exact e
 ·have h1 := h.lo r e
  have h2 := g.hi r (Nat.le_refl _) (by have := h.le; omega)
  omega
def posS : List Se → Int → Nat
 | [], _ => 0
 | s :: r, id => if s.id < id then posS r id + 1 else 0
def RiseS (ss : List Se) : Prop := ∀ i j, i < j → j < ss.length → (ss.getD i default).id < (ss.getD j default).id
theorem RiseS.tail {s : Se} {r : List Se} (h : RiseS (s :: r)) : RiseS r := fun i j hij hj => by
 have := h (i + 1) (j + 1) (by omega) (by simp; omega)
 simpa using this
theorem pos_is {id : Int} : ∀ {ss : List Se}, RiseS ss → IsPos ss id (posS ss id)
 | [], _ => ⟨Nat.le_refl _, fun i hi => by simp [posS] at hi, fun i _ hi => by simp at hi⟩
 | s :: r, h => by
  have ih := pos_is (id := id) h.tail
  unfold posS
  by_cases hs : s.id < id
  ·rw [if_pos hs]
   refine ⟨by simp; exact ih.le, fun i hi => ?_, fun i hi hl => ?_⟩
   ·cases i with
    | zero => simpa using hs
    | succ i => simpa using ih.lo i (by omega)
   ·cases i with
    | zero => omega
    | succ i => simpa using ih.hi i (by omega) (by simp at hl; omega)
  ·rw [if_neg hs]
   refine ⟨Nat.zero_le _, fun i hi => by omega, fun i _ hl => ?_⟩
   cases i with
   | zero => simp; omega
   | succ i =>
    have := h 0 (i + 1) (by omega) hl
    simp at this ⊢
    omega
def hasS (ss : List Se) (id : Int) : Bool := decide (posS ss id < ss.length ∧ (ss.getD (posS ss id) default).id = id)
def insS (ss : List Se) (q : Nat) (s : Se) : List Se := ss.take q ++ s :: ss.drop q
def delS (ss : List Se) (q : Nat) : List Se := ss.take q ++ ss.drop (q + 1)
theorem insS_len (ss : List Se) (q : Nat) (s : Se) (h : q ≤ ss.length) : (insS ss q s).length = ss.length + 1 := by
 unfold insS; simp; omega
theorem insS_get (ss : List Se) (q : Nat) (s : Se) (h : q ≤ ss.length) (i : Nat) : (insS ss q s).getD i default = if i < q then ss.getD i default else if i = q then s else ss.getD (i - 1) default := by
 unfold insS
 rw [List.getD_eq_getElem?_getD, List.getElem?_append]
 have hl : (ss.take q).length = q := by simp; omega
 rw [hl]
 by_cases h1 : i < q
 ·rw [if_pos h1, if_pos h1, List.getElem?_take_of_lt h1, ← List.getD_eq_getElem?_getD]
 ·rw [if_neg h1, if_neg h1]
  by_cases h2 : i = q
  ·subst h2; simp
  ·rw [if_neg h2, show i - q = (i - q - 1) + 1 by omega, List.getElem?_cons_succ, List.getElem?_drop, ← List.getD_eq_getElem?_getD, show q + (i - q - 1) = i - 1 by omega]
theorem delS_len (ss : List Se) (q : Nat) (h : q < ss.length) : (delS ss q).length = ss.length - 1 := by
 unfold delS; simp; omega
theorem delS_get (ss : List Se) (q : Nat) (h : q < ss.length) (i : Nat) : (delS ss q).getD i default = if i < q then ss.getD i default else ss.getD (i + 1) default := by
 unfold delS
 rw [List.getD_eq_getElem?_getD, List.getElem?_append]
 have hl : (ss.take q).length = q := by simp; omega
 rw [hl]
 by_cases h1 : i < q
 ·rw [if_pos h1, if_pos h1, List.getElem?_take_of_lt h1, ← List.getD_eq_getElem?_getD]
 ·rw [if_neg h1, if_neg h1, List.getElem?_drop, ← List.getD_eq_getElem?_getD, show q + 1 + (i - q) = i + 1 by omega]
theorem setS_get (ss : List Se) (q : Nat) (s : Se) (h : q < ss.length) (i : Nat) : (ss.set q s).getD i default = if i = q then s else ss.getD i default := by
 rw [List.getD_eq_getElem?_getD, List.getElem?_set]
 by_cases h1 : q = i
 ·subst h1; simp [h]
 ·rw [if_neg h1, if_neg (fun e => h1 e.symm), ← List.getD_eq_getElem?_getD]
theorem mem_getD {ss : List Se} {s : Se} (h : s ∈ ss) : ∃ i, i < ss.length ∧ ss.getD i default = s := by
 obtain ⟨i, hi, e⟩ := List.getElem_of_mem h
 exact ⟨i, hi, by rw [List.getD_eq_getElem?_getD, List.getElem?_eq_getElem hi]; exact e⟩
theorem getD_mem {ss : List Se} {i : Nat} (h : i < ss.length) : ss.getD i default ∈ ss := by
 rw [List.getD_eq_getElem?_getD, List.getElem?_eq_getElem h]; exact List.getElem_mem h
theorem has_iff {ss : List Se} {id : Int} : hasS ss id = true ↔ posS ss id < ss.length ∧ (ss.getD (posS ss id) default).id = id := by unfold hasS; simp
theorem ins_rise {ss : List Se} {id : Int} (h : RiseS ss) (hn : hasS ss id = false) : RiseS (insS ss (posS ss id) (newS id)) := by
 have hp := pos_is (id := id) h
 have hn' : ¬ (posS ss id < ss.length ∧ (ss.getD (posS ss id) default).id = id) := fun e => by rw [has_iff.2 e] at hn; cases hn
 intro i j hij hj
 rw [insS_len _ _ _ hp.le] at hj
 rw [insS_get _ _ _ hp.le, insS_get _ _ _ hp.le]
 have hid : (newS id).id = id := rfl
 have hlo := hp.lo
 have hhi := hp.hi
 by_cases a1 : i < posS ss id
 ·rw [if_pos a1]
  by_cases b1 : j < posS ss id
  ·rw [if_pos b1]; exact h i j hij (by have := hp.le; omega)
  ·rw [if_neg b1]
   by_cases b2 : j = posS ss id
   ·rw [if_pos b2, hid]; exact hlo i a1
   ·rw [if_neg b2]
    have h1 := hlo i a1
    have h2 := hhi (j - 1) (by omega) (by omega)
    omega
 ·rw [if_neg a1, if_neg (by omega : ¬ j < posS ss id), if_neg (by omega : ¬ j = posS ss id)]
  by_cases a2 : i = posS ss id
  ·rw [if_pos a2, hid]
   have h2 := hhi (j - 1) (by omega) (by omega)
   by_cases e : j - 1 = posS ss id
   ·have : (ss.getD (j - 1) default).id ≠ id := fun e2 => hn' ⟨by omega, by rw [← e]; exact e2⟩
    omega
   ·have h3 := h (posS ss id) (j - 1) (by omega) (by omega)
    have h4 := hhi (posS ss id) (Nat.le_refl _) (by omega)
    omega
  ·rw [if_neg a2]; exact h (i - 1) (j - 1) (by omega) (by omega)
theorem del_rise {ss : List Se} {q : Nat} (h : RiseS ss) (hq : q < ss.length) : RiseS (delS ss q) := by
 intro i j hij hj
 rw [delS_len _ _ hq] at hj
 rw [delS_get _ _ hq, delS_get _ _ hq]
 split
 ·split
  ·exact h i j hij (by omega)
  ·exact h i (j + 1) (by omega) (by omega)
 ·rw [if_neg (by omega)]; exact h (i + 1) (j + 1) (by omega) (by omega)
theorem set_rise {ss : List Se} {q : Nat} {s : Se} (h : RiseS ss) (hq : q < ss.length) (hs : s.id = (ss.getD q default).id) : RiseS (ss.set q s) := by
 have e : ∀ i, ((ss.set q s).getD i default).id = (ss.getD i default).id := fun i => by
  rw [setS_get _ _ _ hq]
  split
  ·rename_i hi; rw [hi, hs]
  ·rfl
 intro i j hij hj
 rw [e, e]
 exact h i j hij (by simpa using hj)
structure Re where
 kd : Int
 pl : Int
 vl : ByteArray
deriving Inhabited
theorem eqReply_any (f : Re) (w : World) :
  Calls Tryz.prog 13 #[.agg #[.int .i64 f.kd, .int .i64 f.pl, .string f.vl], .agg #[.int .i64 f.kd, .int .i64 f.pl, .string f.vl]] w fun e w' => e = .returned (.bool true) ∧ Below w.heap.size w w' := by
 obtain ⟨f0, f1, f2⟩ := f
 dsimp only
 go_enter Tryz.func13, Tryz.ntmps13
 go_wp2_with fail
 go_ret
 exact ⟨rfl, ((Below.refl _ _).alloc (Nat.le_refl _) _).alloc (by simp) _⟩
end Go.Proofs.YtnhhnjmjodmacaaGreatDoor
namespace Go.Proofs.YtnhhnjmjodmacaaGreatDoor
set_option maxRecDepth 100000
set_option maxHeartbeats 8000000
open Go.ChangeShapes Go.WideShapes Go.ChangeAt Go.RowKit
set_option linter.unusedVariables false
set_option linter.unusedSimpArgs false
structure Cm where
 kd : Int
 ss : Int
 sq : Int
 ky : ByteArray
 vl : ByteArray
deriving Inhabited
end Go.Proofs.YtnhhnjmjodmacaaGreatDoor
namespace Go.Proofs.YtnhhnjmjodmacaaGreatDoor.Sha
set_option maxRecDepth 100000
set_option maxHeartbeats 8000000
open Go.RowKit
set_option linter.unusedVariables false
def rotr (x n : Nat) : Nat := x / 2 ^ n ||| x * 2 ^ (32 - n) % 4294967296
theorem rotr_lt {x : Nat} (h : x < 4294967296) (n : Nat) : rotr x n < 4294967296 := by
 unfold rotr
 exact Nat.or_lt_two_pow (n := 32) (Nat.lt_of_le_of_lt (Nat.div_le_self _ _) h) (Nat.mod_lt _ (by omega))
theorem xor_lt {a b : Nat} (h : a < 4294967296) (h2 : b < 4294967296) : a ^^^ b < 4294967296 := Nat.xor_lt_two_pow (n := 32) h h2
theorem or_lt {a b : Nat} (h : a < 4294967296) (h2 : b < 4294967296) : a ||| b < 4294967296 := Nat.or_lt_two_pow (n := 32) h h2
theorem and_lt {a b : Nat} (h : a < 4294967296) : a &&& b < 4294967296 := Nat.lt_of_le_of_lt Nat.and_le_left h
theorem div_lt {a : Nat} (h : a < 4294967296) (n : Nat) : a / n < 4294967296 := Nat.lt_of_le_of_lt (Nat.div_le_self _ _) h

def add (a b : Nat) : Nat := (a + b) % 4294967296
theorem add_lt (a b : Nat) : add a b < 4294967296 := Nat.mod_lt _ (by omega)
theorem add_comm (a b : Nat) : add a b = add b a := by unfold add; rw [Nat.add_comm]
def s0 (x : Nat) : Nat := rotr x 7 ^^^ rotr x 18 ^^^ x / 8
def s1 (x : Nat) : Nat := rotr x 17 ^^^ rotr x 19 ^^^ x / 1024
def bE (x : Nat) : Nat := rotr x 6 ^^^ rotr x 11 ^^^ rotr x 25
def bA (x : Nat) : Nat := rotr x 2 ^^^ rotr x 13 ^^^ rotr x 22
def ch (e f g : Nat) : Nat := e &&& f ||| (4294967295 ^^^ e) &&& g
def maj (a b c : Nat) : Nat := a &&& b ||| a &&& c ||| b &&& c
theorem not_lt {x : Nat} (h : x < 4294967296) : 4294967295 ^^^ x < 4294967296 := xor_lt (by omega) h
theorem ch_xor {e : Nat} (f g : Nat) (h : e < 4294967296) : (e &&& f) ^^^ ((4294967295 ^^^ e) &&& g) = ch e f g := by
 unfold ch
 apply Nat.eq_of_testBit_eq
 intro i
 have hm : Nat.testBit 4294967295 i = decide (i < 32) := Nat.testBit_two_pow_sub_one 32 i
 simp only [Nat.testBit_xor, Nat.testBit_or, Nat.testBit_and, hm]
 by_cases hi : i < 32
 ·simp only [hi, decide_true]
  cases e.testBit i <;> cases f.testBit i <;> cases g.testBit i <;> rfl
 ·have he : e.testBit i = false := Nat.testBit_lt_two_pow (Nat.lt_of_lt_of_le (show e < 2 ^ 32 from h) (Nat.pow_le_pow_right (Nat.zero_lt_succ 1) (show 32 ≤ i by omega)))
  simp only [he, hi, decide_false]
  cases f.testBit i <;> cases g.testBit i <;> rfl
theorem maj_xor (a b c : Nat) : (a &&& b) ^^^ (a &&& c) ^^^ (b &&& c) = maj a b c := by
 unfold maj
 apply Nat.eq_of_testBit_eq
 intro i
 simp only [Nat.testBit_xor, Nat.testBit_or, Nat.testBit_and]
 cases a.testBit i <;> cases b.testBit i <;> cases c.testBit i <;> rfl

theorem wxor {a b : Nat} (h : a < 4294967296) (h2 : b < 4294967296) : bits BinOp.xor IntKind.u32 (a : Int) (b : Int) = ((a ^^^ b : Nat) : Int) := u32_xor_nat a b h h2
theorem wor {a b : Nat} (h : a < 4294967296) (h2 : b < 4294967296) : bits BinOp.or IntKind.u32 (a : Int) (b : Int) = ((a ||| b : Nat) : Int) := u32_or_nat a b h h2
theorem wand {a b : Nat} (h : a < 4294967296) (h2 : b < 4294967296) : bits BinOp.and IntKind.u32 (a : Int) (b : Int) = ((a &&& b : Nat) : Int) := u32_and_nat a b h h2
theorem wnot {a : Nat} (h : a < 4294967296) : bits BinOp.xor IntKind.u32 IntKind.u32.max (a : Int) = ((4294967295 ^^^ a : Nat) : Int) := u32_xor_nat 4294967295 a (by omega) h
theorem wadd (a b : Nat) : ((a : Int) + (b : Int)) % 4294967296 = ((add a b : Nat) : Int) := by unfold add; omega
theorem wrotr {x : Nat} (n : Nat) (h : x < 4294967296) : bits BinOp.or IntKind.u32 ((x : Int) / 2 ^ n) ((x : Int) * 2 ^ (32 - n) % 4294967296) = ((rotr x n : Nat) : Int) := by
 have e1 : (x : Int) / 2 ^ n = ((x / 2 ^ n : Nat) : Int) := by rw [Int.natCast_ediv, Int.natCast_pow]; rfl
 have e2 : (x : Int) * 2 ^ (32 - n) % 4294967296 = ((x * 2 ^ (32 - n) % 4294967296 : Nat) : Int) := by
  rw [Int.natCast_emod, Int.natCast_mul, Int.natCast_pow]; rfl
 rw [e1, e2, wor (div_lt h _) (Nat.mod_lt _ (by omega))]
 rfl
theorem wrotl {x : Nat} (n : Nat) (h : x < 4294967296) : bits BinOp.or IntKind.u32 ((x : Int) * 2 ^ (32 - n) % 4294967296) ((x : Int) / 2 ^ n) = ((rotr x n : Nat) : Int) := by
 have e1 : (x : Int) / 2 ^ n = ((x / 2 ^ n : Nat) : Int) := by rw [Int.natCast_ediv, Int.natCast_pow]; rfl
 have e2 : (x : Int) * 2 ^ (32 - n) % 4294967296 = ((x * 2 ^ (32 - n) % 4294967296 : Nat) : Int) := by
  rw [Int.natCast_emod, Int.natCast_mul, Int.natCast_pow]; rfl
 rw [e1, e2, wor (Nat.mod_lt _ (by omega)) (div_lt h _), Nat.or_comm]
 rfl
theorem wturn (n : Nat) (h1 : 1 ≤ n) (h2 : n ≤ 31) : bits BinOp.and IntKind.u64 (IntKind.u64.wrap (-(n : Int))) 31 = ((32 - n : Nat) : Int) := by
 have e : IntKind.u64.wrap (-(n : Int)) = ((18446744073709551616 - n : Nat) : Int) := by
  simp only [IntKind.wrap, IntKind.bits, IntKind.signed]
  simp; omega
 rw [e, show (31 : Int) = ((31 : Nat) : Int) from rfl, u64_and_nat _ 31 (by omega) (by omega)]
 have : (18446744073709551616 - n) &&& 31 = (18446744073709551616 - n) % 32 := Nat.and_two_pow_sub_one_eq_mod _ 5
 rw [this]; omega
end Go.Proofs.YtnhhnjmjodmacaaGreatDoor.Sha
