/- What the proof of the claim needs (joined by program): AqA ApJ AqP. -/
import Derived.Test.YtnhhnjmjodmacaaGreatDoorQap40
import Derived.Test.YtnhhnjmjodmacaaGreatDoorQap46
import Derived.Test.YtnhhnjmjodmacaaGreatDoorQap23
import Derived.Test.YtnhhnjmjodmacaaGreatDoorQap01
import Derived.Test.YtnhhnjmjodmacaaGreatDoorQap03
import Derived.Test.YtnhhnjmjodmacaaGreatDoorQap33
import Derived.Deep.RegionHeld3
import Derived.Deep.DeepCutAuto
import Derived.Laws.Cover1
import Derived.Laws.StructEq
import Derived.Deep.Cut
namespace Go.Proofs.YtnhhnjmjodmacaaGreatDoor.Sha
set_option maxRecDepth 100000
set_option maxHeartbeats 8000000
open Go.ChangeShapes Go.WideShapes Go.ChangeAt Go.RowKit Go.Deep
set_option linter.unusedVariables false
set_option linter.unusedSimpArgs false
def zLst : Lst := ⟨[], none, []⟩
theorem grownR {w5 w6 : World} {r : Option Nat} (hg : w5.grownBy w6 r) : Touch (fun q => r = some q) w5 w6 := (Touch.refl _ w5).grown hg (fun q hq _ => hq)
theorem OwnS.down' {B B' : Nat} {w : World} {v : Value} {l : List ByteArray} (h : OwnS B w v l) (hB : B' ≤ B) : OwnS B' w v l := by
 rcases h.2 with ⟨e, h0⟩ | ⟨g, cap, cur, e, hb, hr⟩
 ·exact ⟨h.1, .inl ⟨e, h0⟩⟩
 ·exact ⟨h.1, .inr ⟨g, cap, cur, e, Nat.le_trans hB hb, hr⟩⟩
theorem Bk.nil {w : World} {B p : Nat} (h : Blk w p [.slice none 0 0, .pointer none, .slice none 0 0]) (hB : B ≤ p) : Bk B w p (.slice none 0 0) none (.slice none 0 0) (fun _ => False) [] none [] :=
 ⟨h, hB, OwnS.nil _ _, OwnSe.nil _ _, rfl, (fun x h => h.elim), (fun e => by cases e), (fun e => by cases e), fun x e => by cases e⟩
def zRe : Re := ⟨0, 0, ⟨#[]⟩⟩
open Classical in
noncomputable def apyO (ls : List ByteArray) (b : Br) (ss : List Se) (c : Cm) : Lst × Re × Int :=
 if ledB ls b ss = true ∧ cmK c = true then ((apOut ⟨ls, (mapV b).getD none, ss⟩ c).1, (apOut ⟨ls, (mapV b).getD none, ss⟩ c).2, 0) else (zLst, zRe, 1)
theorem apyO_bad {ls : List ByteArray} {b : Br} {ss : List Se} {c : Cm} (h : ¬ (ledB ls b ss = true ∧ cmK c = true)) : apyO ls b ss c = (zLst, zRe, 1) := by unfold apyO; rw [if_neg h]
theorem apyO_good {ls : List ByteArray} {b : Br} {ss : List Se} {c : Cm} {o : Option Tr} (h : ledB ls b ss = true) (h2 : cmK c = true) (hm : mapV b = some o) : apyO ls b ss c = ((apOut ⟨ls, o, ss⟩ c).1, (apOut ⟨ls, o, ss⟩ c).2, 0) := by unfold apyO; rw [if_pos ⟨h, h2⟩, hm]; rfl
def ApyE (w : World) (x : Lst × Re × Int) (e : Ending) (w' : World) : Prop :=
 ∃ la lc ka kn kc sa sc, e = .returned (.tuple #[.agg #[.slice la x.1.ls.length lc, .string (brOf x.1.o).key, .string (brOf x.1.o).val, .int .i64 (brOf x.1.o).at_, .slice ka kn kc, .slice sa x.1.ss.length sc], .agg #[.int .i64 x.2.1.kd, .int .i64 x.2.1.pl, .string x.2.1.vl], .int .i64 x.2.2]) ∧ LedO w.heap.size w' (.slice la x.1.ls.length lc) (.slice ka kn kc) (.slice sa x.1.ss.length sc) x.1.ls (brOf x.1.o).kids x.1.ss ∧ Below w.heap.size w w'
theorem LedO.nil (B : Nat) (w : World) : LedO B w (.slice none 0 0) (.slice none 0 0) (.slice none 0 0) [] [] [] :=
 ⟨OwnS.nil _ _, OwnSe.nil _ _, (fun y h => by cases h), fun _ => False, .nil _ none 0 (by unfold maxLen; omega), fun y h => h.elim⟩
theorem apy_bad {w w' : World} {x : Lst × Re × Int} (h : x = (zLst, zRe, 1)) (hb : Below w.heap.size w w') : ApyE w x (.returned (.tuple #[.agg #[.slice none 0 0, .string ⟨#[]⟩, .string ⟨#[]⟩, .int .i64 0, .slice none 0 0, .slice none 0 0], .agg #[.int .i64 0, .int .i64 0, .string ⟨#[]⟩], .int .i64 1])) w' := by
 subst h
 exact ⟨none, 0, none, 0, 0, none, 0, rfl, LedO.nil _ _, hb⟩
theorem apy_tell {w w' : World} {x y : Lst × Re × Int} {e : Ending} (he : x = y) (h : ApyE w y e w') : ApyE w x e w' := by rw [he]; exact h
theorem implApply_any (ls : List ByteArray) (k v : ByteArray) (a : Int) (ks : List Br) (ss : List Se) (lb loff lc : Nat) (ka : Option Addr) (kc : Nat) (sx : Addr) (sc : Nat) (c : Cm) (w : World)
  (hS : SA w lb loff lc ls) (h : LedR w (.slice (some ⟨lb, loff, none⟩) ls.length lc) (.slice ka ks.length kc) (.slice (some sx) ss.length sc) ls ks ss) (t1 : ∀ i, (ls.getD i ByteArray.empty).size ≤ 1048576) (zk : k.size ≤ maxLen) (zv : v.size ≤ maxLen) (t3 : ∀ i, (ss.getD i default).vl.size ≤ 1048576) (hcz : c.ky.size ≤ maxLen ∧ c.vl.size ≤ maxLen) (ht : Tab w) :
  Calls Tryz.prog 11 #[.agg #[.slice (some ⟨lb, loff, none⟩) ls.length lc, .string k, .string v, .int .i64 a, .slice ka ks.length kc, .slice (some sx) ss.length sc], .agg #[.int .i64 c.kd, .int .i64 c.ss, .int .i64 c.sq, .string c.ky, .string c.vl]] w fun e w' => ApyE w (apyO ls (.mk k v a ks) ss c) e w' := by
 have HBAD : Hid (∀ w', apyO ls (.mk k v a ks) ss c = (zLst, zRe, 1) → Below w.heap.size w w' → ApyE w (apyO ls (.mk k v a ks) ss c) (.returned (.tuple #[.agg #[.slice none 0 0, .string ⟨#[]⟩, .string ⟨#[]⟩, .int .i64 0, .slice none 0 0, .slice none 0 0], .agg #[.int .i64 0, .int .i64 0, .string ⟨#[]⟩], .int .i64 1])) w') := Hd (fun w' h hb => apy_bad h hb)
 have HB := Hd (fun hx => apyO_bad (ls := ls) (b := .mk k v a ks) (ss := ss) (c := c) hx)
 have HG := Hd (fun o hx hy hm => apyO_good (ls := ls) (b := .mk k v a ks) (ss := ss) (c := c) (o := o) hx hy hm)
 have HL := Hd (fun o hx hm => lok_of (ls := ls) (b := .mk k v a ks) (ss := ss) (o := o) hx hm)
 have HTE := Hd (fun (y : Lst × Re × Int) e w' (he : apyO ls (.mk k v a ks) ss c = y) (hh : ApyE w y e w') => apy_tell he hh)
 have HTB := Hd ht
 have HOB := Hd (fun wx (hx : Below w.heap.size w wx) => openBook_any ls k v a ks ss lb loff lc ka kc sx sc wx (hS.below hx) (h.below hx) t1 zk zv t3 (ht.below hx))
 have HCO := Hd (fun wx => implCommandOK_any c.kd c.ss c.sq c.ky c.vl wx hcz.1 hcz.2)
 have hck : cmdOK c.kd c.ss c.sq c.ky c.vl = cmK c := rfl
 rw [hck] at HCO
 clear hck hS h t1 zk zv t3 hcz
 have hg1 : 0 < w.heap.size := ht.1.1
 have hg2 : 1 < w.heap.size := ht.2.1
 clear ht
 generalize apyO ls (.mk k v a ks) ss c = out at *
 have B0 := Hd ((((bal w (.cells #[.slice (some ⟨lb, loff, none⟩) ls.length lc, .string k, .string v, .int .i64 a, .slice ka ks.length kc, .slice (some sx) ss.length sc] 38)).alloc (by simp) (.cells #[.int .i64 c.kd, .int .i64 c.ss, .int .i64 c.sq, .string c.ky, .string c.vl] 44)).alloc (by simp; omega) (.cells #[.slice none 0 0, .string ⟨#[]⟩, .string ⟨#[]⟩, .int .i64 0, .slice none 0 0, .slice none 0 0] 38)).alloc (by simp; omega) (.cells #[.int .i64 0, .int .i64 0, .string ⟨#[]⟩] 40))
 have X0 := Hd ((((Blk.new w #[.slice (some ⟨lb, loff, none⟩) ls.length lc, .string k, .string v, .int .i64 a, .slice ka ks.length kc, .slice (some sx) ss.length sc] 38 w.heap.size rfl).alloc (.cells #[.int .i64 c.kd, .int .i64 c.ss, .int .i64 c.sq, .string c.ky, .string c.vl] 44)).alloc (.cells #[.slice none 0 0, .string ⟨#[]⟩, .string ⟨#[]⟩, .int .i64 0, .slice none 0 0, .slice none 0 0] 38)).alloc (.cells #[.int .i64 0, .int .i64 0, .string ⟨#[]⟩] 40))
 have C0 := Hd (((Blk.new (w.alloc (.cells #[.slice (some ⟨lb, loff, none⟩) ls.length lc, .string k, .string v, .int .i64 a, .slice ka ks.length kc, .slice (some sx) ss.length sc] 38)) #[.int .i64 c.kd, .int .i64 c.ss, .int .i64 c.sq, .string c.ky, .string c.vl] 44 (w.heap.size + 1) (by simp)).alloc (.cells #[.slice none 0 0, .string ⟨#[]⟩, .string ⟨#[]⟩, .int .i64 0, .slice none 0 0, .slice none 0 0] 38)).alloc (.cells #[.int .i64 0, .int .i64 0, .string ⟨#[]⟩] 40))
 have L0 := Hd ((Blk.new ((w.alloc (.cells #[.slice (some ⟨lb, loff, none⟩) ls.length lc, .string k, .string v, .int .i64 a, .slice ka ks.length kc, .slice (some sx) ss.length sc] 38)).alloc (.cells #[.int .i64 c.kd, .int .i64 c.ss, .int .i64 c.sq, .string c.ky, .string c.vl] 44)) #[.slice none 0 0, .string ⟨#[]⟩, .string ⟨#[]⟩, .int .i64 0, .slice none 0 0, .slice none 0 0] 38 (w.heap.size + 2) (by simp)).alloc (.cells #[.int .i64 0, .int .i64 0, .string ⟨#[]⟩] 40))
 have R0 := Hd (Blk.new (((w.alloc (.cells #[.slice (some ⟨lb, loff, none⟩) ls.length lc, .string k, .string v, .int .i64 a, .slice ka ks.length kc, .slice (some sx) ss.length sc] 38)).alloc (.cells #[.int .i64 c.kd, .int .i64 c.ss, .int .i64 c.sq, .string c.ky, .string c.vl] 44)).alloc (.cells #[.slice none 0 0, .string ⟨#[]⟩, .string ⟨#[]⟩, .int .i64 0, .slice none 0 0, .slice none 0 0] 38)) #[.int .i64 0, .int .i64 0, .string ⟨#[]⟩] 40 (w.heap.size + 3) (by simp))
 go_enter Tryz.func11, Tryz.ntmps11
 go_upto_region 1 with fail
 generalize (((w.alloc (.cells #[.slice (some ⟨lb, loff, none⟩) ls.length lc, .string k, .string v, .int .i64 a, .slice ka ks.length kc, .slice (some sx) ss.length sc] 38)).alloc (.cells #[.int .i64 c.kd, .int .i64 c.ss, .int .i64 c.sq, .string c.ky, .string c.vl] 44)).alloc (.cells #[.slice none 0 0, .string ⟨#[]⟩, .string ⟨#[]⟩, .int .i64 0, .slice none 0 0, .slice none 0 0] 38)).alloc (.cells #[.int .i64 0, .int .i64 0, .string ⟨#[]⟩] 40) = w0 at *
 have HW := Hd (fun wx (hx : Below w0.heap.size w0 wx) => (show w.heap.size + 3 < wx.heap.size from Nat.lt_of_lt_of_le (uh R0).1 hx.size))
 have hw0 : w.heap.size + 3 < w0.heap.size := (uh R0).1
 obtain ⟨⟨x0, x1, x2, x3, x4, x5⟩, _⟩ := Blk.c6 (uh X0)
 have HO1 := Hd (uh HOB w0 (uh B0))
 clear HOB
 go_wp2_with fail
 refine (uh HO1).mono ?_
 rintro e w1 ⟨pv, rfl, hb1, hbk⟩
 have KB1 := Hd hb1
 have HBK := Hd hbk
 clear hb1 hbk
 go_upto_region 2 with fail
 clear HO1 x0 x1 x2 x3 x4 x5
 have K1 := Hd ((uh B0).trans ((uh KB1).mono (uh B0).size))
 have C1 := Hd ((uh C0).below (uh KB1))
 have L1 := Hd ((uh L0).below (uh KB1))
 have R1 := Hd ((uh R0).below (uh KB1))
 have hw1 := uh HW w1 (uh KB1)
 clear B0 C0 L0 R0 X0
 cases hlb : ledB ls (.mk k v a ks) ss
 ·have E := Hd (uh HB (fun h => by rw [hlb] at h; cases h.1))
  have RL := L1
  have RR := R1
  clear HBK
  have RLX := uh RL
  have RRX := uh RR
  obtain ⟨⟨l0, l1, l2, l3, l4, l5⟩, lf0, lf1, lf2, lf3, lf4, lf5⟩ := Blk.c6 RLX
  obtain ⟨⟨r0, r1, r2⟩, rf0, rf1, rf2⟩ := Blk.c3 RRX
  have T8 := (((((((Touch.refl (fun x => x = w.heap.size + 2 ∨ x = w.heap.size + 3) w1).setCell ⟨w.heap.size + 2, 0, none⟩ (.slice none 0 0) (fun _ => .inl rfl)).setCell ⟨w.heap.size + 2, 1, none⟩ (.string ⟨#[]⟩) (fun _ => .inl rfl)).setCell ⟨w.heap.size + 2, 2, none⟩ (.string ⟨#[]⟩) (fun _ => .inl rfl)).setCell ⟨w.heap.size + 2, 3, none⟩ (.int .i64 0) (fun _ => .inl rfl)).setCell ⟨w.heap.size + 2, 4, none⟩ (.slice none 0 0) (fun _ => .inl rfl)).setCell ⟨w.heap.size + 2, 5, none⟩ (.slice none 0 0) (fun _ => .inl rfl))
  have T9 := (((T8.setCell ⟨w.heap.size + 3, 0, none⟩ (.int .i64 0) (fun _ => .inr rfl)).setCell ⟨w.heap.size + 3, 1, none⟩ (.int .i64 0) (fun _ => .inr rfl)).setCell ⟨w.heap.size + 3, 2, none⟩ (.string ⟨#[]⟩) (fun _ => .inr rfl))
  have N9 := Hd (((((((((RLX.set 0 (.slice none 0 0) (by simp)).set 1 (.string ⟨#[]⟩) (by simp)).set 2 (.string ⟨#[]⟩) (by simp)).set 3 (.int .i64 0) (by simp)).set 4 (.slice none 0 0) (by simp)).set 5 (.slice none 0 0) (by simp)).other (C := w.heap.size + 3) 0 (.int .i64 0) (by omega)).other (C := w.heap.size + 3) 1 (.int .i64 0) (by omega)).other (C := w.heap.size + 3) 2 (.string ⟨#[]⟩) (by omega))
  have V9 := Hd (((((((((RRX.other (C := w.heap.size + 2) 0 (.slice none 0 0) (by omega)).other (C := w.heap.size + 2) 1 (.string ⟨#[]⟩) (by omega)).other (C := w.heap.size + 2) 2 (.string ⟨#[]⟩) (by omega)).other (C := w.heap.size + 2) 3 (.int .i64 0) (by omega)).other (C := w.heap.size + 2) 4 (.slice none 0 0) (by omega)).other (C := w.heap.size + 2) 5 (.slice none 0 0) (by omega)).set 0 (.int .i64 0) (by simp)).set 1 (.int .i64 0) (by simp)).set 2 (.string ⟨#[]⟩) (by simp))
  have K9 := Hd ((uh K1).trans (T9.below (uh K1).size (fun x hx e => by rcases e with e | e <;> omega)))
  clear T8 T9 RLX RRX
  go_wp2_with fail
  have N9' := uh N9
  have V9' := uh V9
  obtain ⟨⟨z0, z1, z2, z3, z4, z5⟩, _⟩ := Blk.c6 N9'
  have u0 := V9'.cell 0 rfl
  have u1 := V9'.cell 1 rfl
  have u2 := V9'.cell 2 rfl
  refine bodyPost_ret (v := .tuple #[.agg #[.slice none 0 0, .string ⟨#[]⟩, .string ⟨#[]⟩, .int .i64 0, .slice none 0 0, .slice none 0 0], .agg #[.int .i64 0, .int .i64 0, .string ⟨#[]⟩], .int .i64 1]) (by simp [results, Tryz.results11, go_sem, z0, z1, z2, z3, z4, z5, u0, u1, u2]) rfl ?_
  exact (uh HBAD) _ (uh E) (uh K9)
 obtain ⟨p, g, gc, tp, hh, hc, S, om, rfl, hmo, bk1⟩ := uh HBK hlb
 have BK1 := Hd bk1
 have HLO := Hd (uh HL om hlb hmo)
 clear bk1 HBK HL
 have HC1 := Hd (uh HCO w1)
 obtain ⟨y0, y1, y2, y3, y4⟩ := Blk.c5 (uh C1)
 cases hcc : cmK c
 ·rw [hcc] at HC1
  have E := Hd (uh HB (fun h => by rw [hcc] at h; cases h.2))
  go_wp2_with fail
  refine (uh HC1).mono ?_
  rintro e w2 ⟨rfl, hb2⟩
  have K2 := hbt K1 hb2
  have RL := Hd ((uh L1).below hb2)
  have RR := Hd ((uh R1).below hb2)
  have hw2 : w.heap.size + 3 < w2.heap.size := (uh RR).1
  clear hb2 HC1 y0 y1 y2 y3 y4 L1 R1 C1 K1
  have RLX := uh RL
  have RRX := uh RR
  obtain ⟨⟨l0, l1, l2, l3, l4, l5⟩, lf0, lf1, lf2, lf3, lf4, lf5⟩ := Blk.c6 RLX
  obtain ⟨⟨r0, r1, r2⟩, rf0, rf1, rf2⟩ := Blk.c3 RRX
  have T8 := (((((((Touch.refl (fun x => x = w.heap.size + 2 ∨ x = w.heap.size + 3) w2).setCell ⟨w.heap.size + 2, 0, none⟩ (.slice none 0 0) (fun _ => .inl rfl)).setCell ⟨w.heap.size + 2, 1, none⟩ (.string ⟨#[]⟩) (fun _ => .inl rfl)).setCell ⟨w.heap.size + 2, 2, none⟩ (.string ⟨#[]⟩) (fun _ => .inl rfl)).setCell ⟨w.heap.size + 2, 3, none⟩ (.int .i64 0) (fun _ => .inl rfl)).setCell ⟨w.heap.size + 2, 4, none⟩ (.slice none 0 0) (fun _ => .inl rfl)).setCell ⟨w.heap.size + 2, 5, none⟩ (.slice none 0 0) (fun _ => .inl rfl))
  have T9 := (((T8.setCell ⟨w.heap.size + 3, 0, none⟩ (.int .i64 0) (fun _ => .inr rfl)).setCell ⟨w.heap.size + 3, 1, none⟩ (.int .i64 0) (fun _ => .inr rfl)).setCell ⟨w.heap.size + 3, 2, none⟩ (.string ⟨#[]⟩) (fun _ => .inr rfl))
  have N9 := Hd (((((((((RLX.set 0 (.slice none 0 0) (by simp)).set 1 (.string ⟨#[]⟩) (by simp)).set 2 (.string ⟨#[]⟩) (by simp)).set 3 (.int .i64 0) (by simp)).set 4 (.slice none 0 0) (by simp)).set 5 (.slice none 0 0) (by simp)).other (C := w.heap.size + 3) 0 (.int .i64 0) (by omega)).other (C := w.heap.size + 3) 1 (.int .i64 0) (by omega)).other (C := w.heap.size + 3) 2 (.string ⟨#[]⟩) (by omega))
  have V9 := Hd (((((((((RRX.other (C := w.heap.size + 2) 0 (.slice none 0 0) (by omega)).other (C := w.heap.size + 2) 1 (.string ⟨#[]⟩) (by omega)).other (C := w.heap.size + 2) 2 (.string ⟨#[]⟩) (by omega)).other (C := w.heap.size + 2) 3 (.int .i64 0) (by omega)).other (C := w.heap.size + 2) 4 (.slice none 0 0) (by omega)).other (C := w.heap.size + 2) 5 (.slice none 0 0) (by omega)).set 0 (.int .i64 0) (by simp)).set 1 (.int .i64 0) (by simp)).set 2 (.string ⟨#[]⟩) (by simp))
  have K9 := Hd ((uh K2).trans (T9.below (uh K2).size (fun x hx e => by rcases e with e | e <;> omega)))
  clear T8 T9 RLX RRX
  go_wp2_with fail
  have N9' := uh N9
  have V9' := uh V9
  obtain ⟨⟨z0, z1, z2, z3, z4, z5⟩, _⟩ := Blk.c6 N9'
  have u0 := V9'.cell 0 rfl
  have u1 := V9'.cell 1 rfl
  have u2 := V9'.cell 2 rfl
  refine bodyPost_ret (v := .tuple #[.agg #[.slice none 0 0, .string ⟨#[]⟩, .string ⟨#[]⟩, .int .i64 0, .slice none 0 0, .slice none 0 0], .agg #[.int .i64 0, .int .i64 0, .string ⟨#[]⟩], .int .i64 1]) (by simp [results, Tryz.results11, go_sem, z0, z1, z2, z3, z4, z5, u0, u1, u2]) rfl ?_
  exact (uh HBAD) _ (uh E) (uh K9)
 rw [hcc] at HC1
 have E := Hd (uh HG om hlb hcc hmo)
 have HCK := Hd hcc
 clear hcc hlb hmo HB HG HBAD
 go_wp2_with fail
 refine (uh HC1).mono ?_
 rintro e w2 ⟨rfl, hb2⟩
 have KB2 := hbt KB1 hb2
 have K2 := hbt K1 hb2
 have C2 := Hd ((uh C1).below hb2)
 have L2 := Hd ((uh L1).below hb2)
 have R2 := Hd ((uh R1).below hb2)
 have BK2 := Hd ((uh BK1).below hb2)
 clear hb2 HC1 y0 y1 y2 y3 y4 C1 L1 R1 BK1 K1 KB1 hw1
 have hs2 := (uh KB2).size
 have HAP := Hd (apply_any w0.heap.size p _ _ tp S ls om ss c w2 (uh BK2) (uh HLO) (uh HCK) hs2 ((uh HTB).below (uh K2)) (by omega) (by omega))
 have HLN := Hd (ap_ok (uh HLO) (uh HCK)).1
 generalize apOut ⟨ls, om, ss⟩ c = y at *
 obtain ⟨⟨lsN, oN, ssN⟩, rN⟩ := y
 dsimp only at E
 obtain ⟨y0, y1, y2, y3, y4⟩ := Blk.c5 (uh C2)
 go_wp2_with fail
 refine (uh HAP).mono ?_
 rintro e w3 ⟨rfl, lv2, tp2, sv2, S2, bk3, _, t3⟩
 dsimp only at bk3 ⊢
 have hge := fun x (hx : ¬ Av p (.slice (some ⟨g, 0, none⟩) ls.length gc) (.slice (some ⟨hh, 0, none⟩) ss.length hc) S x) => (uh BK2).ge x hx
 have KB3 := Hd ((uh KB2).trans (t3.below hs2 (fun x hx e => by have := hge x e; omega)))
 have K3 := Hd ((uh K2).trans (t3.below (uh K2).size (fun x hx e => by have := hge x e; omega)))
 have L3 := Hd ((uh L2).kept t3 (fun e => by have := hge _ e; omega))
 have R3 := Hd ((uh R2).kept t3 (fun e => by have := hge _ e; omega))
 have BK3 := Hd bk3
 clear bk3 t3 hge HAP y0 y1 y2 y3 y4 C2 L2 R2 BK2 K2 KB2
 have bA := bal w3 (.cells #[.int .i64 rN.kd, .int .i64 rN.pl, .string rN.vl] 40)
 have V4 := Hd (Blk.new w3 #[.int .i64 rN.kd, .int .i64 rN.pl, .string rN.vl] 40 w3.heap.size rfl)
 have NZ := Blk.new w3 #[.int .i64 0, .int .i64 0, .string ⟨#[]⟩] 40 w3.heap.size rfl
 obtain ⟨⟨zc0, zc1, zc2⟩, zf0, zf1, zf2⟩ := Blk.c3 NZ
 have KB4 := hbt KB3 bA
 have K4 := hbt K3 bA
 have L4 := Hd ((uh L3).below bA)
 have R4 := Hd ((uh R3).below bA)
 have BK4 := Hd ((uh BK3).below bA)
 have hvb : w0.heap.size ≤ w3.heap.size := (uh KB3).size
 clear NZ bA KB3 K3 L3 R3 BK3
 go_upto_region 5 with fail
 clear zc0 zf0 zc1 zf1 zc2 zf2
 generalize w3.alloc (.cells #[.int .i64 rN.kd, .int .i64 rN.pl, .string rN.vl] 40) = w4 at *
 generalize w3.heap.size = vb at *
 have hs4 := (uh KB4).size
 have hvw : vb < w4.heap.size := (uh V4).1
 have HLE := Hd (fun wx (hx : Below w4.heap.size w4 wx) => ledger_any w0.heap.size p lv2 sv2 tp2 S2 lsN oN ssN wx ((uh BK4).below hx) (uh HLN).ok (Nat.le_trans hs4 hx.size))
 have v0 := (uh V4).cell 0 rfl
 have v1 := (uh V4).cell 1 rfl
 have v2 := (uh V4).cell 2 rfl
 refine wp_region_noPanic ?_
 refine wp_region_held_drew (S := (fun wx => wx.cell? ⟨vb, 0, none⟩ = some (.int .i64 rN.kd) ∧ wx.cell? ⟨vb, 1, none⟩ = some (.int .i64 rN.pl) ∧ wx.cell? ⟨vb, 2, none⟩ = some (.string rN.vl))) (by kernel_rfl) ?_ (fun hHeld => ?_)
 ·exact ⟨v0, v1, v2⟩
 refine tkH 0 rfl ?_
 refine tkH 2 rfl ?_
 have hdr := below_drewN (Below.refl w4.heap.size w4) 1
 change Below w4.heap.size w4 w4.drew at hdr
 have KD := Hd hdr
 have HL5 := Hd (uh HLE w4.drew hdr)
 clear hdr HLE
 generalize w4.drew = w5 at *
 refine rdy1 1 rfl (fun K hK => ?_)
 go_simp
 refine (uh HL5).mono ?_
 rintro e w6 ⟨kv, rfl, ho1, ho2, hap, hbo, hb6⟩
 have KD6 := hbt KD hb6
 have HLO2 := Hd (show LedO w0.heap.size w6 lv2 kv sv2 lsN (brOf oN).kids ssN from ⟨ho1, ho2, hap, _, hbo, fun x hx => ⟨by have h1 := hx.1; have h2 := (uh KD).size; omega, hx.2, (fun e => by have h1 := (((uh BK4).below (uh KD)).2.2.1.lt x e).2; have h2 := hx.1; omega), (fun e => by have h1 := (((uh BK4).below (uh KD)).2.2.2.1.lt x e).2; have h2 := hx.1; omega)⟩⟩)
 obtain ⟨la2, lc2, rfl, _⟩ := ho1.strs
 obtain ⟨sa2, sc2, rfl, _⟩ := ho2.read
 obtain ⟨ka2, kc2, rfl, _⟩ := hbo.shape
 generalize hkn : (brOf oN).kids.length = kn2 at *
 clear ho1 ho2 hap hbo hb6 hkn
 go_wp2_with fail
 refine outH hK ?_ (fun hHeld => ?_)
 ·exact ⟨((uh KD6).cell (p := ⟨vb, 0, none⟩) hvw).trans v0, ((uh KD6).cell (p := ⟨vb, 1, none⟩) hvw).trans v1, ((uh KD6).cell (p := ⟨vb, 2, none⟩) hvw).trans v2⟩
 clear hK K
 have RLX := (uh L4).below (uh KD6)
 have RRX := (uh R4).below (uh KD6)
 obtain ⟨⟨l0, l1, l2, l3, l4, l5⟩, lf0, lf1, lf2, lf3, lf4, lf5⟩ := Blk.c6 RLX
 obtain ⟨⟨r0, r1, r2⟩, rf0, rf1, rf2⟩ := Blk.c3 RRX
 have T8 := (((((((Touch.refl (fun x => x = w.heap.size + 2 ∨ x = w.heap.size + 3) w6).setCell ⟨w.heap.size + 2, 0, none⟩ (.slice la2 lsN.length lc2) (fun _ => .inl rfl)).setCell ⟨w.heap.size + 2, 1, none⟩ (.string (brOf oN).key) (fun _ => .inl rfl)).setCell ⟨w.heap.size + 2, 2, none⟩ (.string (brOf oN).val) (fun _ => .inl rfl)).setCell ⟨w.heap.size + 2, 3, none⟩ (.int .i64 (brOf oN).at_) (fun _ => .inl rfl)).setCell ⟨w.heap.size + 2, 4, none⟩ (.slice ka2 kn2 kc2) (fun _ => .inl rfl)).setCell ⟨w.heap.size + 2, 5, none⟩ (.slice sa2 ssN.length sc2) (fun _ => .inl rfl))
 have T9 := (((T8.setCell ⟨w.heap.size + 3, 0, none⟩ (.int .i64 rN.kd) (fun _ => .inr rfl)).setCell ⟨w.heap.size + 3, 1, none⟩ (.int .i64 rN.pl) (fun _ => .inr rfl)).setCell ⟨w.heap.size + 3, 2, none⟩ (.string rN.vl) (fun _ => .inr rfl))
 have N9 := Hd (((((((((RLX.set 0 (.slice la2 lsN.length lc2) (by simp)).set 1 (.string (brOf oN).key) (by simp)).set 2 (.string (brOf oN).val) (by simp)).set 3 (.int .i64 (brOf oN).at_) (by simp)).set 4 (.slice ka2 kn2 kc2) (by simp)).set 5 (.slice sa2 ssN.length sc2) (by simp)).other (C := w.heap.size + 3) 0 (.int .i64 rN.kd) (by omega)).other (C := w.heap.size + 3) 1 (.int .i64 rN.pl) (by omega)).other (C := w.heap.size + 3) 2 (.string rN.vl) (by omega))
 have V9 := Hd (((((((((RRX.other (C := w.heap.size + 2) 0 (.slice la2 lsN.length lc2) (by omega)).other (C := w.heap.size + 2) 1 (.string (brOf oN).key) (by omega)).other (C := w.heap.size + 2) 2 (.string (brOf oN).val) (by omega)).other (C := w.heap.size + 2) 3 (.int .i64 (brOf oN).at_) (by omega)).other (C := w.heap.size + 2) 4 (.slice ka2 kn2 kc2) (by omega)).other (C := w.heap.size + 2) 5 (.slice sa2 ssN.length sc2) (by omega)).set 0 (.int .i64 rN.kd) (by simp)).set 1 (.int .i64 rN.pl) (by simp)).set 2 (.string rN.vl) (by simp))
 have hs6 := (uh KD6).size
 have hk8 := fun (i : Nat) (u : Value) (h : w4.cell? ⟨vb, i, none⟩ = some u) => (T8.cell (p := ⟨vb, i, none⟩) (show vb < w6.heap.size by omega) (show ¬ (vb = w.heap.size + 2 ∨ vb = w.heap.size + 3) by omega)).trans (((uh KD6).cell (p := ⟨vb, i, none⟩) hvw).trans h)
 have hk9 := fun (i : Nat) (u : Value) (h : w4.cell? ⟨vb, i, none⟩ = some u) => (T9.cell (p := ⟨vb, i, none⟩) (show vb < w6.heap.size by omega) (show ¬ (vb = w.heap.size + 2 ∨ vb = w.heap.size + 3) by omega)).trans (((uh KD6).cell (p := ⟨vb, i, none⟩) hvw).trans h)
 refine rdy1 3 rfl (fun K hK => ?_)
 go_simp
 refine outH hK ?_ (fun hHeld => ?_)
 ·exact ⟨hk8 _ _ v0, hk8 _ _ v1, hk8 _ _ v2⟩
 clear hK K
 refine rdy1 4 rfl (fun K hK => ?_)
 go_simp
 refine outH hK ?_ (fun hHeld => ?_)
 ·exact ⟨hk9 _ _ v0, hk9 _ _ v1, hk9 _ _ v2⟩
 clear hK K
 refine tkH 5 rfl ?_
 refine wpAnyH_done (by kernel_rfl) (NoPanic.normal ?_) _
 clear hHeld hk8 hk9
 have K6 := (uh K4).trans ((uh KD6).mono (uh K4).size)
 have K9 := Hd (K6.trans (T9.below K6.size (fun x hx e => by rcases e with e | e <;> omega)))
 have LO9 := Hd (show LedO w.heap.size _ (.slice la2 lsN.length lc2) (.slice ka2 kn2 kc2) (.slice sa2 ssN.length sc2) lsN (brOf oN).kids ssN from by
  obtain ⟨q1, q2, q3, Sq, q4, q5⟩ := uh HLO2
  exact ⟨OwnS.down' (q1.kept T9 (fun x hx e => by have := (q1.lt x hx).1; omega)) (by omega), OwnSe.down (q2.kept T9 (fun x hx e => by have := (q2.lt x hx).1; omega)) (by omega), q3, Sq, q4.touch T9 (fun x hx e => by have := (q5 x hx).1; omega), fun x hx => ⟨by have := (q5 x hx).1; omega, Nat.lt_of_lt_of_le (q5 x hx).2.1 T9.size, (q5 x hx).2.2⟩⟩)
 clear T8 T9 K6 RLX RRX HLO2
 generalize (((((((((w6.setCell ⟨w.heap.size + 2, 0, none⟩ (.slice la2 lsN.length lc2)).setCell ⟨w.heap.size + 2, 1, none⟩ (.string (brOf oN).key)).setCell ⟨w.heap.size + 2, 2, none⟩ (.string (brOf oN).val)).setCell ⟨w.heap.size + 2, 3, none⟩ (.int .i64 (brOf oN).at_)).setCell ⟨w.heap.size + 2, 4, none⟩ (.slice ka2 kn2 kc2)).setCell ⟨w.heap.size + 2, 5, none⟩ (.slice sa2 ssN.length sc2)).setCell ⟨w.heap.size + 3, 0, none⟩ (.int .i64 rN.kd)).setCell ⟨w.heap.size + 3, 1, none⟩ (.int .i64 rN.pl)).setCell ⟨w.heap.size + 3, 2, none⟩ (.string rN.vl)) = w9 at *
 go_wp2_with fail
 have N9' := uh N9
 have V9' := uh V9
 obtain ⟨⟨z0, z1, z2, z3, z4, z5⟩, _⟩ := Blk.c6 N9'
 have u0 := V9'.cell 0 rfl
 have u1 := V9'.cell 1 rfl
 have u2 := V9'.cell 2 rfl
 refine bodyPost_ret (v := .tuple #[.agg #[.slice la2 lsN.length lc2, .string (brOf oN).key, .string (brOf oN).val, .int .i64 (brOf oN).at_, .slice ka2 kn2 kc2, .slice sa2 ssN.length sc2], .agg #[.int .i64 rN.kd, .int .i64 rN.pl, .string rN.vl], .int .i64 0]) (by simp [results, Tryz.results11, go_sem, z0, z1, z2, z3, z4, z5, u0, u1, u2]) rfl ?_
 exact (uh HTE) _ _ _ (uh E) ⟨_, _, _, _, _, _, _, rfl, uh LO9, uh K9⟩
end Go.Proofs.YtnhhnjmjodmacaaGreatDoor.Sha
