/- What the proof of the claim needs (joined by program): ApA. -/
import Derived.Test.YtbchnheinnileaaGreatDoorQca13
import Derived.Test.YtbchnheinnileaaGreatDoorQca15
import Derived.Test.YtbchnheinnileaaGreatDoorQca16
import Derived.Test.YtbchnheinnileaaGreatDoorQca11
import Derived.Test.YtbchnheinnileaaGreatDoorQca10
namespace Go.Proofs.YtbchnheinnileaaGreatDoor.Sha
set_option maxRecDepth 100000
set_option maxHeartbeats 8000000
open Go.ChangeShapes Go.WideShapes Go.ChangeAt Go.RowKit Go.Deep
set_option linter.unusedVariables false
set_option linter.unusedSimpArgs false
def ApN (S : Nat → Prop) (lv0 sv0 : Value) (y : Lst × Re) (w : World) (e : Ending) (w' : World) : Prop :=
 ∃ lv kv sv, e = .returned (.tuple #[.agg #[lv, .string (brOf y.1.o).key, .string (brOf y.1.o).val, .int .i64 (brOf y.1.o).at_, kv, sv], .agg #[.int .i64 y.2.kd, .int .i64 y.2.pl, .string y.2.vl]]) ∧ Strs w' lv y.1.ls ∧ Brs (fun x => S x ∨ w.heap.size ≤ x) w' kv (brOf y.1.o).kids ∧ Sess w' sv y.1.ss ∧ Below w.heap.size w w' ∧ Fresh w.heap.size lv0 lv ∧ Fresh w.heap.size sv0 sv
theorem an_tell {S : Nat → Prop} {lv0 sv0 : Value} {x y : Lst × Re} {w w' : World} {e : Ending} (he : x = y) (h : ApN S lv0 sv0 y w e w') : ApN S lv0 sv0 x w e w' := by rw [he]; exact h
theorem op_ap (x : Lst) (c : Cm) (h : c.kd = 4 ∨ c.kd = 5) : apOut x c = (⟨x.ls, x.o, (opN x.ss c).1⟩, ⟨(opN x.ss c).2, 0, ⟨#[]⟩⟩) := by
 unfold apOut opN
 rcases h with h | h
 ·by_cases hh : hasS x.ss c.ss = true <;> by_cases h8 : x.ss.length = 8 <;> simp [h, hh, h8]
 ·by_cases hh : hasS x.ss c.ss = true <;> simp [h, hh]
theorem cmK_kd {c : Cm} (h : cmK c = true) (h4 : 4 ≤ c.kd) : c.kd = 4 ∨ c.kd = 5 := by
 by_cases e4 : c.kd = 4
 ·exact .inl e4
 ·by_cases e5 : c.kd = 5
  ·exact .inr e5
  ·have := (cmK_key h e4 e5).2.2.2.1; omega
theorem l09Apply_any (ls : List ByteArray) (o : Option Tr) (ss : List Se) (la ka sa : Option Addr) (lc kn kc sc : Nat) (c : Cm) (w : World) (S : Nat → Prop) (hSb : ∀ x, S x → x < w.heap.size) (hS : Strs w (.slice la ls.length lc) ls) (hK : Brs S w (.slice ka kn kc) (brOf o).kids) (hSe : Sess w (.slice sa ss.length sc) ss) (hL : LOK ⟨ls, o, ss⟩) (hc : cmK c = true) :
  Calls Tryz.prog 42 #[.agg #[.slice la ls.length lc, .string (brOf o).key, .string (brOf o).val, .int .i64 (brOf o).at_, .slice ka kn kc, .slice sa ss.length sc], .agg #[.int .i64 c.kd, .int .i64 c.ss, .int .i64 c.sq, .string c.ky, .string c.vl]] w fun e w' => ApN S (.slice la ls.length lc) (.slice sa ss.length sc) (apOut ⟨ls, o, ss⟩ c) w e w' := by
 have HST := Hd hS
 have HBR := Hd hK
 have HSS := Hd hSe
 have HSX := Hd hSb
 clear hSb
 have hm8 := hL.m
 dsimp only at hm8
 have B0 := Hd ((((bal w (.cells #[.slice la ls.length lc, .string (brOf o).key, .string (brOf o).val, .int .i64 (brOf o).at_, .slice ka kn kc, .slice sa ss.length sc] 33)).alloc (by simp) (.cells #[.int .i64 c.kd, .int .i64 c.ss, .int .i64 c.sq, .string c.ky, .string c.vl] 77)).alloc (by simp; omega) (.cells #[.slice none 0 0, .string ⟨#[]⟩, .string ⟨#[]⟩, .int .i64 0, .slice none 0 0, .slice none 0 0] 33)).alloc (by simp; omega) (.cells #[.int .i64 0, .int .i64 0, .string ⟨#[]⟩] 82))
 have X0 := Hd ((((Blk.new w #[.slice la ls.length lc, .string (brOf o).key, .string (brOf o).val, .int .i64 (brOf o).at_, .slice ka kn kc, .slice sa ss.length sc] 33 (w.heap.size) rfl).alloc (.cells #[.int .i64 c.kd, .int .i64 c.ss, .int .i64 c.sq, .string c.ky, .string c.vl] 77)).alloc (.cells #[.slice none 0 0, .string ⟨#[]⟩, .string ⟨#[]⟩, .int .i64 0, .slice none 0 0, .slice none 0 0] 33)).alloc (.cells #[.int .i64 0, .int .i64 0, .string ⟨#[]⟩] 82))
 have C0 := Hd (((Blk.new (w.alloc (.cells #[.slice la ls.length lc, .string (brOf o).key, .string (brOf o).val, .int .i64 (brOf o).at_, .slice ka kn kc, .slice sa ss.length sc] 33)) #[.int .i64 c.kd, .int .i64 c.ss, .int .i64 c.sq, .string c.ky, .string c.vl] 77 (w.heap.size + 1) (by simp)).alloc (.cells #[.slice none 0 0, .string ⟨#[]⟩, .string ⟨#[]⟩, .int .i64 0, .slice none 0 0, .slice none 0 0] 33)).alloc (.cells #[.int .i64 0, .int .i64 0, .string ⟨#[]⟩] 82))
 have O0 := Hd ((Blk.new ((w.alloc (.cells #[.slice la ls.length lc, .string (brOf o).key, .string (brOf o).val, .int .i64 (brOf o).at_, .slice ka kn kc, .slice sa ss.length sc] 33)).alloc (.cells #[.int .i64 c.kd, .int .i64 c.ss, .int .i64 c.sq, .string c.ky, .string c.vl] 77)) #[.slice none 0 0, .string ⟨#[]⟩, .string ⟨#[]⟩, .int .i64 0, .slice none 0 0, .slice none 0 0] 33 (w.heap.size + 1 + 1) (by simp)).alloc (.cells #[.int .i64 0, .int .i64 0, .string ⟨#[]⟩] 82))
 have R0 := Hd (Blk.new (((w.alloc (.cells #[.slice la ls.length lc, .string (brOf o).key, .string (brOf o).val, .int .i64 (brOf o).at_, .slice ka kn kc, .slice sa ss.length sc] 33)).alloc (.cells #[.int .i64 c.kd, .int .i64 c.ss, .int .i64 c.sq, .string c.ky, .string c.vl] 77)).alloc (.cells #[.slice none 0 0, .string ⟨#[]⟩, .string ⟨#[]⟩, .int .i64 0, .slice none 0 0, .slice none 0 0] 33)) #[.int .i64 0, .int .i64 0, .string ⟨#[]⟩] 82 (w.heap.size + 1 + 1 + 1) (by simp))
 have HOP := Hd (fun wx (hx : Below w.heap.size w wx) => l09Open_any ss (brOf o).key (brOf o).val (brOf o).at_ la ka sa ls.length lc kn kc sc c wx (hSe.below hx) hL.rs hL.m)
 have HSE := Hd (fun wx (hx : Below w.heap.size w wx) => l09Session_any _ ss c.ss wx (hSe.below hx) (by omega) hL.rs)
 by_cases hk4 : 4 ≤ c.kd
 ·have b4 : decide ((4 : Int) ≤ c.kd) = true := by rw [decide_eq_true_eq]; exact hk4
  have HU := Hd (op_ap ⟨ls, o, ss⟩ c (cmK_kd hc hk4))
  clear hS hK hSe hL hc HSE
  dsimp only at HU
  generalize apOut ⟨ls, o, ss⟩ c = out at *
  generalize opN ss c = oo at *
  obtain ⟨ssN, k5⟩ := oo
  dsimp only at HU HOP
  go_enter Tryz.func42, Tryz.ntmps42
  go_upto_region 1 with fail
  generalize (((w.alloc (.cells #[.slice la ls.length lc, .string (brOf o).key, .string (brOf o).val, .int .i64 (brOf o).at_, .slice ka kn kc, .slice sa ss.length sc] 33)).alloc (.cells #[.int .i64 c.kd, .int .i64 c.ss, .int .i64 c.sq, .string c.ky, .string c.vl] 77)).alloc (.cells #[.slice none 0 0, .string ⟨#[]⟩, .string ⟨#[]⟩, .int .i64 0, .slice none 0 0, .slice none 0 0] 33)).alloc (.cells #[.int .i64 0, .int .i64 0, .string ⟨#[]⟩] 82) = w0 at *
  have HO1 := Hd (uh HOP w0 (uh B0))
  obtain ⟨⟨x0, x1, x2, x3, x4, x5⟩, _⟩ := Blk.c6 (uh X0)
  obtain ⟨y0, y1, y2, y3, y4⟩ := Blk.c5 (uh C0)
  clear HOP
  go_wp2_with fail
  refine (uh HO1).mono ?_
  rintro e w1 ⟨sa1, sn1, sc1, rfl, hss1, hb1, hf1⟩
  have HSN := Hd hss1
  have HFR := Hd hf1
  have hw0 : w.heap.size + 1 + 1 + 1 < w0.heap.size := (uh R0).1
  have K := hbt B0 hb1
  have O := Hd ((uh O0).below hb1)
  have R := Hd ((uh R0).below hb1)
  have hw1 : w.heap.size + 1 + 1 + 1 < w1.heap.size := (uh R).1
  clear hss1 hb1 hf1 HO1 X0 C0 O0 R0 B0 x0 x1 x2 x3 x4 x5 y0 y1 y2 y3 y4
  obtain ⟨⟨ox0, ox1, ox2, ox3, ox4, ox5⟩, of0, of1, of2, of3, of4, of5⟩ := Blk.c6 (uh O)
  obtain ⟨⟨rx0, rx1, rx2⟩, rf0, rf1, rf2⟩ := Blk.c3 (uh R)
  obtain ⟨HO9, HR9, HT9⟩ := end63 (uh O) (uh R) (by omega) (.slice la ls.length lc) (.string (brOf o).key) (.string (brOf o).val) (.int .i64 (brOf o).at_) (.slice ka kn kc) (.slice sa1 sn1 sc1) (.int .i64 k5) (.int .i64 0) (.string ⟨#[]⟩)
  go_wp2_with fail
  obtain ⟨⟨z0, z1, z2, z3, z4, z5⟩, _⟩ := Blk.c6 (uh HO9)
  obtain ⟨⟨y0, y1, y2⟩, _⟩ := Blk.c3 (uh HR9)
  refine bodyPost_ret (v := .tuple #[.agg #[.slice la ls.length lc, .string (brOf o).key, .string (brOf o).val, .int .i64 (brOf o).at_, .slice ka kn kc, .slice sa1 sn1 sc1], .agg #[.int .i64 k5, .int .i64 0, .string ⟨#[]⟩]]) (by simp [results, Tryz.results42, go_sem, z0, z1, z2, z3, z4, z5, y0, y1, y2]) rfl ?_
  have K9 := (uh K).trans ((uh HT9).below (uh K).size (fun k9 hk9 e => by rcases e with e | e <;> omega))
  refine an_tell (uh HU) ⟨_, _, _, rfl, (uh HST).below K9, ((uh HBR).mono (T := fun x => S x ∨ w.heap.size ≤ x) (fun _ h => .inl h)).blw K9, ?_, K9, .inl rfl, (uh HFR).down (by omega)⟩
  exact Sess.fresh (uh HSS) (uh HSN) (uh HFR) (uh HT9) (fun k hk => by rcases hk with hk | hk <;> omega)
 have HU : Hid (apOut ⟨ls, o, ss⟩ c = if hasS ss c.ss = false then (⟨ls, o, ss⟩, ⟨4, 0, ⟨#[]⟩⟩) else svOut ⟨ls, o, ss⟩ c (posS ss c.ss)) := Hd (by unfold apOut; have n4 : ¬ c.kd = 4 := (by omega); have n5 : ¬ c.kd = 5 := (by omega); by_cases hh : hasS ss c.ss = false <;> simp [hh, n4, n5])
 have b4 : decide ((4 : Int) ≤ c.kd) = false := by rw [decide_eq_false_iff_not]; exact hk4
 have HSI : Hid (seI ss c.ss = if hasS ss c.ss then (posS ss c.ss : Int) else -1) := Hd rfl
 have HHas : Hid (hasS ss c.ss = true → posS ss c.ss < ss.length) := Hd (fun h => (has_iff.1 h).1)
 have HCH := Hd (fun wx (hx : Below w.heap.size w wx) => l09Change_any ls o la ka sa lc kn kc ss.length sc c wx S (fun x h9 => Nat.lt_of_lt_of_le (uh HSX x h9) hx.size) (hS.below hx) (hK.blw hx) ⟨hL.n, hL.h, hL.ok, hL.ri, hL.sp, by simp, fun i j _ h => absurd h (by simp), fun s h => by cases h⟩ hc (by omega) (by omega))
 have F0 := Hd ((Fin.new ((w.alloc (.cells #[.slice la ls.length lc, .string (brOf o).key, .string (brOf o).val, .int .i64 (brOf o).at_, .slice ka kn kc, .slice sa ss.length sc] 33)).alloc (.cells #[.int .i64 c.kd, .int .i64 c.ss, .int .i64 c.sq, .string c.ky, .string c.vl] 77)) #[.slice none 0 0, .string ⟨#[]⟩, .string ⟨#[]⟩, .int .i64 0, .slice none 0 0, .slice none 0 0] 33 (w.heap.size + 1 + 1) 7 (by simp) (by simp)).alloc (.cells #[.int .i64 0, .int .i64 0, .string ⟨#[]⟩] 82))
 have F1 := Hd (Fin.new (((w.alloc (.cells #[.slice la ls.length lc, .string (brOf o).key, .string (brOf o).val, .int .i64 (brOf o).at_, .slice ka kn kc, .slice sa ss.length sc] 33)).alloc (.cells #[.int .i64 c.kd, .int .i64 c.ss, .int .i64 c.sq, .string c.ky, .string c.vl] 77)).alloc (.cells #[.slice none 0 0, .string ⟨#[]⟩, .string ⟨#[]⟩, .int .i64 0, .slice none 0 0, .slice none 0 0] 33)) #[.int .i64 0, .int .i64 0, .string ⟨#[]⟩] 82 (w.heap.size + 1 + 1 + 1) 7 (by simp) (by simp))
 have HSV := Hd (fun q => show svOut ⟨ls, o, ss⟩ c q = if c.sq = (ss.getD q default).sq ∧ (ss.getD q default).kd ≠ 0 then (⟨ls, o, ss⟩, ⟨(ss.getD q default).kd, (ss.getD q default).pl, (ss.getD q default).vl⟩)
  else if c.sq ≤ (ss.getD q default).sq then (⟨ls, o, ss⟩, ⟨3, 0, ⟨#[]⟩⟩)
  else (⟨(chOut ls o c (getV o c.ky)).1, (chOut ls o c (getV o c.ky)).2.1, ss.set q ⟨(ss.getD q default).id, c.sq, (chOut ls o c (getV o c.ky)).2.2.kd, (chOut ls o c (getV o c.ky)).2.2.pl, (chOut ls o c (getV o c.ky)).2.2.vl⟩⟩, (chOut ls o c (getV o c.ky)).2.2) from rfl)
 have HSB := Hd hL.sb
 generalize chOut ls o c (getV o c.ky) = out3 at *
 obtain ⟨lsN, oN, rN⟩ := out3
 dsimp only at HSV HCH
 generalize apOut ⟨ls, o, ss⟩ c = out at *
 clear hS hK hSe hL hc HOP
 generalize hasS ss c.ss = has at *
 generalize posS ss c.ss = q at *
 generalize seI ss c.ss = si at *
 go_enter Tryz.func42, Tryz.ntmps42
 go_upto_region 1 with fail
 generalize (((w.alloc (.cells #[.slice la ls.length lc, .string (brOf o).key, .string (brOf o).val, .int .i64 (brOf o).at_, .slice ka kn kc, .slice sa ss.length sc] 33)).alloc (.cells #[.int .i64 c.kd, .int .i64 c.ss, .int .i64 c.sq, .string c.ky, .string c.vl] 77)).alloc (.cells #[.slice none 0 0, .string ⟨#[]⟩, .string ⟨#[]⟩, .int .i64 0, .slice none 0 0, .slice none 0 0] 33)).alloc (.cells #[.int .i64 0, .int .i64 0, .string ⟨#[]⟩] 82) = w0 at *
 have hw0 : w.heap.size + 1 + 1 + 1 < w0.heap.size := (uh R0).1
 have HS0 := Hd (uh HSE w0 (uh B0))
 obtain ⟨⟨x0, x1, x2, x3, x4, x5⟩, _⟩ := Blk.c6 (uh X0)
 obtain ⟨y0, y1, y2, y3, y4⟩ := Blk.c5 (uh C0)
 clear HSE
 go_wp2_with fail
 refine (uh HS0).mono ?_
 rintro e w' ⟨rfl, hw'⟩
 have hw2 := hw'.symm
 clear hw' HS0
 subst hw2
 have K := B0
 have X := X0
 have C := C0
 have O := O0
 have R := R0
 clear B0 X0 C0 O0 R0
 cases has
 ·obtain rfl : si = -1 := uh HSI
  obtain ⟨⟨ox0, ox1, ox2, ox3, ox4, ox5⟩, of0, of1, of2, of3, of4, of5⟩ := Blk.c6 (uh O)
  obtain ⟨⟨rx0, rx1, rx2⟩, rf0, rf1, rf2⟩ := Blk.c3 (uh R)
  obtain ⟨HO9, HR9, HT9⟩ := end63 (uh O) (uh R) (by omega) (.slice la ls.length lc) (.string (brOf o).key) (.string (brOf o).val) (.int .i64 (brOf o).at_) (.slice ka kn kc) (.slice sa ss.length sc) (.int .i64 4) (.int .i64 0) (.string ⟨#[]⟩)
  go_wp2_with fail
  obtain ⟨⟨z0, z1, z2, z3, z4, z5⟩, _⟩ := Blk.c6 (uh HO9)
  obtain ⟨⟨y0, y1, y2⟩, _⟩ := Blk.c3 (uh HR9)
  refine bodyPost_ret (v := .tuple #[.agg #[.slice la ls.length lc, .string (brOf o).key, .string (brOf o).val, .int .i64 (brOf o).at_, .slice ka kn kc, .slice sa ss.length sc], .agg #[.int .i64 4, .int .i64 0, .string ⟨#[]⟩]]) (by simp [results, Tryz.results42, go_sem, z0, z1, z2, z3, z4, z5, y0, y1, y2]) rfl ?_
  have K9 := (uh K).trans ((uh HT9).below (uh K).size (fun k9 hk9 e => by rcases e with e | e <;> omega))
  refine an_tell ((uh HU).trans (if_pos (by first | trivial | rfl))) ⟨_, _, _, rfl, (uh HST).below K9, ((uh HBR).mono (T := fun x => S x ∨ w.heap.size ≤ x) (fun _ h => .inl h)).blw K9, (uh HSS).below K9, K9, .inl rfl, .inl rfl⟩
 obtain rfl : si = (q : Int) := uh HSI
 have HQ := Hd (uh HHas rfl)
 have hq := uh HQ
 obtain ⟨b, off, rfl, hbl, hsc⟩ : ∃ b off, sa = some ⟨b, off, none⟩ ∧ b < w.heap.size ∧ ∀ i, i < ss.length → w.cell? ⟨b, off + i * 5, none⟩ = some (.int .i64 (ss.getD i default).id) ∧ w.cell? ⟨b, off + i * 5 + 1, none⟩ = some (.int .i64 (ss.getD i default).sq) ∧ w.cell? ⟨b, off + i * 5 + 2, none⟩ = some (.int .i64 (ss.getD i default).kd) ∧ w.cell? ⟨b, off + i * 5 + 3, none⟩ = some (.int .i64 (ss.getD i default).pl) ∧ w.cell? ⟨b, off + i * 5 + 4, none⟩ = some (.string (ss.getD i default).vl) := by
  obtain ⟨a', cap', e, _, _, hcs⟩ := uh HSS
  simp only [Value.slice.injEq] at e
  obtain ⟨rfl, _, rfl⟩ := e
  rcases hcs with h0 | h1
  ·omega
  ·obtain ⟨b, off, e, hb, h1⟩ := h1
   exact ⟨b, off, e, hb, h1⟩
 obtain ⟨_, s1, s2, s3, s4⟩ := hsc q hq
 have hsb := uh HSB (ss.getD q default) (by rw [List.getD_eq_getElem?_getD, List.getElem?_eq_getElem hq]; exact List.getElem_mem hq)
 replace HU := Hd ((uh HU).trans ((if_neg (by simp)).trans (uh HSV q)))
 clear HSV HSB hsc HHas HSI
 obtain ⟨f, hf⟩ : ∃ f, f = ss.getD q default := ⟨_, rfl⟩
 rw [← hf] at HU s1 s2 s3 s4 hsb
 have HFE := Hd hf
 clear hf
 obtain ⟨f0, f1, f2, f3, f4⟩ := f
 dsimp only at HU s1 s2 s3 s4 hsb
 have hf2 := hsb.2.2.1.1
 clear hsb
 replace s1 := ((uh K).cell (p := ⟨b, off + q * 5 + 1, none⟩) hbl).trans s1
 replace s2 := ((uh K).cell (p := ⟨b, off + q * 5 + 2, none⟩) hbl).trans s2
 replace s3 := ((uh K).cell (p := ⟨b, off + q * 5 + 3, none⟩) hbl).trans s3
 replace s4 := ((uh K).cell (p := ⟨b, off + q * 5 + 4, none⟩) hbl).trans s4
 have hbw : b < w0.heap.size := by omega
 have m0 : (0 : Int) ≤ (q : Int) := by omega
 have m1 : (q : Int) < (ss.length : Int) := by omega
 have m2 : decide ((q : Int) < 0) = false := by rw [decide_eq_false_iff_not]; omega
 by_cases heq : c.sq = f1
 ·have b1 : (c.sq == f1) = true := by rw [heq]; simp
  have HEQ := Hd heq
  by_cases hkd : f2 = 0
  ·have b2 : decide ((0 : Int) < f2) = false := by rw [decide_eq_false_iff_not]; omega
   have HKD := Hd hkd
   have H9 := Hd (show c.sq ≤ f1 by omega)
   have b3 : decide (c.sq ≤ f1) = true := by rw [decide_eq_true_eq]; omega
   clear heq hkd
   go_upto_region 6 with fail
   refine wp_region_noPanic ?_
   refine wp_region_held_drew (S := (fun wx => wx.cell? ⟨w.heap.size, 5, none⟩ = some (.slice (some ⟨b, off, none⟩) ss.length sc) ∧ wx.cell? ⟨w.heap.size + 1, 2, none⟩ = some (.int .i64 c.sq) ∧ wx.cell? ⟨b, off + q * 5 + 1, none⟩ = some (.int .i64 f1) ∧ wx.cell? ⟨b, off + q * 5 + 2, none⟩ = some (.int .i64 f2))) (by kernel_rfl) ?_ (fun hHeld => ?_)
   ·exact ⟨x5, y2, s1, s2⟩
   refine tkH 0 rfl ?_
   refine tkH 1 rfl ?_
   refine tkH 2 rfl ?_
   refine tkH 3 rfl ?_
   refine tkH 4 rfl ?_
   refine tkH 5 rfl ?_
   refine tkH 6 rfl ?_
   refine tkH 7 rfl ?_
   refine tkH 8 rfl ?_
   refine tkH 9 rfl ?_
   refine tkH 10 rfl ?_
   refine tkH 11 rfl ?_
   refine tkH 12 rfl ?_
   refine tkH 13 rfl ?_
   refine tkH 14 rfl ?_
   refine tkH 15 rfl ?_
   refine tkH 16 rfl ?_
   refine tkH 17 rfl ?_
   refine tkH 18 rfl ?_
   refine tkH 19 rfl ?_
   refine wpAnyH_done (by kernel_rfl) (NoPanic.normal ?_) _
   clear hHeld
   have hbD := below_drewN (Below.refl w0.heap.size w0) 1
   replace K := hbt K hbD
   replace X := Hd ((uh X).below hbD)
   replace C := Hd ((uh C).below hbD)
   replace O := Hd ((uh O).below hbD)
   replace R := Hd ((uh R).below hbD)
   have SC' := Hd (fun (i : Nat) (v : Value) (h : w0.cell? ⟨b, i, none⟩ = some v) => (hbD.cell (p := ⟨b, i, none⟩) hbw).trans h)
   change Hid (Below w.heap.size w w0.drew) at K
   replace F0 := Hd ((uh F0).below hbD)
   change Hid (Fin w0.drew _ _) at F0
   replace F1 := Hd ((uh F1).below hbD)
   change Hid (Fin w0.drew _ _) at F1
   change Hid (Blk w0.drew _ _) at X
   change Hid (Blk w0.drew _ _) at C
   change Hid (Blk w0.drew _ _) at O
   change Hid (Blk w0.drew _ _) at R
   change Hid (∀ (i : Nat) (v : Value), w0.cell? ⟨b, i, none⟩ = some v → w0.drew.cell? ⟨b, i, none⟩ = some v) at SC'
   replace s1 := uh SC' _ _ s1
   replace s2 := uh SC' _ _ s2
   replace s3 := uh SC' _ _ s3
   replace s4 := uh SC' _ _ s4
   change b < w0.drew.heap.size at hbw
   clear hbD SC' hw0 x0 x1 x2 x3 x4 x5 y0 y1 y2 y3 y4
   generalize w0.drew = w1 at *
   have hw0 : w.heap.size + 1 + 1 + 1 < w1.heap.size := (uh R).1
   obtain ⟨⟨x0, x1, x2, x3, x4, x5⟩, _⟩ := Blk.c6 (uh X)
   obtain ⟨y0, y1, y2, y3, y4⟩ := Blk.c5 (uh C)
   go_upto_region 8 with fail
   refine wp_region_noPanic ?_
   refine wp_region_held_drew (S := (fun wx => wx.cell? ⟨w.heap.size, 5, none⟩ = some (.slice (some ⟨b, off, none⟩) ss.length sc) ∧ wx.cell? ⟨w.heap.size + 1, 2, none⟩ = some (.int .i64 c.sq) ∧ wx.cell? ⟨b, off + q * 5 + 1, none⟩ = some (.int .i64 f1) ∧ wx.cell? ⟨b, off + q * 5 + 2, none⟩ = some (.int .i64 f2))) (by kernel_rfl) ?_ (fun hHeld => ?_)
   ·exact ⟨x5, y2, s1, s2⟩
   refine tkH 0 rfl ?_
   refine tkH 1 rfl ?_
   refine tkH 2 rfl ?_
   refine tkH 3 rfl ?_
   refine tkH 4 rfl ?_
   refine tkH 5 rfl ?_
   refine tkH 6 rfl ?_
   refine tkH 7 rfl ?_
   refine tkH 8 rfl ?_
   refine tkH 9 rfl ?_
   refine wpAnyH_done (by kernel_rfl) (NoPanic.normal ?_) _
   clear hHeld
   have hbD := below_drewN (Below.refl w1.heap.size w1) 1
   replace K := hbt K hbD
   replace X := Hd ((uh X).below hbD)
   replace C := Hd ((uh C).below hbD)
   replace O := Hd ((uh O).below hbD)
   replace R := Hd ((uh R).below hbD)
   have SC' := Hd (fun (i : Nat) (v : Value) (h : w1.cell? ⟨b, i, none⟩ = some v) => (hbD.cell (p := ⟨b, i, none⟩) hbw).trans h)
   change Hid (Below w.heap.size w w1.drew) at K
   replace F0 := Hd ((uh F0).below hbD)
   change Hid (Fin w1.drew _ _) at F0
   replace F1 := Hd ((uh F1).below hbD)
   change Hid (Fin w1.drew _ _) at F1
   change Hid (Blk w1.drew _ _) at X
   change Hid (Blk w1.drew _ _) at C
   change Hid (Blk w1.drew _ _) at O
   change Hid (Blk w1.drew _ _) at R
   change Hid (∀ (i : Nat) (v : Value), w1.cell? ⟨b, i, none⟩ = some v → w1.drew.cell? ⟨b, i, none⟩ = some v) at SC'
   replace s1 := uh SC' _ _ s1
   replace s2 := uh SC' _ _ s2
   replace s3 := uh SC' _ _ s3
   replace s4 := uh SC' _ _ s4
   change b < w1.drew.heap.size at hbw
   clear hbD SC' hw0 x0 x1 x2 x3 x4 x5 y0 y1 y2 y3 y4
   generalize w1.drew = w2 at *
   have hw0 : w.heap.size + 1 + 1 + 1 < w2.heap.size := (uh R).1
   obtain ⟨⟨x0, x1, x2, x3, x4, x5⟩, _⟩ := Blk.c6 (uh X)
   obtain ⟨y0, y1, y2, y3, y4⟩ := Blk.c5 (uh C)
   obtain ⟨⟨ox0, ox1, ox2, ox3, ox4, ox5⟩, of0, of1, of2, of3, of4, of5⟩ := Blk.c6 (uh O)
   obtain ⟨⟨rx0, rx1, rx2⟩, rf0, rf1, rf2⟩ := Blk.c3 (uh R)
   obtain ⟨HO9, HR9, HT9⟩ := end63 (uh O) (uh R) (by omega) (.slice la ls.length lc) (.string (brOf o).key) (.string (brOf o).val) (.int .i64 (brOf o).at_) (.slice ka kn kc) (.slice (some ⟨b, off, none⟩) ss.length sc) (.int .i64 3) (.int .i64 0) (.string ⟨#[]⟩)
   go_wp2_with fail
   obtain ⟨⟨z0, z1, z2, z3, z4, z5⟩, _⟩ := Blk.c6 (uh HO9)
   obtain ⟨⟨y0, y1, y2⟩, _⟩ := Blk.c3 (uh HR9)
   refine bodyPost_ret (v := .tuple #[.agg #[.slice la ls.length lc, .string (brOf o).key, .string (brOf o).val, .int .i64 (brOf o).at_, .slice ka kn kc, .slice (some ⟨b, off, none⟩) ss.length sc], .agg #[.int .i64 3, .int .i64 0, .string ⟨#[]⟩]]) (by simp [results, Tryz.results42, go_sem, z0, z1, z2, z3, z4, z5, y0, y1, y2]) rfl ?_
   have K9 := (uh K).trans ((uh HT9).below (uh K).size (fun k9 hk9 e => by rcases e with e | e <;> omega))
   refine an_tell (by rw [uh HU, if_neg (fun h => h.2 (uh HKD)), if_pos (uh H9)]) ⟨_, _, _, rfl, (uh HST).below K9, ((uh HBR).mono (T := fun x => S x ∨ w.heap.size ≤ x) (fun _ h => .inl h)).blw K9, (uh HSS).below K9, K9, .inl rfl, .inl rfl⟩
  ·have b2 : decide ((0 : Int) < f2) = true := by rw [decide_eq_true_eq]; omega
   have HKD := Hd hkd
   clear heq hkd
   go_upto_region 6 with fail
   refine wp_region_noPanic ?_
   refine wp_region_held_drew (S := (fun wx => wx.cell? ⟨w.heap.size, 5, none⟩ = some (.slice (some ⟨b, off, none⟩) ss.length sc) ∧ wx.cell? ⟨w.heap.size + 1, 2, none⟩ = some (.int .i64 c.sq) ∧ wx.cell? ⟨b, off + q * 5 + 1, none⟩ = some (.int .i64 f1) ∧ wx.cell? ⟨b, off + q * 5 + 2, none⟩ = some (.int .i64 f2))) (by kernel_rfl) ?_ (fun hHeld => ?_)
   ·exact ⟨x5, y2, s1, s2⟩
   refine tkH 0 rfl ?_
   refine tkH 1 rfl ?_
   refine tkH 2 rfl ?_
   refine tkH 3 rfl ?_
   refine tkH 4 rfl ?_
   refine tkH 5 rfl ?_
   refine tkH 6 rfl ?_
   refine tkH 7 rfl ?_
   refine tkH 8 rfl ?_
   refine tkH 9 rfl ?_
   refine tkH 10 rfl ?_
   refine tkH 11 rfl ?_
   refine tkH 12 rfl ?_
   refine tkH 13 rfl ?_
   refine tkH 14 rfl ?_
   refine tkH 15 rfl ?_
   refine tkH 16 rfl ?_
   refine tkH 17 rfl ?_
   refine tkH 18 rfl ?_
   refine tkH 19 rfl ?_
   refine wpAnyH_done (by kernel_rfl) (NoPanic.normal ?_) _
   clear hHeld
   have hbD := below_drewN (Below.refl w0.heap.size w0) 1
   replace K := hbt K hbD
   replace X := Hd ((uh X).below hbD)
   replace C := Hd ((uh C).below hbD)
   replace O := Hd ((uh O).below hbD)
   replace R := Hd ((uh R).below hbD)
   have SC' := Hd (fun (i : Nat) (v : Value) (h : w0.cell? ⟨b, i, none⟩ = some v) => (hbD.cell (p := ⟨b, i, none⟩) hbw).trans h)
   change Hid (Below w.heap.size w w0.drew) at K
   replace F0 := Hd ((uh F0).below hbD)
   change Hid (Fin w0.drew _ _) at F0
   replace F1 := Hd ((uh F1).below hbD)
   change Hid (Fin w0.drew _ _) at F1
   change Hid (Blk w0.drew _ _) at X
   change Hid (Blk w0.drew _ _) at C
   change Hid (Blk w0.drew _ _) at O
   change Hid (Blk w0.drew _ _) at R
   change Hid (∀ (i : Nat) (v : Value), w0.cell? ⟨b, i, none⟩ = some v → w0.drew.cell? ⟨b, i, none⟩ = some v) at SC'
   replace s1 := uh SC' _ _ s1
   replace s2 := uh SC' _ _ s2
   replace s3 := uh SC' _ _ s3
   replace s4 := uh SC' _ _ s4
   change b < w0.drew.heap.size at hbw
   clear hbD SC' hw0 x0 x1 x2 x3 x4 x5 y0 y1 y2 y3 y4
   generalize w0.drew = w1 at *
   have hw0 : w.heap.size + 1 + 1 + 1 < w1.heap.size := (uh R).1
   obtain ⟨⟨x0, x1, x2, x3, x4, x5⟩, _⟩ := Blk.c6 (uh X)
   obtain ⟨y0, y1, y2, y3, y4⟩ := Blk.c5 (uh C)
   go_upto_region 7 with fail
   refine wp_region_noPanic ?_
   refine wp_region_held_drew (S := (fun wx => wx.cell? ⟨w.heap.size, 0, none⟩ = some (.slice la ls.length lc) ∧ wx.cell? ⟨w.heap.size, 1, none⟩ = some (.string (brOf o).key) ∧ wx.cell? ⟨w.heap.size, 2, none⟩ = some (.string (brOf o).val) ∧ wx.cell? ⟨w.heap.size, 3, none⟩ = some (.int .i64 (brOf o).at_) ∧ wx.cell? ⟨w.heap.size, 4, none⟩ = some (.slice ka kn kc) ∧ wx.cell? ⟨w.heap.size, 5, none⟩ = some (.slice (some ⟨b, off, none⟩) ss.length sc) ∧ wx.cell? ⟨b, off + q * 5 + 2, none⟩ = some (.int .i64 f2) ∧ wx.cell? ⟨b, off + q * 5 + 3, none⟩ = some (.int .i64 f3) ∧ wx.cell? ⟨b, off + q * 5 + 4, none⟩ = some (.string f4))) (by kernel_rfl) ?_ (fun hHeld => ?_)
   ·exact ⟨x0, x1, x2, x3, x4, x5, s2, s3, s4⟩
   refine tkH 0 rfl ?_
   refine tkH 1 rfl ?_
   refine tkH 2 rfl ?_
   refine tkH 3 rfl ?_
   refine tkH 4 rfl ?_
   refine tkH 5 rfl ?_
   refine tkH 6 rfl ?_
   have O9_ := Hd ((uh O).drewN 1)
   have R9_ := Hd ((uh R).drewN 1)
   have K9_ := Hd (below_drewN (uh K) 1)
   change Hid (Blk w1.drew _ _) at O9_
   change Hid (Blk w1.drew _ _) at R9_
   change Hid (Below w.heap.size w w1.drew) at K9_
   have hdK := below_drewN (Below.refl w1.heap.size w1) 1
   change Below w1.heap.size w1 w1.drew at hdK
   have hX1 : w.heap.size < w1.heap.size := (uh X).1
   have hd1 : w1.drew.heap.size = w1.heap.size := rfl
   have SXb := fun i (v : Value) (h : w1.cell? ⟨w.heap.size, i, none⟩ = some v) => (hdK.cell (p := ⟨w.heap.size, i, none⟩) hX1).trans h
   have SXs := fun i (v : Value) (h : w1.cell? ⟨b, i, none⟩ = some v) => (hdK.cell (p := ⟨b, i, none⟩) hbw).trans h
   replace x0 := SXb _ _ x0
   replace x1 := SXb _ _ x1
   replace x2 := SXb _ _ x2
   replace x3 := SXb _ _ x3
   replace x4 := SXb _ _ x4
   replace x5 := SXb _ _ x5
   replace s2 := SXs _ _ s2
   replace s3 := SXs _ _ s3
   replace s4 := SXs _ _ s4
   rw [← hd1] at hw0 hbw
   clear SXb SXs hX1 hdK s1 y0 y1 y2 y3 y4 K X C O R hd1
   generalize w1.drew = w9 at *
   obtain ⟨⟨ox0, ox1, ox2, ox3, ox4, ox5⟩, of0, of1, of2, of3, of4, of5⟩ := Blk.c6 (uh O9_)
   obtain ⟨⟨rx0, rx1, rx2⟩, rf0, rf1, rf2⟩ := Blk.c3 (uh R9_)
   obtain ⟨HO9, HR9, HT9⟩ := end63 (uh O9_) (uh R9_) (by omega) (.slice la ls.length lc) (.string (brOf o).key) (.string (brOf o).val) (.int .i64 (brOf o).at_) (.slice ka kn kc) (.slice (some ⟨b, off, none⟩) ss.length sc) (.int .i64 f2) (.int .i64 f3) (.string f4)
   have hTC := fun (bq i : Nat) (v : Value) (h1 : bq < w.heap.size + 1) (h : w9.cell? ⟨bq, i, none⟩ = some v) => True.intro
   refine rdy1 7 rfl (fun K hK => ?_)
   go_simp
   refine outH hK ?_ (fun hHeld => ?_)
   ·exact ⟨by go_simp, by go_simp, by go_simp, by go_simp, by go_simp, by go_simp, by go_simp, by go_simp, by go_simp⟩
   clear hK K
   refine rdy1 8 rfl (fun K hK => ?_)
   go_simp
   refine outH hK ?_ (fun hHeld => ?_)
   ·exact ⟨by go_simp, by go_simp, by go_simp, by go_simp, by go_simp, by go_simp, by go_simp, by go_simp, by go_simp⟩
   clear hK K
   refine wpAnyH_done (by kernel_rfl) (NoPanic.normal ?_) _
   clear hHeld hTC
   go_wp2_with fail
   obtain ⟨⟨z0, z1, z2, z3, z4, z5⟩, _⟩ := Blk.c6 (uh HO9)
   obtain ⟨⟨y0, y1, y2⟩, _⟩ := Blk.c3 (uh HR9)
   refine bodyPost_ret (v := .tuple #[.agg #[.slice la ls.length lc, .string (brOf o).key, .string (brOf o).val, .int .i64 (brOf o).at_, .slice ka kn kc, .slice (some ⟨b, off, none⟩) ss.length sc], .agg #[.int .i64 f2, .int .i64 f3, .string f4]]) (by simp [results, Tryz.results42, go_sem, z0, z1, z2, z3, z4, z5, y0, y1, y2]) rfl ?_
   have K9 := (uh K9_).trans ((uh HT9).below (uh K9_).size (fun k9 hk9 e => by rcases e with e | e <;> omega))
   refine an_tell (by rw [uh HU, if_pos ⟨uh HEQ, uh HKD⟩]) ⟨_, _, _, rfl, (uh HST).below K9, ((uh HBR).mono (T := fun x => S x ∨ w.heap.size ≤ x) (fun _ h => .inl h)).blw K9, (uh HSS).below K9, K9, .inl rfl, .inl rfl⟩
 ·have b1 : (c.sq == f1) = false := by rw [beq_eq_false_iff_ne]; exact heq
  have HEQ := Hd heq
  by_cases h9 : c.sq ≤ f1
  ·have b3 : decide (c.sq ≤ f1) = true := by rw [decide_eq_true_eq]; omega
   have H9 := Hd h9
   clear heq h9
   go_upto_region 6 with fail
   refine wp_region_noPanic ?_
   refine wp_region_held_drew (S := (fun wx => wx.cell? ⟨w.heap.size, 5, none⟩ = some (.slice (some ⟨b, off, none⟩) ss.length sc) ∧ wx.cell? ⟨w.heap.size + 1, 2, none⟩ = some (.int .i64 c.sq) ∧ wx.cell? ⟨b, off + q * 5 + 1, none⟩ = some (.int .i64 f1) ∧ wx.cell? ⟨b, off + q * 5 + 2, none⟩ = some (.int .i64 f2))) (by kernel_rfl) ?_ (fun hHeld => ?_)
   ·exact ⟨x5, y2, s1, s2⟩
   refine tkH 0 rfl ?_
   refine tkH 1 rfl ?_
   refine tkH 2 rfl ?_
   refine tkH 3 rfl ?_
   refine tkH 4 rfl ?_
   refine tkH 5 rfl ?_
   refine tkH 6 rfl ?_
   refine tkH 7 rfl ?_
   refine tkH 8 rfl ?_
   refine tkH 9 rfl ?_
   refine wpAnyH_take (i := 10) (oi := _) (v := undef) rfl (by kernel_rfl) (by kernel_rfl) (by kernel_rfl) (fun _ _ _ h => h) (Or.inr ⟨by rfl, rfl⟩) (by assumption) ?_
   (try simp only [Act.put, List.getElem_toArray, List.getElem_cons_succ, List.getElem_cons_zero, List.setIfInBounds_toArray, List.set_cons_zero, List.set_cons_succ])
   refine wpAnyH_take (i := 11) (oi := _) (v := undef) rfl (by kernel_rfl) (by kernel_rfl) (by kernel_rfl) (fun _ _ _ h => h) (Or.inr ⟨by rfl, rfl⟩) (by assumption) ?_
   (try simp only [Act.put, List.getElem_toArray, List.getElem_cons_succ, List.getElem_cons_zero, List.setIfInBounds_toArray, List.set_cons_zero, List.set_cons_succ])
   refine wpAnyH_take (i := 12) (oi := _) (v := undef) rfl (by kernel_rfl) (by kernel_rfl) (by kernel_rfl) (fun _ _ _ h => h) (Or.inr ⟨by rfl, rfl⟩) (by assumption) ?_
   (try simp only [Act.put, List.getElem_toArray, List.getElem_cons_succ, List.getElem_cons_zero, List.setIfInBounds_toArray, List.set_cons_zero, List.set_cons_succ])
   refine wpAnyH_take (i := 13) (oi := _) (v := undef) rfl (by kernel_rfl) (by kernel_rfl) (by kernel_rfl) (fun _ _ _ h => h) (Or.inr ⟨by rfl, rfl⟩) (by assumption) ?_
   (try simp only [Act.put, List.getElem_toArray, List.getElem_cons_succ, List.getElem_cons_zero, List.setIfInBounds_toArray, List.set_cons_zero, List.set_cons_succ])
   refine wpAnyH_take (i := 14) (oi := _) (v := undef) rfl (by kernel_rfl) (by kernel_rfl) (by kernel_rfl) (fun _ _ _ h => h) (Or.inr ⟨by rfl, rfl⟩) (by assumption) ?_
   (try simp only [Act.put, List.getElem_toArray, List.getElem_cons_succ, List.getElem_cons_zero, List.setIfInBounds_toArray, List.set_cons_zero, List.set_cons_succ])
   refine wpAnyH_take (i := 15) (oi := _) (v := undef) rfl (by kernel_rfl) (by kernel_rfl) (by kernel_rfl) (fun _ _ _ h => h) (Or.inr ⟨by rfl, rfl⟩) (by assumption) ?_
   (try simp only [Act.put, List.getElem_toArray, List.getElem_cons_succ, List.getElem_cons_zero, List.setIfInBounds_toArray, List.set_cons_zero, List.set_cons_succ])
   refine wpAnyH_take (i := 16) (oi := _) (v := undef) rfl (by kernel_rfl) (by kernel_rfl) (by kernel_rfl) (fun _ _ _ h => h) (Or.inr ⟨by rfl, rfl⟩) (by assumption) ?_
   (try simp only [Act.put, List.getElem_toArray, List.getElem_cons_succ, List.getElem_cons_zero, List.setIfInBounds_toArray, List.set_cons_zero, List.set_cons_succ])
   refine wpAnyH_take (i := 17) (oi := _) (v := undef) rfl (by kernel_rfl) (by kernel_rfl) (by kernel_rfl) (fun _ _ _ h => h) (Or.inr ⟨by rfl, rfl⟩) (by assumption) ?_
   (try simp only [Act.put, List.getElem_toArray, List.getElem_cons_succ, List.getElem_cons_zero, List.setIfInBounds_toArray, List.set_cons_zero, List.set_cons_succ])
   refine tkH 18 rfl ?_
   refine tkH 19 rfl ?_
   refine wpAnyH_done (by kernel_rfl) (NoPanic.normal ?_) _
   clear hHeld
   have hbD := below_drewN (Below.refl w0.heap.size w0) 1
   replace K := hbt K hbD
   replace X := Hd ((uh X).below hbD)
   replace C := Hd ((uh C).below hbD)
   replace O := Hd ((uh O).below hbD)
   replace R := Hd ((uh R).below hbD)
   have SC' := Hd (fun (i : Nat) (v : Value) (h : w0.cell? ⟨b, i, none⟩ = some v) => (hbD.cell (p := ⟨b, i, none⟩) hbw).trans h)
   change Hid (Below w.heap.size w w0.drew) at K
   replace F0 := Hd ((uh F0).below hbD)
   change Hid (Fin w0.drew _ _) at F0
   replace F1 := Hd ((uh F1).below hbD)
   change Hid (Fin w0.drew _ _) at F1
   change Hid (Blk w0.drew _ _) at X
   change Hid (Blk w0.drew _ _) at C
   change Hid (Blk w0.drew _ _) at O
   change Hid (Blk w0.drew _ _) at R
   change Hid (∀ (i : Nat) (v : Value), w0.cell? ⟨b, i, none⟩ = some v → w0.drew.cell? ⟨b, i, none⟩ = some v) at SC'
   replace s1 := uh SC' _ _ s1
   replace s2 := uh SC' _ _ s2
   replace s3 := uh SC' _ _ s3
   replace s4 := uh SC' _ _ s4
   change b < w0.drew.heap.size at hbw
   clear hbD SC' hw0 x0 x1 x2 x3 x4 x5 y0 y1 y2 y3 y4
   generalize w0.drew = w1 at *
   have hw0 : w.heap.size + 1 + 1 + 1 < w1.heap.size := (uh R).1
   obtain ⟨⟨x0, x1, x2, x3, x4, x5⟩, _⟩ := Blk.c6 (uh X)
   obtain ⟨y0, y1, y2, y3, y4⟩ := Blk.c5 (uh C)
   go_upto_region 8 with fail
   refine wp_region_noPanic ?_
   refine wp_region_held_drew (S := (fun wx => wx.cell? ⟨w.heap.size, 5, none⟩ = some (.slice (some ⟨b, off, none⟩) ss.length sc) ∧ wx.cell? ⟨w.heap.size + 1, 2, none⟩ = some (.int .i64 c.sq) ∧ wx.cell? ⟨b, off + q * 5 + 1, none⟩ = some (.int .i64 f1) ∧ wx.cell? ⟨b, off + q * 5 + 2, none⟩ = some (.int .i64 f2))) (by kernel_rfl) ?_ (fun hHeld => ?_)
   ·exact ⟨x5, y2, s1, s2⟩
   refine tkH 0 rfl ?_
   refine tkH 1 rfl ?_
   refine tkH 2 rfl ?_
   refine tkH 3 rfl ?_
   refine tkH 4 rfl ?_
   refine tkH 5 rfl ?_
   refine tkH 6 rfl ?_
   refine tkH 7 rfl ?_
   refine tkH 8 rfl ?_
   refine tkH 9 rfl ?_
   refine wpAnyH_done (by kernel_rfl) (NoPanic.normal ?_) _
   clear hHeld
   have hbD := below_drewN (Below.refl w1.heap.size w1) 1
   replace K := hbt K hbD
   replace X := Hd ((uh X).below hbD)
   replace C := Hd ((uh C).below hbD)
   replace O := Hd ((uh O).below hbD)
   replace R := Hd ((uh R).below hbD)
   have SC' := Hd (fun (i : Nat) (v : Value) (h : w1.cell? ⟨b, i, none⟩ = some v) => (hbD.cell (p := ⟨b, i, none⟩) hbw).trans h)
   change Hid (Below w.heap.size w w1.drew) at K
   replace F0 := Hd ((uh F0).below hbD)
   change Hid (Fin w1.drew _ _) at F0
   replace F1 := Hd ((uh F1).below hbD)
   change Hid (Fin w1.drew _ _) at F1
   change Hid (Blk w1.drew _ _) at X
   change Hid (Blk w1.drew _ _) at C
   change Hid (Blk w1.drew _ _) at O
   change Hid (Blk w1.drew _ _) at R
   change Hid (∀ (i : Nat) (v : Value), w1.cell? ⟨b, i, none⟩ = some v → w1.drew.cell? ⟨b, i, none⟩ = some v) at SC'
   replace s1 := uh SC' _ _ s1
   replace s2 := uh SC' _ _ s2
   replace s3 := uh SC' _ _ s3
   replace s4 := uh SC' _ _ s4
   change b < w1.drew.heap.size at hbw
   clear hbD SC' hw0 x0 x1 x2 x3 x4 x5 y0 y1 y2 y3 y4
   generalize w1.drew = w2 at *
   have hw0 : w.heap.size + 1 + 1 + 1 < w2.heap.size := (uh R).1
   obtain ⟨⟨x0, x1, x2, x3, x4, x5⟩, _⟩ := Blk.c6 (uh X)
   obtain ⟨y0, y1, y2, y3, y4⟩ := Blk.c5 (uh C)
   obtain ⟨⟨ox0, ox1, ox2, ox3, ox4, ox5⟩, of0, of1, of2, of3, of4, of5⟩ := Blk.c6 (uh O)
   obtain ⟨⟨rx0, rx1, rx2⟩, rf0, rf1, rf2⟩ := Blk.c3 (uh R)
   obtain ⟨HO9, HR9, HT9⟩ := end63 (uh O) (uh R) (by omega) (.slice la ls.length lc) (.string (brOf o).key) (.string (brOf o).val) (.int .i64 (brOf o).at_) (.slice ka kn kc) (.slice (some ⟨b, off, none⟩) ss.length sc) (.int .i64 3) (.int .i64 0) (.string ⟨#[]⟩)
   go_wp2_with fail
   obtain ⟨⟨z0, z1, z2, z3, z4, z5⟩, _⟩ := Blk.c6 (uh HO9)
   obtain ⟨⟨y0, y1, y2⟩, _⟩ := Blk.c3 (uh HR9)
   refine bodyPost_ret (v := .tuple #[.agg #[.slice la ls.length lc, .string (brOf o).key, .string (brOf o).val, .int .i64 (brOf o).at_, .slice ka kn kc, .slice (some ⟨b, off, none⟩) ss.length sc], .agg #[.int .i64 3, .int .i64 0, .string ⟨#[]⟩]]) (by simp [results, Tryz.results42, go_sem, z0, z1, z2, z3, z4, z5, y0, y1, y2]) rfl ?_
   have K9 := (uh K).trans ((uh HT9).below (uh K).size (fun k9 hk9 e => by rcases e with e | e <;> omega))
   refine an_tell (by rw [uh HU, if_neg (fun h => (uh HEQ) h.1), if_pos (uh H9)]) ⟨_, _, _, rfl, (uh HST).below K9, ((uh HBR).mono (T := fun x => S x ∨ w.heap.size ≤ x) (fun _ h => .inl h)).blw K9, (uh HSS).below K9, K9, .inl rfl, .inl rfl⟩
  have b3 : decide (c.sq ≤ f1) = false := by rw [decide_eq_false_iff_not]; exact h9
  replace HU := Hd ((uh HU).trans ((if_neg (fun h => heq h.1)).trans (if_neg h9)))
  clear heq h9
  go_upto_region 6 with fail
  refine wp_region_noPanic ?_
  refine wp_region_held_drew (S := (fun wx => wx.cell? ⟨w.heap.size, 5, none⟩ = some (.slice (some ⟨b, off, none⟩) ss.length sc) ∧ wx.cell? ⟨w.heap.size + 1, 2, none⟩ = some (.int .i64 c.sq) ∧ wx.cell? ⟨b, off + q * 5 + 1, none⟩ = some (.int .i64 f1) ∧ wx.cell? ⟨b, off + q * 5 + 2, none⟩ = some (.int .i64 f2))) (by kernel_rfl) ?_ (fun hHeld => ?_)
  ·exact ⟨x5, y2, s1, s2⟩
  refine tkH 0 rfl ?_
  refine tkH 1 rfl ?_
  refine tkH 2 rfl ?_
  refine tkH 3 rfl ?_
  refine tkH 4 rfl ?_
  refine tkH 5 rfl ?_
  refine tkH 6 rfl ?_
  refine tkH 7 rfl ?_
  refine tkH 8 rfl ?_
  refine tkH 9 rfl ?_
  refine wpAnyH_take (i := 10) (oi := _) (v := undef) rfl (by kernel_rfl) (by kernel_rfl) (by kernel_rfl) (fun _ _ _ h => h) (Or.inr ⟨by rfl, rfl⟩) (by assumption) ?_
  (try simp only [Act.put, List.getElem_toArray, List.getElem_cons_succ, List.getElem_cons_zero, List.setIfInBounds_toArray, List.set_cons_zero, List.set_cons_succ])
  refine wpAnyH_take (i := 11) (oi := _) (v := undef) rfl (by kernel_rfl) (by kernel_rfl) (by kernel_rfl) (fun _ _ _ h => h) (Or.inr ⟨by rfl, rfl⟩) (by assumption) ?_
  (try simp only [Act.put, List.getElem_toArray, List.getElem_cons_succ, List.getElem_cons_zero, List.setIfInBounds_toArray, List.set_cons_zero, List.set_cons_succ])
  refine wpAnyH_take (i := 12) (oi := _) (v := undef) rfl (by kernel_rfl) (by kernel_rfl) (by kernel_rfl) (fun _ _ _ h => h) (Or.inr ⟨by rfl, rfl⟩) (by assumption) ?_
  (try simp only [Act.put, List.getElem_toArray, List.getElem_cons_succ, List.getElem_cons_zero, List.setIfInBounds_toArray, List.set_cons_zero, List.set_cons_succ])
  refine wpAnyH_take (i := 13) (oi := _) (v := undef) rfl (by kernel_rfl) (by kernel_rfl) (by kernel_rfl) (fun _ _ _ h => h) (Or.inr ⟨by rfl, rfl⟩) (by assumption) ?_
  (try simp only [Act.put, List.getElem_toArray, List.getElem_cons_succ, List.getElem_cons_zero, List.setIfInBounds_toArray, List.set_cons_zero, List.set_cons_succ])
  refine wpAnyH_take (i := 14) (oi := _) (v := undef) rfl (by kernel_rfl) (by kernel_rfl) (by kernel_rfl) (fun _ _ _ h => h) (Or.inr ⟨by rfl, rfl⟩) (by assumption) ?_
  (try simp only [Act.put, List.getElem_toArray, List.getElem_cons_succ, List.getElem_cons_zero, List.setIfInBounds_toArray, List.set_cons_zero, List.set_cons_succ])
  refine wpAnyH_take (i := 15) (oi := _) (v := undef) rfl (by kernel_rfl) (by kernel_rfl) (by kernel_rfl) (fun _ _ _ h => h) (Or.inr ⟨by rfl, rfl⟩) (by assumption) ?_
  (try simp only [Act.put, List.getElem_toArray, List.getElem_cons_succ, List.getElem_cons_zero, List.setIfInBounds_toArray, List.set_cons_zero, List.set_cons_succ])
  refine wpAnyH_take (i := 16) (oi := _) (v := undef) rfl (by kernel_rfl) (by kernel_rfl) (by kernel_rfl) (fun _ _ _ h => h) (Or.inr ⟨by rfl, rfl⟩) (by assumption) ?_
  (try simp only [Act.put, List.getElem_toArray, List.getElem_cons_succ, List.getElem_cons_zero, List.setIfInBounds_toArray, List.set_cons_zero, List.set_cons_succ])
  refine wpAnyH_take (i := 17) (oi := _) (v := undef) rfl (by kernel_rfl) (by kernel_rfl) (by kernel_rfl) (fun _ _ _ h => h) (Or.inr ⟨by rfl, rfl⟩) (by assumption) ?_
  (try simp only [Act.put, List.getElem_toArray, List.getElem_cons_succ, List.getElem_cons_zero, List.setIfInBounds_toArray, List.set_cons_zero, List.set_cons_succ])
  refine tkH 18 rfl ?_
  refine tkH 19 rfl ?_
  refine wpAnyH_done (by kernel_rfl) (NoPanic.normal ?_) _
  clear hHeld
  have hbD := below_drewN (Below.refl w0.heap.size w0) 1
  replace K := hbt K hbD
  replace X := Hd ((uh X).below hbD)
  replace C := Hd ((uh C).below hbD)
  replace O := Hd ((uh O).below hbD)
  replace R := Hd ((uh R).below hbD)
  have SC' := Hd (fun (i : Nat) (v : Value) (h : w0.cell? ⟨b, i, none⟩ = some v) => (hbD.cell (p := ⟨b, i, none⟩) hbw).trans h)
  change Hid (Below w.heap.size w w0.drew) at K
  replace F0 := Hd ((uh F0).below hbD)
  change Hid (Fin w0.drew _ _) at F0
  replace F1 := Hd ((uh F1).below hbD)
  change Hid (Fin w0.drew _ _) at F1
  change Hid (Blk w0.drew _ _) at X
  change Hid (Blk w0.drew _ _) at C
  change Hid (Blk w0.drew _ _) at O
  change Hid (Blk w0.drew _ _) at R
  change Hid (∀ (i : Nat) (v : Value), w0.cell? ⟨b, i, none⟩ = some v → w0.drew.cell? ⟨b, i, none⟩ = some v) at SC'
  replace s1 := uh SC' _ _ s1
  replace s2 := uh SC' _ _ s2
  replace s3 := uh SC' _ _ s3
  replace s4 := uh SC' _ _ s4
  change b < w0.drew.heap.size at hbw
  clear hbD SC' hw0 x0 x1 x2 x3 x4 x5 y0 y1 y2 y3 y4
  generalize w0.drew = w1 at *
  have hw0 : w.heap.size + 1 + 1 + 1 < w1.heap.size := (uh R).1
  obtain ⟨⟨x0, x1, x2, x3, x4, x5⟩, _⟩ := Blk.c6 (uh X)
  obtain ⟨y0, y1, y2, y3, y4⟩ := Blk.c5 (uh C)
  go_upto_region 8 with fail
  refine wp_region_noPanic ?_
  refine wp_region_held_drew (S := (fun wx => wx.cell? ⟨w.heap.size, 5, none⟩ = some (.slice (some ⟨b, off, none⟩) ss.length sc) ∧ wx.cell? ⟨w.heap.size + 1, 2, none⟩ = some (.int .i64 c.sq) ∧ wx.cell? ⟨b, off + q * 5 + 1, none⟩ = some (.int .i64 f1) ∧ wx.cell? ⟨b, off + q * 5 + 2, none⟩ = some (.int .i64 f2))) (by kernel_rfl) ?_ (fun hHeld => ?_)
  ·exact ⟨x5, y2, s1, s2⟩
  refine tkH 0 rfl ?_
  refine tkH 1 rfl ?_
  refine tkH 2 rfl ?_
  refine tkH 3 rfl ?_
  refine tkH 4 rfl ?_
  refine tkH 5 rfl ?_
  refine tkH 6 rfl ?_
  refine tkH 7 rfl ?_
  refine tkH 8 rfl ?_
  refine tkH 9 rfl ?_
  refine wpAnyH_done (by kernel_rfl) (NoPanic.normal ?_) _
  clear hHeld
  have hbD := below_drewN (Below.refl w1.heap.size w1) 1
  replace K := hbt K hbD
  replace X := Hd ((uh X).below hbD)
  replace C := Hd ((uh C).below hbD)
  replace O := Hd ((uh O).below hbD)
  replace R := Hd ((uh R).below hbD)
  have SC' := Hd (fun (i : Nat) (v : Value) (h : w1.cell? ⟨b, i, none⟩ = some v) => (hbD.cell (p := ⟨b, i, none⟩) hbw).trans h)
  change Hid (Below w.heap.size w w1.drew) at K
  replace F0 := Hd ((uh F0).below hbD)
  change Hid (Fin w1.drew _ _) at F0
  replace F1 := Hd ((uh F1).below hbD)
  change Hid (Fin w1.drew _ _) at F1
  change Hid (Blk w1.drew _ _) at X
  change Hid (Blk w1.drew _ _) at C
  change Hid (Blk w1.drew _ _) at O
  change Hid (Blk w1.drew _ _) at R
  change Hid (∀ (i : Nat) (v : Value), w1.cell? ⟨b, i, none⟩ = some v → w1.drew.cell? ⟨b, i, none⟩ = some v) at SC'
  replace s1 := uh SC' _ _ s1
  replace s2 := uh SC' _ _ s2
  replace s3 := uh SC' _ _ s3
  replace s4 := uh SC' _ _ s4
  change b < w1.drew.heap.size at hbw
  clear hbD SC' hw0 x0 x1 x2 x3 x4 x5 y0 y1 y2 y3 y4
  generalize w1.drew = w2 at *
  have hw0 : w.heap.size + 1 + 1 + 1 < w2.heap.size := (uh R).1
  obtain ⟨⟨x0, x1, x2, x3, x4, x5⟩, _⟩ := Blk.c6 (uh X)
  obtain ⟨y0, y1, y2, y3, y4⟩ := Blk.c5 (uh C)
  have hw02 : w.heap.size ≤ w2.heap.size := (uh K).size
  have HC1 := Hd (uh HCH w2 (uh K))
  clear HCH
  go_wp2_with fail
  refine (uh HC1).mono ?_
  rintro e w3 ⟨lv3, kv3, rfl, hls3, hbr3, hb3, hf3⟩
  obtain ⟨la2, lc2, rfl, _⟩ := id hls3
  obtain ⟨ka2, kc2, rfl, _⟩ := hbr3.shape
  generalize (brOf oN).kids.length = kn2 at hbr3 ⊢
  have HLS := Hd hls3
  have HB3 := Hd hbr3
  have HF3 := Hd hf3
  have hw23 := hb3.size
  replace K := hbt K hb3
  replace X := Hd ((uh X).below hb3)
  replace C := Hd ((uh C).below hb3)
  replace O := Hd ((uh O).below hb3)
  replace R := Hd ((uh R).below hb3)
  replace F0 := Hd ((uh F0).below hb3)
  replace F1 := Hd ((uh F1).below hb3)
  clear hls3 hbr3 hf3 HC1 x0 x1 x2 x3 x4 x5 y0 y1 y2 y3 y4 s1 s2 s3 s4
  have NZ := (Blk.new w3 #[.slice none 0 0, .string ⟨#[]⟩, .string ⟨#[]⟩, .int .i64 0, .slice none 0 0, .slice none 0 0] 33 w3.heap.size rfl).alloc (.cells #[.int .i64 0, .int .i64 0, .string ⟨#[]⟩] 82)
  have NR := Blk.new (w3.alloc (.cells #[.slice none 0 0, .string ⟨#[]⟩, .string ⟨#[]⟩, .int .i64 0, .slice none 0 0, .slice none 0 0] 33)) #[.int .i64 0, .int .i64 0, .string ⟨#[]⟩] 82 (w3.heap.size + 1) (by simp)
  obtain ⟨⟨zc0, zc1, zc2, zc3, zc4, zc5⟩, zf0, zf1, zf2, zf3, zf4, zf5⟩ := Blk.c6 NZ
  obtain ⟨⟨rc0, rc1, rc2⟩, rf0, rf1, rf2⟩ := Blk.c3 NR
  clear NZ NR hb3
  go_upto_region 11 with fail
  clear zc0 zf0 zc1 zf1 zc2 zf2 zc3 zf3 zc4 zf4 zc5 zf5 rc0 rf0 rc1 rf1 rc2 rf2
  have hO3 : w.heap.size + 1 + 1 + 1 < w3.heap.size := (uh R).1
  have HPL : Hid (0 < lsN.length → ∀ k, (Value.slice la2 lsN.length lc2).ownBlock = some k → k < w3.heap.size ∧ k ≠ w.heap.size + 1 + 1 ∧ k ≠ w.heap.size + 1 + 1 + 1) := Hd (fun hp k hk => by
   have h1 := (uh HLS).lowB hp k hk
   refine ⟨h1, ?_⟩
   rcases uh HF3 with e | hf
   ·have h2 := (uh HST).lowB (by rw [← e] at HST; rw [(uh HST).lenE (uh HLS)]; exact hp) k (by rw [← e]; exact hk)
    omega
   ·have := hf k hk; omega)
  have HFD := Hd ((uh HF3).down (H' := w.heap.size) (by omega))
  have bA := (bal w3 (.cells #[.slice la2 lsN.length lc2, .string (brOf oN).key, .string (brOf oN).val, .int .i64 (brOf oN).at_, .slice ka2 kn2 kc2, .slice (some ⟨b, off, none⟩) ss.length sc] 33)).alloc (by simp) (.cells #[.int .i64 rN.kd, .int .i64 rN.pl, .string rN.vl] 82)
  have HL4 := Hd ((uh HLS).below bA)
  have HB4 := Hd ((uh HB3).boundS.blw bA)
  replace K := hbt K bA
  replace C := Hd ((uh C).below bA)
  replace O := Hd ((uh O).below bA)
  replace R := Hd ((uh R).below bA)
  replace F0 := Hd ((uh F0).below bA)
  replace F1 := Hd ((uh F1).below bA)
  replace X := Hd ((uh X).below bA)
  have N4 := Hd ((Blk.new w3 #[.slice la2 lsN.length lc2, .string (brOf oN).key, .string (brOf oN).val, .int .i64 (brOf oN).at_, .slice ka2 kn2 kc2, .slice (some ⟨b, off, none⟩) ss.length sc] 33 w3.heap.size rfl).alloc (.cells #[.int .i64 rN.kd, .int .i64 rN.pl, .string rN.vl] 82))
  have V4 := Hd (Blk.new (w3.alloc (.cells #[.slice la2 lsN.length lc2, .string (brOf oN).key, .string (brOf oN).val, .int .i64 (brOf oN).at_, .slice ka2 kn2 kc2, .slice (some ⟨b, off, none⟩) ss.length sc] 33)) #[.int .i64 rN.kd, .int .i64 rN.pl, .string rN.vl] 82 (w3.heap.size + 1) (by simp))
  clear bA HLS HB3 HF3
  generalize (w3.alloc (.cells #[.slice la2 lsN.length lc2, .string (brOf oN).key, .string (brOf oN).val, .int .i64 (brOf oN).at_, .slice ka2 kn2 kc2, .slice (some ⟨b, off, none⟩) ss.length sc] 33)).alloc (.cells #[.int .i64 rN.kd, .int .i64 rN.pl, .string rN.vl] 82) = w4 at *
  generalize w3.heap.size = nb at *
  have hn4 : nb + 1 < w4.heap.size := (uh V4).1
  have HB5 := Hd (Brs.smallO (T := fun k => k = w.heap.size + 1 + 1 ∨ k = w.heap.size + 1 + 1 + 1) (fun k hk => by rcases hk with rfl | rfl; exact uh F0; exact uh F1) oN _ (uh HB4))
  clear HB4 F0 F1
  have x5 := ((uh X).alloc (.cells #[] 103)).cell 5 rfl
  have y2 := (uh C).cell 2 rfl
  have hX4 : w.heap.size < w4.heap.size := (uh X).1
  obtain ⟨i0, hi, hz0, hz1, hz2⟩ := info_parts infoSe
  have B5 := Hd (bal w4 (.cells #[] 103))
  have O5 := Hd (show (w4.alloc (.cells #[] 103)).ownsRow w4.heap.size 103 5 (.slice (some ⟨w4.heap.size, 0, none⟩) 0 0) 0 [] from World.ownsRow_made w4 #[] 0 (Nat.le_refl _) (by unfold maxLen; omega) rfl)
  have HRW := Hd ((uh HSS).below ((uh K).trans ((uh B5).mono (uh K).size))).rw
  go_upto_region 12 with (at_builtin; refine wpList_append_row _ rfl _ _ _ rfl w4.heap.size 103 i0 _ 5 48 Tryz.underlying31 hi hz0 hz1 hz2 rfl (by omega) _ 0 [] rfl (uh O5) _ ss.length (sesC ss) rfl (uh HRW) (sesC_len ss) (sesC_one ss) (by unfold maxLen; omega) (by omega) (by simp) ?_; intro a6 c6 w6 hown6 hgrow6 hat6; have B6 := Hd ((uh B5).grown hgrow6 (by simp) (fun r hr => ((uh O5).lt r hr).1)); have O6 := Hd hown6; clear hown6 hgrow6 hat6; have N6 := Hd ((uh N4).below (uh B6)); have nc5 := (uh N6).cell 5 rfl; have nf5 := (uh N6).fro 5)
  have hown6 := uh O6
  rw [Nat.zero_add, List.nil_append] at hown6
  obtain ⟨g6, c6', he6, hg6, hg6'⟩ := World.ownsRow.form hown6 (by omega)
  cases he6
  have TS := (Touch.refl (fun k => k = nb) w6).setCell ⟨nb, 5, none⟩ (.slice (some ⟨g6, 0, none⟩) ss.length c6) (fun _ => rfl)
  have O7 := Hd (own_kept (T := fun k => k = nb) hown6 TS (fun k hk e => by have := (World.ownsRow.lt hown6 k hk).1; omega))
  have N7 := Hd ((uh N6).set 5 (.slice (some ⟨g6, 0, none⟩) ss.length c6) (by simp))
  have V7 := Hd (((uh V4).below (uh B6)).kept TS (fun e => by omega))
  have C7 := Hd (((uh C).below (uh B6)).kept TS (fun e => by omega))
  have Oo7 := Hd (((uh O).below (uh B6)).kept TS (fun e => by omega))
  have R7 := Hd (((uh R).below (uh B6)).kept TS (fun e => by omega))
  have K6 := (uh K).trans ((uh B6).mono (uh K).size)
  have K7 := Hd (K6.trans (TS.below K6.size (fun k hk e => by omega)))
  have HL7 := Hd (((uh HL4).below (uh B6)).touch TS (fun hp k hk e => by have := (uh HPL hp k hk).1; omega))
  have HB7 := Hd (((uh HB5).blw (uh B6)).touch TS (fun k hk e => by have := hk.1.2; omega))
  have hs46 := (uh B6).size
  clear hown6 O6 TS N6 nc5 nf5 K6 B6 B5 O5 HRW x5 y2 V4 C O R K HL4 HB5 X N4
  generalize w6.setCell ⟨nb, 5, none⟩ (.slice (some ⟨g6, 0, none⟩) ss.length c6) = w7 at *
  have n75 := (uh N7).cell 5 rfl
  have v0 := (uh V7).cell 0 rfl
  have v1 := (uh V7).cell 1 rfl
  have v2 := (uh V7).cell 2 rfl
  have y2 := (uh C7).cell 2 rfl
  have hgn : nb ≠ g6 ∧ nb + 1 ≠ g6 ∧ w.heap.size + 1 ≠ g6 := ⟨by omega, by omega, by omega⟩
  obtain ⟨hgn1, hgn2, hgn3⟩ := hgn
  obtain ⟨c0, c1, c2, c3, c4⟩ := OwnSe.cells (uh O7) q hq rfl
  have z1 := (uh O7).frozenAt (q * 5 + 1)
  have z2 := (uh O7).frozenAt (q * 5 + 2)
  have z3 := (uh O7).frozenAt (q * 5 + 3)
  have z4 := (uh O7).frozenAt (q * 5 + 4)
  rw [← uh HFE] at c1 c2 c3 c4
  dsimp only at c1 c2 c3 c4
  clear c0
  have TQ := (((((Touch.refl (fun k => k = g6) w7).setCell ⟨g6, q * 5 + 1, none⟩ (.int .i64 c.sq) (fun _ => rfl)).setCell ⟨g6, q * 5 + 2, none⟩ (.int .i64 rN.kd) (fun _ => rfl)).setCell ⟨g6, q * 5 + 3, none⟩ (.int .i64 rN.pl) (fun _ => rfl)).setCell ⟨g6, q * 5 + 4, none⟩ (.string rN.vl) (fun _ => rfl))
  have o1 := ((uh O7).stored (q * 5 + 1) (.int .i64 c.sq)).1
  have o2 := (o1.stored (q * 5 + 2) (.int .i64 rN.kd)).1
  have o3 := (o2.stored (q * 5 + 3) (.int .i64 rN.pl)).1
  have o4 := (o3.stored (q * 5 + 4) (.string rN.vl)).1
  have hse := sesC_set4 ss q c.sq rN.kd rN.pl rN.vl hq
  rw [hse, ← uh HFE] at o4
  dsimp only at o4
  have hlen : (ss.set q ⟨f0, c.sq, rN.kd, rN.pl, rN.vl⟩).length = ss.length := by simp
  have O8 : Hid (OwnSe w4.heap.size ((((w7.setCell ⟨g6, q * 5 + 1, none⟩ (.int .i64 c.sq)).setCell ⟨g6, q * 5 + 2, none⟩ (.int .i64 rN.kd)).setCell ⟨g6, q * 5 + 3, none⟩ (.int .i64 rN.pl)).setCell ⟨g6, q * 5 + 4, none⟩ (.string rN.vl)) (.slice (some ⟨g6, 0, none⟩) ss.length c6) (ss.set q ⟨f0, c.sq, rN.kd, rN.pl, rN.vl⟩)) := Hd (by unfold OwnSe; rw [hlen]; exact o4)
  have N8 := Hd ((uh N7).kept TQ (fun e => by omega))
  have V8 := Hd ((uh V7).kept TQ (fun e => by omega))
  have Oo8 := Hd ((uh Oo7).kept TQ (fun e => by omega))
  have R8 := Hd ((uh R7).kept TQ (fun e => by omega))
  have K8 := Hd ((uh K7).trans (TQ.below (uh K7).size (fun k hk e => by omega)))
  have HL8 := Hd ((uh HL7).touch TQ (fun hp k hk e => by have := (uh HPL hp k hk).1; omega))
  have HB8 := Hd ((uh HB7).touch TQ (fun k hk e => by have := hk.1.2; omega))
  clear o1 o2 o3 o4 hse hlen TQ
  go_upto_region 14 with fail
  rw [show q * 5 + 2 + 1 = q * 5 + 3 from rfl, show q * 5 + 2 + 2 = q * 5 + 4 from rfl]
  clear c1 c2 c3 c4 z1 z2 z3 z4 n75 v0 v1 v2 y2 N7 V7 C7 Oo7 R7 K7 HL7 HB7 O7
  generalize ((((w7.setCell ⟨g6, q * 5 + 1, none⟩ (.int .i64 c.sq)).setCell ⟨g6, q * 5 + 2, none⟩ (.int .i64 rN.kd)).setCell ⟨g6, q * 5 + 3, none⟩ (.int .i64 rN.pl)).setCell ⟨g6, q * 5 + 4, none⟩ (.string rN.vl)) = w8 at *
  obtain ⟨⟨u0, u1, u2, u3, u4, u5⟩, _⟩ := Blk.c6 (uh N8)
  have v0 := (uh V8).cell 0 rfl
  have v1 := (uh V8).cell 1 rfl
  have v2 := (uh V8).cell 2 rfl
  have hw8 : w.heap.size + 1 + 1 + 1 < w8.heap.size := (uh R8).1
  have hn8 : nb + 1 < w8.heap.size := (uh V8).1
  refine wp_region_noPanic ?_
  refine wp_region_held_drew (S := (fun wx => wx.cell? ⟨nb, 0, none⟩ = some (.slice la2 lsN.length lc2) ∧ wx.cell? ⟨nb, 1, none⟩ = some (.string (brOf oN).key) ∧ wx.cell? ⟨nb, 2, none⟩ = some (.string (brOf oN).val) ∧ wx.cell? ⟨nb, 3, none⟩ = some (.int .i64 (brOf oN).at_) ∧ wx.cell? ⟨nb, 4, none⟩ = some (.slice ka2 kn2 kc2) ∧ wx.cell? ⟨nb, 5, none⟩ = some (.slice (some ⟨g6, 0, none⟩) ss.length c6) ∧ wx.cell? ⟨nb + 1, 0, none⟩ = some (.int .i64 rN.kd) ∧ wx.cell? ⟨nb + 1, 1, none⟩ = some (.int .i64 rN.pl) ∧ wx.cell? ⟨nb + 1, 2, none⟩ = some (.string rN.vl))) (by kernel_rfl) ?_ (fun hHeld => ?_)
  ·exact ⟨u0, u1, u2, u3, u4, u5, v0, v1, v2⟩
  refine tkH 0 rfl ?_
  refine tkH 1 rfl ?_
  have hbD := below_drewN (Below.refl w8.heap.size w8) 1
  have O9_ := Hd ((uh Oo8).below hbD)
  have R9_ := Hd ((uh R8).below hbD)
  have N9_ := Hd ((uh N8).below hbD)
  have V9_ := Hd ((uh V8).below hbD)
  have K9_ := hbt K8 hbD
  have L9_ := Hd ((uh HL8).below hbD)
  have B9_ := Hd ((uh HB8).blw hbD)
  have S9_ := Hd ((uh O8).kept (T := fun _ => False) (Touch.ofBelow hbD) (fun _ _ e => e))
  change Hid (Blk w8.drew _ _) at O9_
  change Hid (Blk w8.drew _ _) at R9_
  change Hid (Blk w8.drew _ _) at N9_
  change Hid (Blk w8.drew _ _) at V9_
  change Hid (Below w.heap.size w w8.drew) at K9_
  change Hid (Strs w8.drew _ _) at L9_
  change Hid (Brs _ w8.drew _ _) at B9_
  change Hid (OwnSe _ w8.drew _ _) at S9_
  clear hbD Oo8 R8 N8 V8 K8 HL8 HB8 O8 u0 u1 u2 u3 u4 u5 v0 v1 v2 hw8 hn8
  generalize w8.drew = w9 at *
  have hw8 : w.heap.size + 1 + 1 + 1 < w9.heap.size := (uh R9_).1
  have hn8 : nb + 1 < w9.heap.size := (uh V9_).1
  obtain ⟨⟨u0, u1, u2, u3, u4, u5⟩, _⟩ := Blk.c6 (uh N9_)
  have v0 := (uh V9_).cell 0 rfl
  have v1 := (uh V9_).cell 1 rfl
  have v2 := (uh V9_).cell 2 rfl
  obtain ⟨⟨ox0, ox1, ox2, ox3, ox4, ox5⟩, of0, of1, of2, of3, of4, of5⟩ := Blk.c6 (uh O9_)
  obtain ⟨⟨rx0, rx1, rx2⟩, rf0, rf1, rf2⟩ := Blk.c3 (uh R9_)
  obtain ⟨HO9, HR9, HT9⟩ := end63 (uh O9_) (uh R9_) (by omega) (.slice la2 lsN.length lc2) (.string (brOf oN).key) (.string (brOf oN).val) (.int .i64 (brOf oN).at_) (.slice ka2 kn2 kc2) (.slice (some ⟨g6, 0, none⟩) ss.length c6) (.int .i64 rN.kd) (.int .i64 rN.pl) (.string rN.vl)
  refine rdy1 2 rfl (fun K hK => ?_)
  go_simp
  refine outH hK ?_ (fun hHeld => ?_)
  ·exact ⟨by go_simp, by go_simp, by go_simp, by go_simp, by go_simp, by go_simp, by go_simp, by go_simp, by go_simp⟩
  clear hK K
  refine rdy1 3 rfl (fun K hK => ?_)
  go_simp
  refine outH hK ?_ (fun hHeld => ?_)
  ·exact ⟨by go_simp, by go_simp, by go_simp, by go_simp, by go_simp, by go_simp, by go_simp, by go_simp, by go_simp⟩
  clear hK K
  refine wpAnyH_done (by kernel_rfl) (NoPanic.normal ?_) _
  clear hHeld
  go_wp2_with fail
  obtain ⟨⟨z0, z1, z2, z3, z4, z5⟩, _⟩ := Blk.c6 (uh HO9)
  obtain ⟨⟨y0, y1, y2⟩, _⟩ := Blk.c3 (uh HR9)
  refine bodyPost_ret (v := .tuple #[.agg #[.slice la2 lsN.length lc2, .string (brOf oN).key, .string (brOf oN).val, .int .i64 (brOf oN).at_, .slice ka2 kn2 kc2, .slice (some ⟨g6, 0, none⟩) ss.length c6], .agg #[.int .i64 rN.kd, .int .i64 rN.pl, .string rN.vl]]) (by simp [results, Tryz.results42, go_sem, z0, z1, z2, z3, z4, z5, y0, y1, y2]) rfl ?_
  have K9 := (uh K9_).trans ((uh HT9).below (uh K9_).size (fun k9 hk9 e => by rcases e with e | e <;> omega))
  have hse9 := (uh S9_).kept (uh HT9) (fun k hk e => by have := ((uh S9_).lt k hk).1; rcases e with e | e <;> omega)
  refine an_tell (uh HU) ⟨_, _, _, rfl, (uh L9_).touch (uh HT9) (fun hp k hk e => by have := uh HPL hp k hk; rcases e with e | e <;> omega), ((uh B9_).touch (uh HT9) (fun k hk e => hk.2 e)).mono (fun k hk => hk.1.1.imp id (fun h => by omega)), ?_, K9, uh HFD, own_fresh (uh S9_) (by omega)⟩
  have := hse9.read
  exact this
end Go.Proofs.YtbchnheinnileaaGreatDoor.Sha
