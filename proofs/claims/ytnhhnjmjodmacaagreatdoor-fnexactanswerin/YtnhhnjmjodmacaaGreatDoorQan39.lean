/- spec.l09Apply, walked. (Written by py/apa.py.) -/
import Derived.Test.YtnhhnjmjodmacaaGreatDoorQan35
import Derived.Test.YtnhhnjmjodmacaaGreatDoorQan37
import Derived.Test.YtnhhnjmjodmacaaGreatDoorQan29
import Derived.Test.YtnhhnjmjodmacaaGreatDoorQan38
import Derived.Test.YtnhhnjmjodmacaaGreatDoorQan25
namespace Go.Proofs.YtnhhnjmjodmacaaGreatDoor.Sha
open Go.ChangeShapes Go.WideShapes Go.ChangeAt Go.RowKit Go.Deep
set_option linter.unusedVariables false
set_option linter.unusedSimpArgs false
/-- What comes out: a ledger that can be read, a reply. -/
def ApN (lv0 sv0 : Value) (y : Lst × Re) (w : World) (e : Ending) (w' : World) : Prop :=
  ∃ lv kv sv, e = .returned (.tuple #[.agg #[lv, .string (brOf y.1.o).key, .string (brOf y.1.o).val, .int .i64 (brOf y.1.o).at_, kv, sv], .agg #[.int .i64 y.2.kd, .int .i64 y.2.pl, .string y.2.vl]]) ∧ Strs w' lv y.1.ls ∧ Brs (fun _ => True) w' kv (brOf y.1.o).kids ∧ Sess w' sv y.1.ss ∧ Below w.heap.size w w' ∧ Fresh w.heap.size lv0 lv ∧ Fresh w.heap.size sv0 sv
theorem an_tell {lv0 sv0 : Value} {x y : Lst × Re} {w w' : World} {e : Ending} (he : x = y) (h : ApN lv0 sv0 y w e w') : ApN lv0 sv0 x w e w' := by rw [he]; exact h
theorem op_ap (x : Lst) (c : Cm) (h : c.kd = 4 ∨ c.kd = 5) : apOut x c = (⟨x.ls, x.o, (opN x.ss c).1⟩, ⟨(opN x.ss c).2, 0, ⟨#[]⟩⟩) := by
  unfold apOut opN
  rcases h with h | h
  · by_cases hh : hasS x.ss c.ss = true <;> by_cases h8 : x.ss.length = 8 <;> simp [h, hh, h8]
  · by_cases hh : hasS x.ss c.ss = true <;> simp [h, hh]
theorem cmK_kd {c : Cm} (h : cmK c = true) (h4 : 4 ≤ c.kd) : c.kd = 4 ∨ c.kd = 5 := by
  by_cases e4 : c.kd = 4
  · exact .inl e4
  · by_cases e5 : c.kd = 5
    · exact .inr e5
    · have := (cmK_key h e4 e5).2.2.2.1; omega
set_option maxRecDepth 100000 in
set_option maxHeartbeats 4000000 in
theorem l09Apply_any (ls : List ByteArray) (o : Option Tr) (ss : List Se) (la ka sa : Option Addr) (lc kn kc sc : Nat) (c : Cm) (w : World) (hS : Strs w (.slice la ls.length lc) ls) (hK : Brs (fun _ => True) w (.slice ka kn kc) (brOf o).kids) (hSe : Sess w (.slice sa ss.length sc) ss) (hL : LOK ⟨ls, o, ss⟩) (hc : cmK c = true) :
    Calls Tryz.prog 32 #[.agg #[.slice la ls.length lc, .string (brOf o).key, .string (brOf o).val, .int .i64 (brOf o).at_, .slice ka kn kc, .slice sa ss.length sc], .agg #[.int .i64 c.kd, .int .i64 c.ss, .int .i64 c.sq, .string c.ky, .string c.vl]] w fun e w' => ApN (.slice la ls.length lc) (.slice sa ss.length sc) (apOut ⟨ls, o, ss⟩ c) w e w' := by
  have HST := hide hS
  have HBR := hide hK
  have HSS := hide hSe
  have hm8 := hL.m
  dsimp only at hm8
  have B0 := hide (((((Below.refl w.heap.size w).alloc (Nat.le_refl _) (.cells #[.slice la ls.length lc, .string (brOf o).key, .string (brOf o).val, .int .i64 (brOf o).at_, .slice ka kn kc, .slice sa ss.length sc] 38)).alloc (by simp) (.cells #[.int .i64 c.kd, .int .i64 c.ss, .int .i64 c.sq, .string c.ky, .string c.vl] 44)).alloc (by simp; omega) (.cells #[.slice none 0 0, .string ⟨#[]⟩, .string ⟨#[]⟩, .int .i64 0, .slice none 0 0, .slice none 0 0] 38)).alloc (by simp; omega) (.cells #[.int .i64 0, .int .i64 0, .string ⟨#[]⟩] 40))
  have X0 := hide ((((Blk.new w #[.slice la ls.length lc, .string (brOf o).key, .string (brOf o).val, .int .i64 (brOf o).at_, .slice ka kn kc, .slice sa ss.length sc] 38 (w.heap.size) rfl).alloc (.cells #[.int .i64 c.kd, .int .i64 c.ss, .int .i64 c.sq, .string c.ky, .string c.vl] 44)).alloc (.cells #[.slice none 0 0, .string ⟨#[]⟩, .string ⟨#[]⟩, .int .i64 0, .slice none 0 0, .slice none 0 0] 38)).alloc (.cells #[.int .i64 0, .int .i64 0, .string ⟨#[]⟩] 40))
  have C0 := hide (((Blk.new (w.alloc (.cells #[.slice la ls.length lc, .string (brOf o).key, .string (brOf o).val, .int .i64 (brOf o).at_, .slice ka kn kc, .slice sa ss.length sc] 38)) #[.int .i64 c.kd, .int .i64 c.ss, .int .i64 c.sq, .string c.ky, .string c.vl] 44 (w.heap.size + 1) (by simp)).alloc (.cells #[.slice none 0 0, .string ⟨#[]⟩, .string ⟨#[]⟩, .int .i64 0, .slice none 0 0, .slice none 0 0] 38)).alloc (.cells #[.int .i64 0, .int .i64 0, .string ⟨#[]⟩] 40))
  have O0 := hide ((Blk.new ((w.alloc (.cells #[.slice la ls.length lc, .string (brOf o).key, .string (brOf o).val, .int .i64 (brOf o).at_, .slice ka kn kc, .slice sa ss.length sc] 38)).alloc (.cells #[.int .i64 c.kd, .int .i64 c.ss, .int .i64 c.sq, .string c.ky, .string c.vl] 44)) #[.slice none 0 0, .string ⟨#[]⟩, .string ⟨#[]⟩, .int .i64 0, .slice none 0 0, .slice none 0 0] 38 (w.heap.size + 1 + 1) (by simp)).alloc (.cells #[.int .i64 0, .int .i64 0, .string ⟨#[]⟩] 40))
  have R0 := hide (Blk.new (((w.alloc (.cells #[.slice la ls.length lc, .string (brOf o).key, .string (brOf o).val, .int .i64 (brOf o).at_, .slice ka kn kc, .slice sa ss.length sc] 38)).alloc (.cells #[.int .i64 c.kd, .int .i64 c.ss, .int .i64 c.sq, .string c.ky, .string c.vl] 44)).alloc (.cells #[.slice none 0 0, .string ⟨#[]⟩, .string ⟨#[]⟩, .int .i64 0, .slice none 0 0, .slice none 0 0] 38)) #[.int .i64 0, .int .i64 0, .string ⟨#[]⟩] 40 (w.heap.size + 1 + 1 + 1) (by simp))
  have HOP := hide (fun wx (hx : Below w.heap.size w wx) => l09Open_any ss (brOf o).key (brOf o).val (brOf o).at_ la ka sa ls.length lc kn kc sc c wx (hSe.below hx) hL.rs hL.m)
  have HSE := hide (fun wx (hx : Below w.heap.size w wx) => l09Session_any _ ss c.ss wx (hSe.below hx) (by omega) hL.rs)
  by_cases hk4 : 4 ≤ c.kd
  · have b4 : decide ((4 : Int) ≤ c.kd) = true := by rw [decide_eq_true_eq]; exact hk4
    have HU := hide (op_ap ⟨ls, o, ss⟩ c (cmK_kd hc hk4))
    clear hS hK hSe hL hc HSE
    dsimp only at HU
    generalize apOut ⟨ls, o, ss⟩ c = out at *
    generalize opN ss c = oo at *
    obtain ⟨ssN, k5⟩ := oo
    dsimp only at HU HOP
    go_enter Tryz.func32, Tryz.ntmps32
    go_upto_region 1 with fail
    generalize (((w.alloc (.cells #[.slice la ls.length lc, .string (brOf o).key, .string (brOf o).val, .int .i64 (brOf o).at_, .slice ka kn kc, .slice sa ss.length sc] 38)).alloc (.cells #[.int .i64 c.kd, .int .i64 c.ss, .int .i64 c.sq, .string c.ky, .string c.vl] 44)).alloc (.cells #[.slice none 0 0, .string ⟨#[]⟩, .string ⟨#[]⟩, .int .i64 0, .slice none 0 0, .slice none 0 0] 38)).alloc (.cells #[.int .i64 0, .int .i64 0, .string ⟨#[]⟩] 40) = w0 at *
    have HO1 := hide (unhide HOP w0 (unhide B0))
    have x0 := (unhide X0).cell 0 rfl
    have x1 := (unhide X0).cell 1 rfl
    have x2 := (unhide X0).cell 2 rfl
    have x3 := (unhide X0).cell 3 rfl
    have x4 := (unhide X0).cell 4 rfl
    have x5 := (unhide X0).cell 5 rfl
    have y0 := (unhide C0).cell 0 rfl
    have y1 := (unhide C0).cell 1 rfl
    have y2 := (unhide C0).cell 2 rfl
    have y3 := (unhide C0).cell 3 rfl
    have y4 := (unhide C0).cell 4 rfl
    clear HOP
    go_wp2_with fail
    refine (unhide HO1).mono ?_
    rintro e w1 ⟨sa1, sn1, sc1, rfl, hss1, hb1, hf1⟩
    have HSN := hide hss1
    have HFR := hide hf1
    have hw0 : w.heap.size + 1 + 1 + 1 < w0.heap.size := (unhide R0).1
    have K := hide ((unhide B0).trans (hb1.mono (unhide B0).size))
    have O := hide ((unhide O0).below hb1)
    have R := hide ((unhide R0).below hb1)
    have hw1 : w.heap.size + 1 + 1 + 1 < w1.heap.size := (unhide R).1
    clear hss1 hb1 hf1 HO1 X0 C0 O0 R0 B0 x0 x1 x2 x3 x4 x5 y0 y1 y2 y3 y4
    have OX := unhide O
    have RX := unhide R
    have ox0 := OX.cell 0 rfl
    have of0 := OX.fro 0
    have ox1 := OX.cell 1 rfl
    have of1 := OX.fro 1
    have ox2 := OX.cell 2 rfl
    have of2 := OX.fro 2
    have ox3 := OX.cell 3 rfl
    have of3 := OX.fro 3
    have ox4 := OX.cell 4 rfl
    have of4 := OX.fro 4
    have ox5 := OX.cell 5 rfl
    have of5 := OX.fro 5
    have rx0 := RX.cell 0 rfl
    have rf0 := RX.fro 0
    have rx1 := RX.cell 1 rfl
    have rf1 := RX.fro 1
    have rx2 := RX.cell 2 rfl
    have rf2 := RX.fro 2
    have HO9 := hide (((((((((OX.set 0 (.slice la ls.length lc) (by simp)).set 1 (.string (brOf o).key) (by simp)).set 2 (.string (brOf o).val) (by simp)).set 3 (.int .i64 (brOf o).at_) (by simp)).set 4 (.slice ka kn kc) (by simp)).set 5 (.slice sa1 sn1 sc1) (by simp)).other (C := w.heap.size + 1 + 1 + 1) 0 (.int .i64 k5) (by omega)).other (C := w.heap.size + 1 + 1 + 1) 1 (.int .i64 0) (by omega)).other (C := w.heap.size + 1 + 1 + 1) 2 (.string ⟨#[]⟩) (by omega))
    have HR9 := hide (((((((((RX.other (C := w.heap.size + 1 + 1) 0 (.slice la ls.length lc) (by omega)).other (C := w.heap.size + 1 + 1) 1 (.string (brOf o).key) (by omega)).other (C := w.heap.size + 1 + 1) 2 (.string (brOf o).val) (by omega)).other (C := w.heap.size + 1 + 1) 3 (.int .i64 (brOf o).at_) (by omega)).other (C := w.heap.size + 1 + 1) 4 (.slice ka kn kc) (by omega)).other (C := w.heap.size + 1 + 1) 5 (.slice sa1 sn1 sc1) (by omega)).set 0 (.int .i64 k5) (by simp)).set 1 (.int .i64 0) (by simp)).set 2 (.string ⟨#[]⟩) (by simp))
    have HT9 := hide ((((((((((Touch.refl (fun k => k = w.heap.size + 1 + 1 ∨ k = w.heap.size + 1 + 1 + 1) w1).setCell ⟨w.heap.size + 1 + 1, 0, none⟩ (.slice la ls.length lc) (fun _ => .inl rfl)).setCell ⟨w.heap.size + 1 + 1, 1, none⟩ (.string (brOf o).key) (fun _ => .inl rfl)).setCell ⟨w.heap.size + 1 + 1, 2, none⟩ (.string (brOf o).val) (fun _ => .inl rfl)).setCell ⟨w.heap.size + 1 + 1, 3, none⟩ (.int .i64 (brOf o).at_) (fun _ => .inl rfl)).setCell ⟨w.heap.size + 1 + 1, 4, none⟩ (.slice ka kn kc) (fun _ => .inl rfl)).setCell ⟨w.heap.size + 1 + 1, 5, none⟩ (.slice sa1 sn1 sc1) (fun _ => .inl rfl)).setCell ⟨w.heap.size + 1 + 1 + 1, 0, none⟩ (.int .i64 k5) (fun _ => .inr rfl)).setCell ⟨w.heap.size + 1 + 1 + 1, 1, none⟩ (.int .i64 0) (fun _ => .inr rfl)).setCell ⟨w.heap.size + 1 + 1 + 1, 2, none⟩ (.string ⟨#[]⟩) (fun _ => .inr rfl))
    clear OX RX
    go_wp2_with fail
    have O9 := unhide HO9
    have R9 := unhide HR9
    have z0 := O9.cell 0 rfl
    have z1 := O9.cell 1 rfl
    have z2 := O9.cell 2 rfl
    have z3 := O9.cell 3 rfl
    have z4 := O9.cell 4 rfl
    have z5 := O9.cell 5 rfl
    have y0 := R9.cell 0 rfl
    have y1 := R9.cell 1 rfl
    have y2 := R9.cell 2 rfl
    refine bodyPost_ret (v := .tuple #[.agg #[.slice la ls.length lc, .string (brOf o).key, .string (brOf o).val, .int .i64 (brOf o).at_, .slice ka kn kc, .slice sa1 sn1 sc1], .agg #[.int .i64 k5, .int .i64 0, .string ⟨#[]⟩]]) (by simp [results, Tryz.results32, go_sem, z0, z1, z2, z3, z4, z5, y0, y1, y2]) rfl ?_
    have K9 := (unhide K).trans ((unhide HT9).below (unhide K).size (fun k9 hk9 e => by rcases e with e | e <;> omega))
    refine an_tell (unhide HU) ⟨_, _, _, rfl, (unhide HST).below K9, (unhide HBR).blw K9, ?_, K9, .inl rfl, (unhide HFR).down (by omega)⟩
    exact Sess.fresh (unhide HSS) (unhide HSN) (unhide HFR) (unhide HT9) (fun k hk => by rcases hk with hk | hk <;> omega)
  have HU : Hid (apOut ⟨ls, o, ss⟩ c = if hasS ss c.ss = false then (⟨ls, o, ss⟩, ⟨4, 0, ⟨#[]⟩⟩) else svOut ⟨ls, o, ss⟩ c (posS ss c.ss)) := hide (by unfold apOut; have n4 : ¬ c.kd = 4 := (by omega); have n5 : ¬ c.kd = 5 := (by omega); by_cases hh : hasS ss c.ss = false <;> simp [hh, n4, n5])
  have b4 : decide ((4 : Int) ≤ c.kd) = false := by rw [decide_eq_false_iff_not]; exact hk4
  have HSI : Hid (seI ss c.ss = if hasS ss c.ss then (posS ss c.ss : Int) else -1) := hide rfl
  have HHas : Hid (hasS ss c.ss = true → posS ss c.ss < ss.length) := hide (fun h => (has_iff.1 h).1)
  have HCH := hide (fun wx (hx : Below w.heap.size w wx) => l09Change_any ls o la ka sa lc kn kc ss.length sc c wx (hS.below hx) (hK.blw hx) ⟨hL.n, hL.h, hL.ok, hL.ri, hL.sp, by simp, fun i j _ h => absurd h (by simp), fun s h => by cases h⟩ hc (by omega) (by omega))
  have F0 := hide ((Fin.new ((w.alloc (.cells #[.slice la ls.length lc, .string (brOf o).key, .string (brOf o).val, .int .i64 (brOf o).at_, .slice ka kn kc, .slice sa ss.length sc] 38)).alloc (.cells #[.int .i64 c.kd, .int .i64 c.ss, .int .i64 c.sq, .string c.ky, .string c.vl] 44)) #[.slice none 0 0, .string ⟨#[]⟩, .string ⟨#[]⟩, .int .i64 0, .slice none 0 0, .slice none 0 0] 38 (w.heap.size + 1 + 1) 7 (by simp) (by simp)).alloc (.cells #[.int .i64 0, .int .i64 0, .string ⟨#[]⟩] 40))
  have F1 := hide (Fin.new (((w.alloc (.cells #[.slice la ls.length lc, .string (brOf o).key, .string (brOf o).val, .int .i64 (brOf o).at_, .slice ka kn kc, .slice sa ss.length sc] 38)).alloc (.cells #[.int .i64 c.kd, .int .i64 c.ss, .int .i64 c.sq, .string c.ky, .string c.vl] 44)).alloc (.cells #[.slice none 0 0, .string ⟨#[]⟩, .string ⟨#[]⟩, .int .i64 0, .slice none 0 0, .slice none 0 0] 38)) #[.int .i64 0, .int .i64 0, .string ⟨#[]⟩] 40 (w.heap.size + 1 + 1 + 1) 7 (by simp) (by simp))
  have HSV := hide (fun q => show svOut ⟨ls, o, ss⟩ c q = if c.sq = (ss.getD q default).sq ∧ (ss.getD q default).kd ≠ 0 then (⟨ls, o, ss⟩, ⟨(ss.getD q default).kd, (ss.getD q default).pl, (ss.getD q default).vl⟩)
    else if c.sq ≤ (ss.getD q default).sq then (⟨ls, o, ss⟩, ⟨3, 0, ⟨#[]⟩⟩)
    else (⟨(chOut ls o c (getV o c.ky)).1, (chOut ls o c (getV o c.ky)).2.1, ss.set q ⟨(ss.getD q default).id, c.sq, (chOut ls o c (getV o c.ky)).2.2.kd, (chOut ls o c (getV o c.ky)).2.2.pl, (chOut ls o c (getV o c.ky)).2.2.vl⟩⟩, (chOut ls o c (getV o c.ky)).2.2) from rfl)
  have HSB := hide hL.sb
  generalize chOut ls o c (getV o c.ky) = out3 at *
  obtain ⟨lsN, oN, rN⟩ := out3
  dsimp only at HSV HCH
  generalize apOut ⟨ls, o, ss⟩ c = out at *
  clear hS hK hSe hL hc HOP
  generalize hasS ss c.ss = has at *
  generalize posS ss c.ss = q at *
  generalize seI ss c.ss = si at *
  go_enter Tryz.func32, Tryz.ntmps32
  go_upto_region 1 with fail
  generalize (((w.alloc (.cells #[.slice la ls.length lc, .string (brOf o).key, .string (brOf o).val, .int .i64 (brOf o).at_, .slice ka kn kc, .slice sa ss.length sc] 38)).alloc (.cells #[.int .i64 c.kd, .int .i64 c.ss, .int .i64 c.sq, .string c.ky, .string c.vl] 44)).alloc (.cells #[.slice none 0 0, .string ⟨#[]⟩, .string ⟨#[]⟩, .int .i64 0, .slice none 0 0, .slice none 0 0] 38)).alloc (.cells #[.int .i64 0, .int .i64 0, .string ⟨#[]⟩] 40) = w0 at *
  have hw0 : w.heap.size + 1 + 1 + 1 < w0.heap.size := (unhide R0).1
  have HS0 := hide (unhide HSE w0 (unhide B0))
  have x0 := (unhide X0).cell 0 rfl
  have x1 := (unhide X0).cell 1 rfl
  have x2 := (unhide X0).cell 2 rfl
  have x3 := (unhide X0).cell 3 rfl
  have x4 := (unhide X0).cell 4 rfl
  have x5 := (unhide X0).cell 5 rfl
  have y0 := (unhide C0).cell 0 rfl
  have y1 := (unhide C0).cell 1 rfl
  have y2 := (unhide C0).cell 2 rfl
  have y3 := (unhide C0).cell 3 rfl
  have y4 := (unhide C0).cell 4 rfl
  clear HSE
  go_wp2_with fail
  refine (unhide HS0).mono ?_
  rintro e w' ⟨rfl, hw'⟩
  have hw2 := hw'.symm
  clear hw' HS0
  subst hw2
  have K := B0
  have X := X0
  have C := C0
  have O := O0
  have R := R0
  clear B0 X0 C0 O0 R0
  cases has
  · obtain rfl : si = -1 := unhide HSI
    have OX := unhide O
    have RX := unhide R
    have ox0 := OX.cell 0 rfl
    have of0 := OX.fro 0
    have ox1 := OX.cell 1 rfl
    have of1 := OX.fro 1
    have ox2 := OX.cell 2 rfl
    have of2 := OX.fro 2
    have ox3 := OX.cell 3 rfl
    have of3 := OX.fro 3
    have ox4 := OX.cell 4 rfl
    have of4 := OX.fro 4
    have ox5 := OX.cell 5 rfl
    have of5 := OX.fro 5
    have rx0 := RX.cell 0 rfl
    have rf0 := RX.fro 0
    have rx1 := RX.cell 1 rfl
    have rf1 := RX.fro 1
    have rx2 := RX.cell 2 rfl
    have rf2 := RX.fro 2
    have HO9 := hide (((((((((OX.set 0 (.slice la ls.length lc) (by simp)).set 1 (.string (brOf o).key) (by simp)).set 2 (.string (brOf o).val) (by simp)).set 3 (.int .i64 (brOf o).at_) (by simp)).set 4 (.slice ka kn kc) (by simp)).set 5 (.slice sa ss.length sc) (by simp)).other (C := w.heap.size + 1 + 1 + 1) 0 (.int .i64 4) (by omega)).other (C := w.heap.size + 1 + 1 + 1) 1 (.int .i64 0) (by omega)).other (C := w.heap.size + 1 + 1 + 1) 2 (.string ⟨#[]⟩) (by omega))
    have HR9 := hide (((((((((RX.other (C := w.heap.size + 1 + 1) 0 (.slice la ls.length lc) (by omega)).other (C := w.heap.size + 1 + 1) 1 (.string (brOf o).key) (by omega)).other (C := w.heap.size + 1 + 1) 2 (.string (brOf o).val) (by omega)).other (C := w.heap.size + 1 + 1) 3 (.int .i64 (brOf o).at_) (by omega)).other (C := w.heap.size + 1 + 1) 4 (.slice ka kn kc) (by omega)).other (C := w.heap.size + 1 + 1) 5 (.slice sa ss.length sc) (by omega)).set 0 (.int .i64 4) (by simp)).set 1 (.int .i64 0) (by simp)).set 2 (.string ⟨#[]⟩) (by simp))
    have HT9 := hide ((((((((((Touch.refl (fun k => k = w.heap.size + 1 + 1 ∨ k = w.heap.size + 1 + 1 + 1) w0).setCell ⟨w.heap.size + 1 + 1, 0, none⟩ (.slice la ls.length lc) (fun _ => .inl rfl)).setCell ⟨w.heap.size + 1 + 1, 1, none⟩ (.string (brOf o).key) (fun _ => .inl rfl)).setCell ⟨w.heap.size + 1 + 1, 2, none⟩ (.string (brOf o).val) (fun _ => .inl rfl)).setCell ⟨w.heap.size + 1 + 1, 3, none⟩ (.int .i64 (brOf o).at_) (fun _ => .inl rfl)).setCell ⟨w.heap.size + 1 + 1, 4, none⟩ (.slice ka kn kc) (fun _ => .inl rfl)).setCell ⟨w.heap.size + 1 + 1, 5, none⟩ (.slice sa ss.length sc) (fun _ => .inl rfl)).setCell ⟨w.heap.size + 1 + 1 + 1, 0, none⟩ (.int .i64 4) (fun _ => .inr rfl)).setCell ⟨w.heap.size + 1 + 1 + 1, 1, none⟩ (.int .i64 0) (fun _ => .inr rfl)).setCell ⟨w.heap.size + 1 + 1 + 1, 2, none⟩ (.string ⟨#[]⟩) (fun _ => .inr rfl))
    clear OX RX
    go_wp2_with fail
    have O9 := unhide HO9
    have R9 := unhide HR9
    have z0 := O9.cell 0 rfl
    have z1 := O9.cell 1 rfl
    have z2 := O9.cell 2 rfl
    have z3 := O9.cell 3 rfl
    have z4 := O9.cell 4 rfl
    have z5 := O9.cell 5 rfl
    have y0 := R9.cell 0 rfl
    have y1 := R9.cell 1 rfl
    have y2 := R9.cell 2 rfl
    refine bodyPost_ret (v := .tuple #[.agg #[.slice la ls.length lc, .string (brOf o).key, .string (brOf o).val, .int .i64 (brOf o).at_, .slice ka kn kc, .slice sa ss.length sc], .agg #[.int .i64 4, .int .i64 0, .string ⟨#[]⟩]]) (by simp [results, Tryz.results32, go_sem, z0, z1, z2, z3, z4, z5, y0, y1, y2]) rfl ?_
    have K9 := (unhide K).trans ((unhide HT9).below (unhide K).size (fun k9 hk9 e => by rcases e with e | e <;> omega))
    refine an_tell ((unhide HU).trans (if_pos (by first | trivial | rfl))) ⟨_, _, _, rfl, (unhide HST).below K9, (unhide HBR).blw K9, (unhide HSS).below K9, K9, .inl rfl, .inl rfl⟩
  obtain rfl : si = (q : Int) := unhide HSI
  have HQ := hide (unhide HHas rfl)
  have hq := unhide HQ
  obtain ⟨b, off, rfl, hbl, hsc⟩ : ∃ b off, sa = some ⟨b, off, none⟩ ∧ b < w.heap.size ∧ ∀ i, i < ss.length → w.cell? ⟨b, off + i * 5, none⟩ = some (.int .i64 (ss.getD i default).id) ∧ w.cell? ⟨b, off + i * 5 + 1, none⟩ = some (.int .i64 (ss.getD i default).sq) ∧ w.cell? ⟨b, off + i * 5 + 2, none⟩ = some (.int .i64 (ss.getD i default).kd) ∧ w.cell? ⟨b, off + i * 5 + 3, none⟩ = some (.int .i64 (ss.getD i default).pl) ∧ w.cell? ⟨b, off + i * 5 + 4, none⟩ = some (.string (ss.getD i default).vl) := by
    obtain ⟨a', cap', e, _, _, hcs⟩ := unhide HSS
    simp only [Value.slice.injEq] at e
    obtain ⟨rfl, _, rfl⟩ := e
    rcases hcs with h0 | h1
    · omega
    · obtain ⟨b, off, e, hb, h1⟩ := h1
      exact ⟨b, off, e, hb, h1⟩
  obtain ⟨_, s1, s2, s3, s4⟩ := hsc q hq
  have hsb := unhide HSB (ss.getD q default) (by rw [List.getD_eq_getElem?_getD, List.getElem?_eq_getElem hq]; exact List.getElem_mem hq)
  replace HU := hide ((unhide HU).trans ((if_neg (by simp)).trans (unhide HSV q)))
  clear HSV HSB hsc HHas HSI
  obtain ⟨f, hf⟩ : ∃ f, f = ss.getD q default := ⟨_, rfl⟩
  rw [← hf] at HU s1 s2 s3 s4 hsb
  have HFE := hide hf
  clear hf
  obtain ⟨f0, f1, f2, f3, f4⟩ := f
  dsimp only at HU s1 s2 s3 s4 hsb
  have hf2 := hsb.2.2.1.1
  clear hsb
  replace s1 := ((unhide K).cell (p := ⟨b, off + q * 5 + 1, none⟩) hbl).trans s1
  replace s2 := ((unhide K).cell (p := ⟨b, off + q * 5 + 2, none⟩) hbl).trans s2
  replace s3 := ((unhide K).cell (p := ⟨b, off + q * 5 + 3, none⟩) hbl).trans s3
  replace s4 := ((unhide K).cell (p := ⟨b, off + q * 5 + 4, none⟩) hbl).trans s4
  have hbw : b < w0.heap.size := by omega
  have m0 : (0 : Int) ≤ (q : Int) := by omega
  have m1 : (q : Int) < (ss.length : Int) := by omega
  have m2 : decide ((q : Int) < 0) = false := by rw [decide_eq_false_iff_not]; omega
  by_cases heq : c.sq = f1
  · have b1 : (c.sq == f1) = true := by rw [heq]; simp
    have HEQ := hide heq
    by_cases hkd : f2 = 0
    · have b2 : decide ((0 : Int) < f2) = false := by rw [decide_eq_false_iff_not]; omega
      have HKD := hide hkd
      have H9 := hide (show c.sq ≤ f1 by omega)
      have b3 : decide (c.sq ≤ f1) = true := by rw [decide_eq_true_eq]; omega
      clear heq hkd
      go_upto_region 6 with fail
      refine wp_region_noPanic ?_
      refine wp_region_held_drew (S := (fun wx => wx.cell? ⟨w.heap.size, 5, none⟩ = some (.slice (some ⟨b, off, none⟩) ss.length sc) ∧ wx.cell? ⟨w.heap.size + 1, 2, none⟩ = some (.int .i64 c.sq) ∧ wx.cell? ⟨b, off + q * 5 + 1, none⟩ = some (.int .i64 f1) ∧ wx.cell? ⟨b, off + q * 5 + 2, none⟩ = some (.int .i64 f2))) (by kernel_rfl) ?_ (fun hHeld => ?_)
      · exact ⟨x5, y2, s1, s2⟩
      refine tkH 0 rfl ?_
      refine tkH 1 rfl ?_
      refine tkH 2 rfl ?_
      refine tkH 3 rfl ?_
      refine tkH 4 rfl ?_
      refine tkH 5 rfl ?_
      refine tkH 6 rfl ?_
      refine tkH 7 rfl ?_
      refine tkH 8 rfl ?_
      refine tkH 9 rfl ?_
      refine tkH 10 rfl ?_
      refine tkH 11 rfl ?_
      refine tkH 12 rfl ?_
      refine tkH 13 rfl ?_
      refine tkH 14 rfl ?_
      refine tkH 15 rfl ?_
      refine tkH 16 rfl ?_
      refine tkH 17 rfl ?_
      refine tkH 18 rfl ?_
      refine tkH 19 rfl ?_
      refine wpAnyH_done (by kernel_rfl) (NoPanic.normal ?_) _
      clear hHeld
      have hbD := below_drewN (Below.refl w0.heap.size w0) 1
      replace K := hide ((unhide K).trans (hbD.mono (unhide K).size))
      replace X := hide ((unhide X).below hbD)
      replace C := hide ((unhide C).below hbD)
      replace O := hide ((unhide O).below hbD)
      replace R := hide ((unhide R).below hbD)
      have SC' := hide (fun (i : Nat) (v : Value) (h : w0.cell? ⟨b, i, none⟩ = some v) => (hbD.cell (p := ⟨b, i, none⟩) hbw).trans h)
      change Hid (Below w.heap.size w w0.drew) at K
      replace F0 := hide ((unhide F0).below hbD)
      change Hid (Fin w0.drew _ _) at F0
      replace F1 := hide ((unhide F1).below hbD)
      change Hid (Fin w0.drew _ _) at F1
      change Hid (Blk w0.drew _ _) at X
      change Hid (Blk w0.drew _ _) at C
      change Hid (Blk w0.drew _ _) at O
      change Hid (Blk w0.drew _ _) at R
      change Hid (∀ (i : Nat) (v : Value), w0.cell? ⟨b, i, none⟩ = some v → w0.drew.cell? ⟨b, i, none⟩ = some v) at SC'
      replace s1 := unhide SC' _ _ s1
      replace s2 := unhide SC' _ _ s2
      replace s3 := unhide SC' _ _ s3
      replace s4 := unhide SC' _ _ s4
      change b < w0.drew.heap.size at hbw
      clear hbD SC' hw0 x0 x1 x2 x3 x4 x5 y0 y1 y2 y3 y4
      generalize w0.drew = w1 at *
      have hw0 : w.heap.size + 1 + 1 + 1 < w1.heap.size := (unhide R).1
      have x0 := (unhide X).cell 0 rfl
      have x1 := (unhide X).cell 1 rfl
      have x2 := (unhide X).cell 2 rfl
      have x3 := (unhide X).cell 3 rfl
      have x4 := (unhide X).cell 4 rfl
      have x5 := (unhide X).cell 5 rfl
      have y0 := (unhide C).cell 0 rfl
      have y1 := (unhide C).cell 1 rfl
      have y2 := (unhide C).cell 2 rfl
      have y3 := (unhide C).cell 3 rfl
      have y4 := (unhide C).cell 4 rfl
      go_upto_region 8 with fail
      refine wp_region_noPanic ?_
      refine wp_region_held_drew (S := (fun wx => wx.cell? ⟨w.heap.size, 5, none⟩ = some (.slice (some ⟨b, off, none⟩) ss.length sc) ∧ wx.cell? ⟨w.heap.size + 1, 2, none⟩ = some (.int .i64 c.sq) ∧ wx.cell? ⟨b, off + q * 5 + 1, none⟩ = some (.int .i64 f1) ∧ wx.cell? ⟨b, off + q * 5 + 2, none⟩ = some (.int .i64 f2))) (by kernel_rfl) ?_ (fun hHeld => ?_)
      · exact ⟨x5, y2, s1, s2⟩
      refine tkH 0 rfl ?_
      refine tkH 1 rfl ?_
      refine tkH 2 rfl ?_
      refine tkH 3 rfl ?_
      refine tkH 4 rfl ?_
      refine tkH 5 rfl ?_
      refine tkH 6 rfl ?_
      refine tkH 7 rfl ?_
      refine tkH 8 rfl ?_
      refine tkH 9 rfl ?_
      refine wpAnyH_done (by kernel_rfl) (NoPanic.normal ?_) _
      clear hHeld
      have hbD := below_drewN (Below.refl w1.heap.size w1) 1
      replace K := hide ((unhide K).trans (hbD.mono (unhide K).size))
      replace X := hide ((unhide X).below hbD)
      replace C := hide ((unhide C).below hbD)
      replace O := hide ((unhide O).below hbD)
      replace R := hide ((unhide R).below hbD)
      have SC' := hide (fun (i : Nat) (v : Value) (h : w1.cell? ⟨b, i, none⟩ = some v) => (hbD.cell (p := ⟨b, i, none⟩) hbw).trans h)
      change Hid (Below w.heap.size w w1.drew) at K
      replace F0 := hide ((unhide F0).below hbD)
      change Hid (Fin w1.drew _ _) at F0
      replace F1 := hide ((unhide F1).below hbD)
      change Hid (Fin w1.drew _ _) at F1
      change Hid (Blk w1.drew _ _) at X
      change Hid (Blk w1.drew _ _) at C
      change Hid (Blk w1.drew _ _) at O
      change Hid (Blk w1.drew _ _) at R
      change Hid (∀ (i : Nat) (v : Value), w1.cell? ⟨b, i, none⟩ = some v → w1.drew.cell? ⟨b, i, none⟩ = some v) at SC'
      replace s1 := unhide SC' _ _ s1
      replace s2 := unhide SC' _ _ s2
      replace s3 := unhide SC' _ _ s3
      replace s4 := unhide SC' _ _ s4
      change b < w1.drew.heap.size at hbw
      clear hbD SC' hw0 x0 x1 x2 x3 x4 x5 y0 y1 y2 y3 y4
      generalize w1.drew = w2 at *
      have hw0 : w.heap.size + 1 + 1 + 1 < w2.heap.size := (unhide R).1
      have x0 := (unhide X).cell 0 rfl
      have x1 := (unhide X).cell 1 rfl
      have x2 := (unhide X).cell 2 rfl
      have x3 := (unhide X).cell 3 rfl
      have x4 := (unhide X).cell 4 rfl
      have x5 := (unhide X).cell 5 rfl
      have y0 := (unhide C).cell 0 rfl
      have y1 := (unhide C).cell 1 rfl
      have y2 := (unhide C).cell 2 rfl
      have y3 := (unhide C).cell 3 rfl
      have y4 := (unhide C).cell 4 rfl
      have OX := unhide O
      have RX := unhide R
      have ox0 := OX.cell 0 rfl
      have of0 := OX.fro 0
      have ox1 := OX.cell 1 rfl
      have of1 := OX.fro 1
      have ox2 := OX.cell 2 rfl
      have of2 := OX.fro 2
      have ox3 := OX.cell 3 rfl
      have of3 := OX.fro 3
      have ox4 := OX.cell 4 rfl
      have of4 := OX.fro 4
      have ox5 := OX.cell 5 rfl
      have of5 := OX.fro 5
      have rx0 := RX.cell 0 rfl
      have rf0 := RX.fro 0
      have rx1 := RX.cell 1 rfl
      have rf1 := RX.fro 1
      have rx2 := RX.cell 2 rfl
      have rf2 := RX.fro 2
      have HO9 := hide (((((((((OX.set 0 (.slice la ls.length lc) (by simp)).set 1 (.string (brOf o).key) (by simp)).set 2 (.string (brOf o).val) (by simp)).set 3 (.int .i64 (brOf o).at_) (by simp)).set 4 (.slice ka kn kc) (by simp)).set 5 (.slice (some ⟨b, off, none⟩) ss.length sc) (by simp)).other (C := w.heap.size + 1 + 1 + 1) 0 (.int .i64 3) (by omega)).other (C := w.heap.size + 1 + 1 + 1) 1 (.int .i64 0) (by omega)).other (C := w.heap.size + 1 + 1 + 1) 2 (.string ⟨#[]⟩) (by omega))
      have HR9 := hide (((((((((RX.other (C := w.heap.size + 1 + 1) 0 (.slice la ls.length lc) (by omega)).other (C := w.heap.size + 1 + 1) 1 (.string (brOf o).key) (by omega)).other (C := w.heap.size + 1 + 1) 2 (.string (brOf o).val) (by omega)).other (C := w.heap.size + 1 + 1) 3 (.int .i64 (brOf o).at_) (by omega)).other (C := w.heap.size + 1 + 1) 4 (.slice ka kn kc) (by omega)).other (C := w.heap.size + 1 + 1) 5 (.slice (some ⟨b, off, none⟩) ss.length sc) (by omega)).set 0 (.int .i64 3) (by simp)).set 1 (.int .i64 0) (by simp)).set 2 (.string ⟨#[]⟩) (by simp))
      have HT9 := hide ((((((((((Touch.refl (fun k => k = w.heap.size + 1 + 1 ∨ k = w.heap.size + 1 + 1 + 1) w2).setCell ⟨w.heap.size + 1 + 1, 0, none⟩ (.slice la ls.length lc) (fun _ => .inl rfl)).setCell ⟨w.heap.size + 1 + 1, 1, none⟩ (.string (brOf o).key) (fun _ => .inl rfl)).setCell ⟨w.heap.size + 1 + 1, 2, none⟩ (.string (brOf o).val) (fun _ => .inl rfl)).setCell ⟨w.heap.size + 1 + 1, 3, none⟩ (.int .i64 (brOf o).at_) (fun _ => .inl rfl)).setCell ⟨w.heap.size + 1 + 1, 4, none⟩ (.slice ka kn kc) (fun _ => .inl rfl)).setCell ⟨w.heap.size + 1 + 1, 5, none⟩ (.slice (some ⟨b, off, none⟩) ss.length sc) (fun _ => .inl rfl)).setCell ⟨w.heap.size + 1 + 1 + 1, 0, none⟩ (.int .i64 3) (fun _ => .inr rfl)).setCell ⟨w.heap.size + 1 + 1 + 1, 1, none⟩ (.int .i64 0) (fun _ => .inr rfl)).setCell ⟨w.heap.size + 1 + 1 + 1, 2, none⟩ (.string ⟨#[]⟩) (fun _ => .inr rfl))
      clear OX RX
      go_wp2_with fail
      have O9 := unhide HO9
      have R9 := unhide HR9
      have z0 := O9.cell 0 rfl
      have z1 := O9.cell 1 rfl
      have z2 := O9.cell 2 rfl
      have z3 := O9.cell 3 rfl
      have z4 := O9.cell 4 rfl
      have z5 := O9.cell 5 rfl
      have y0 := R9.cell 0 rfl
      have y1 := R9.cell 1 rfl
      have y2 := R9.cell 2 rfl
      refine bodyPost_ret (v := .tuple #[.agg #[.slice la ls.length lc, .string (brOf o).key, .string (brOf o).val, .int .i64 (brOf o).at_, .slice ka kn kc, .slice (some ⟨b, off, none⟩) ss.length sc], .agg #[.int .i64 3, .int .i64 0, .string ⟨#[]⟩]]) (by simp [results, Tryz.results32, go_sem, z0, z1, z2, z3, z4, z5, y0, y1, y2]) rfl ?_
      have K9 := (unhide K).trans ((unhide HT9).below (unhide K).size (fun k9 hk9 e => by rcases e with e | e <;> omega))
      refine an_tell (by rw [unhide HU, if_neg (fun h => h.2 (unhide HKD)), if_pos (unhide H9)]) ⟨_, _, _, rfl, (unhide HST).below K9, (unhide HBR).blw K9, (unhide HSS).below K9, K9, .inl rfl, .inl rfl⟩
    · have b2 : decide ((0 : Int) < f2) = true := by rw [decide_eq_true_eq]; omega
      have HKD := hide hkd
      clear heq hkd
      go_upto_region 6 with fail
      refine wp_region_noPanic ?_
      refine wp_region_held_drew (S := (fun wx => wx.cell? ⟨w.heap.size, 5, none⟩ = some (.slice (some ⟨b, off, none⟩) ss.length sc) ∧ wx.cell? ⟨w.heap.size + 1, 2, none⟩ = some (.int .i64 c.sq) ∧ wx.cell? ⟨b, off + q * 5 + 1, none⟩ = some (.int .i64 f1) ∧ wx.cell? ⟨b, off + q * 5 + 2, none⟩ = some (.int .i64 f2))) (by kernel_rfl) ?_ (fun hHeld => ?_)
      · exact ⟨x5, y2, s1, s2⟩
      refine tkH 0 rfl ?_
      refine tkH 1 rfl ?_
      refine tkH 2 rfl ?_
      refine tkH 3 rfl ?_
      refine tkH 4 rfl ?_
      refine tkH 5 rfl ?_
      refine tkH 6 rfl ?_
      refine tkH 7 rfl ?_
      refine tkH 8 rfl ?_
      refine tkH 9 rfl ?_
      refine tkH 10 rfl ?_
      refine tkH 11 rfl ?_
      refine tkH 12 rfl ?_
      refine tkH 13 rfl ?_
      refine tkH 14 rfl ?_
      refine tkH 15 rfl ?_
      refine tkH 16 rfl ?_
      refine tkH 17 rfl ?_
      refine tkH 18 rfl ?_
      refine tkH 19 rfl ?_
      refine wpAnyH_done (by kernel_rfl) (NoPanic.normal ?_) _
      clear hHeld
      have hbD := below_drewN (Below.refl w0.heap.size w0) 1
      replace K := hide ((unhide K).trans (hbD.mono (unhide K).size))
      replace X := hide ((unhide X).below hbD)
      replace C := hide ((unhide C).below hbD)
      replace O := hide ((unhide O).below hbD)
      replace R := hide ((unhide R).below hbD)
      have SC' := hide (fun (i : Nat) (v : Value) (h : w0.cell? ⟨b, i, none⟩ = some v) => (hbD.cell (p := ⟨b, i, none⟩) hbw).trans h)
      change Hid (Below w.heap.size w w0.drew) at K
      replace F0 := hide ((unhide F0).below hbD)
      change Hid (Fin w0.drew _ _) at F0
      replace F1 := hide ((unhide F1).below hbD)
      change Hid (Fin w0.drew _ _) at F1
      change Hid (Blk w0.drew _ _) at X
      change Hid (Blk w0.drew _ _) at C
      change Hid (Blk w0.drew _ _) at O
      change Hid (Blk w0.drew _ _) at R
      change Hid (∀ (i : Nat) (v : Value), w0.cell? ⟨b, i, none⟩ = some v → w0.drew.cell? ⟨b, i, none⟩ = some v) at SC'
      replace s1 := unhide SC' _ _ s1
      replace s2 := unhide SC' _ _ s2
      replace s3 := unhide SC' _ _ s3
      replace s4 := unhide SC' _ _ s4
      change b < w0.drew.heap.size at hbw
      clear hbD SC' hw0 x0 x1 x2 x3 x4 x5 y0 y1 y2 y3 y4
      generalize w0.drew = w1 at *
      have hw0 : w.heap.size + 1 + 1 + 1 < w1.heap.size := (unhide R).1
      have x0 := (unhide X).cell 0 rfl
      have x1 := (unhide X).cell 1 rfl
      have x2 := (unhide X).cell 2 rfl
      have x3 := (unhide X).cell 3 rfl
      have x4 := (unhide X).cell 4 rfl
      have x5 := (unhide X).cell 5 rfl
      have y0 := (unhide C).cell 0 rfl
      have y1 := (unhide C).cell 1 rfl
      have y2 := (unhide C).cell 2 rfl
      have y3 := (unhide C).cell 3 rfl
      have y4 := (unhide C).cell 4 rfl
      go_upto_region 7 with fail
      refine wp_region_noPanic ?_
      refine wp_region_held_drew (S := (fun wx => wx.cell? ⟨w.heap.size, 0, none⟩ = some (.slice la ls.length lc) ∧ wx.cell? ⟨w.heap.size, 1, none⟩ = some (.string (brOf o).key) ∧ wx.cell? ⟨w.heap.size, 2, none⟩ = some (.string (brOf o).val) ∧ wx.cell? ⟨w.heap.size, 3, none⟩ = some (.int .i64 (brOf o).at_) ∧ wx.cell? ⟨w.heap.size, 4, none⟩ = some (.slice ka kn kc) ∧ wx.cell? ⟨w.heap.size, 5, none⟩ = some (.slice (some ⟨b, off, none⟩) ss.length sc) ∧ wx.cell? ⟨b, off + q * 5 + 2, none⟩ = some (.int .i64 f2) ∧ wx.cell? ⟨b, off + q * 5 + 3, none⟩ = some (.int .i64 f3) ∧ wx.cell? ⟨b, off + q * 5 + 4, none⟩ = some (.string f4))) (by kernel_rfl) ?_ (fun hHeld => ?_)
      · exact ⟨x0, x1, x2, x3, x4, x5, s2, s3, s4⟩
      refine tkH 0 rfl ?_
      refine tkH 1 rfl ?_
      refine tkH 2 rfl ?_
      refine tkH 3 rfl ?_
      refine tkH 4 rfl ?_
      refine tkH 5 rfl ?_
      refine tkH 6 rfl ?_
      have O9_ := hide ((unhide O).drewN 1)
      have R9_ := hide ((unhide R).drewN 1)
      have K9_ := hide (below_drewN (unhide K) 1)
      change Hid (Blk w1.drew _ _) at O9_
      change Hid (Blk w1.drew _ _) at R9_
      change Hid (Below w.heap.size w w1.drew) at K9_
      have hdK := below_drewN (Below.refl w1.heap.size w1) 1
      change Below w1.heap.size w1 w1.drew at hdK
      have hX1 : w.heap.size < w1.heap.size := (unhide X).1
      have hd1 : w1.drew.heap.size = w1.heap.size := rfl
      have SXb := fun i (v : Value) (h : w1.cell? ⟨w.heap.size, i, none⟩ = some v) => (hdK.cell (p := ⟨w.heap.size, i, none⟩) hX1).trans h
      have SXs := fun i (v : Value) (h : w1.cell? ⟨b, i, none⟩ = some v) => (hdK.cell (p := ⟨b, i, none⟩) hbw).trans h
      replace x0 := SXb _ _ x0
      replace x1 := SXb _ _ x1
      replace x2 := SXb _ _ x2
      replace x3 := SXb _ _ x3
      replace x4 := SXb _ _ x4
      replace x5 := SXb _ _ x5
      replace s2 := SXs _ _ s2
      replace s3 := SXs _ _ s3
      replace s4 := SXs _ _ s4
      rw [← hd1] at hw0 hbw
      clear SXb SXs hX1 hdK s1 y0 y1 y2 y3 y4 K X C O R hd1
      generalize w1.drew = w9 at *
      have OX := unhide O9_
      have RX := unhide R9_
      have ox0 := OX.cell 0 rfl
      have of0 := OX.fro 0
      have ox1 := OX.cell 1 rfl
      have of1 := OX.fro 1
      have ox2 := OX.cell 2 rfl
      have of2 := OX.fro 2
      have ox3 := OX.cell 3 rfl
      have of3 := OX.fro 3
      have ox4 := OX.cell 4 rfl
      have of4 := OX.fro 4
      have ox5 := OX.cell 5 rfl
      have of5 := OX.fro 5
      have rx0 := RX.cell 0 rfl
      have rf0 := RX.fro 0
      have rx1 := RX.cell 1 rfl
      have rf1 := RX.fro 1
      have rx2 := RX.cell 2 rfl
      have rf2 := RX.fro 2
      have HO9 := hide (((((((((OX.set 0 (.slice la ls.length lc) (by simp)).set 1 (.string (brOf o).key) (by simp)).set 2 (.string (brOf o).val) (by simp)).set 3 (.int .i64 (brOf o).at_) (by simp)).set 4 (.slice ka kn kc) (by simp)).set 5 (.slice (some ⟨b, off, none⟩) ss.length sc) (by simp)).other (C := w.heap.size + 1 + 1 + 1) 0 (.int .i64 f2) (by omega)).other (C := w.heap.size + 1 + 1 + 1) 1 (.int .i64 f3) (by omega)).other (C := w.heap.size + 1 + 1 + 1) 2 (.string f4) (by omega))
      have HR9 := hide (((((((((RX.other (C := w.heap.size + 1 + 1) 0 (.slice la ls.length lc) (by omega)).other (C := w.heap.size + 1 + 1) 1 (.string (brOf o).key) (by omega)).other (C := w.heap.size + 1 + 1) 2 (.string (brOf o).val) (by omega)).other (C := w.heap.size + 1 + 1) 3 (.int .i64 (brOf o).at_) (by omega)).other (C := w.heap.size + 1 + 1) 4 (.slice ka kn kc) (by omega)).other (C := w.heap.size + 1 + 1) 5 (.slice (some ⟨b, off, none⟩) ss.length sc) (by omega)).set 0 (.int .i64 f2) (by simp)).set 1 (.int .i64 f3) (by simp)).set 2 (.string f4) (by simp))
      have HT9 := hide ((((((((((Touch.refl (fun k => k = w.heap.size + 1 + 1 ∨ k = w.heap.size + 1 + 1 + 1) w9).setCell ⟨w.heap.size + 1 + 1, 0, none⟩ (.slice la ls.length lc) (fun _ => .inl rfl)).setCell ⟨w.heap.size + 1 + 1, 1, none⟩ (.string (brOf o).key) (fun _ => .inl rfl)).setCell ⟨w.heap.size + 1 + 1, 2, none⟩ (.string (brOf o).val) (fun _ => .inl rfl)).setCell ⟨w.heap.size + 1 + 1, 3, none⟩ (.int .i64 (brOf o).at_) (fun _ => .inl rfl)).setCell ⟨w.heap.size + 1 + 1, 4, none⟩ (.slice ka kn kc) (fun _ => .inl rfl)).setCell ⟨w.heap.size + 1 + 1, 5, none⟩ (.slice (some ⟨b, off, none⟩) ss.length sc) (fun _ => .inl rfl)).setCell ⟨w.heap.size + 1 + 1 + 1, 0, none⟩ (.int .i64 f2) (fun _ => .inr rfl)).setCell ⟨w.heap.size + 1 + 1 + 1, 1, none⟩ (.int .i64 f3) (fun _ => .inr rfl)).setCell ⟨w.heap.size + 1 + 1 + 1, 2, none⟩ (.string f4) (fun _ => .inr rfl))
      clear OX RX
      have hTC := fun (bq i : Nat) (v : Value) (h1 : bq < w.heap.size + 1) (h : w9.cell? ⟨bq, i, none⟩ = some v) => True.intro
      refine wpAnyH_ready (rs := [7]) (by kernel_rfl) (by simp) ?_
      refine AllReadyH.cons (o := _) rfl (fun K hK => ?_) AllReadyH.nil
      go_simp
      refine hK.out _ _ ?_ (fun hHeld => ?_)
      · exact ⟨by go_simp, by go_simp, by go_simp, by go_simp, by go_simp, by go_simp, by go_simp, by go_simp, by go_simp⟩
      clear hK K
      (try simp only [Act.put, List.getElem_toArray, List.getElem_cons_succ, List.getElem_cons_zero, List.setIfInBounds_toArray, List.set_cons_zero, List.set_cons_succ])
      refine wpAnyH_ready (rs := [8]) (by kernel_rfl) (by simp) ?_
      refine AllReadyH.cons (o := _) rfl (fun K hK => ?_) AllReadyH.nil
      go_simp
      refine hK.out _ _ ?_ (fun hHeld => ?_)
      · exact ⟨by go_simp, by go_simp, by go_simp, by go_simp, by go_simp, by go_simp, by go_simp, by go_simp, by go_simp⟩
      clear hK K
      (try simp only [Act.put, List.getElem_toArray, List.getElem_cons_succ, List.getElem_cons_zero, List.setIfInBounds_toArray, List.set_cons_zero, List.set_cons_succ])
      refine wpAnyH_done (by kernel_rfl) (NoPanic.normal ?_) _
      clear hHeld hTC
      go_wp2_with fail
      have O9 := unhide HO9
      have R9 := unhide HR9
      have z0 := O9.cell 0 rfl
      have z1 := O9.cell 1 rfl
      have z2 := O9.cell 2 rfl
      have z3 := O9.cell 3 rfl
      have z4 := O9.cell 4 rfl
      have z5 := O9.cell 5 rfl
      have y0 := R9.cell 0 rfl
      have y1 := R9.cell 1 rfl
      have y2 := R9.cell 2 rfl
      refine bodyPost_ret (v := .tuple #[.agg #[.slice la ls.length lc, .string (brOf o).key, .string (brOf o).val, .int .i64 (brOf o).at_, .slice ka kn kc, .slice (some ⟨b, off, none⟩) ss.length sc], .agg #[.int .i64 f2, .int .i64 f3, .string f4]]) (by simp [results, Tryz.results32, go_sem, z0, z1, z2, z3, z4, z5, y0, y1, y2]) rfl ?_
      have K9 := (unhide K9_).trans ((unhide HT9).below (unhide K9_).size (fun k9 hk9 e => by rcases e with e | e <;> omega))
      refine an_tell (by rw [unhide HU, if_pos ⟨unhide HEQ, unhide HKD⟩]) ⟨_, _, _, rfl, (unhide HST).below K9, (unhide HBR).blw K9, (unhide HSS).below K9, K9, .inl rfl, .inl rfl⟩
  · have b1 : (c.sq == f1) = false := by rw [beq_eq_false_iff_ne]; exact heq
    have HEQ := hide heq
    by_cases h9 : c.sq ≤ f1
    · have b3 : decide (c.sq ≤ f1) = true := by rw [decide_eq_true_eq]; omega
      have H9 := hide h9
      clear heq h9
      go_upto_region 6 with fail
      refine wp_region_noPanic ?_
      refine wp_region_held_drew (S := (fun wx => wx.cell? ⟨w.heap.size, 5, none⟩ = some (.slice (some ⟨b, off, none⟩) ss.length sc) ∧ wx.cell? ⟨w.heap.size + 1, 2, none⟩ = some (.int .i64 c.sq) ∧ wx.cell? ⟨b, off + q * 5 + 1, none⟩ = some (.int .i64 f1) ∧ wx.cell? ⟨b, off + q * 5 + 2, none⟩ = some (.int .i64 f2))) (by kernel_rfl) ?_ (fun hHeld => ?_)
      · exact ⟨x5, y2, s1, s2⟩
      refine tkH 0 rfl ?_
      refine tkH 1 rfl ?_
      refine tkH 2 rfl ?_
      refine tkH 3 rfl ?_
      refine tkH 4 rfl ?_
      refine tkH 5 rfl ?_
      refine tkH 6 rfl ?_
      refine tkH 7 rfl ?_
      refine tkH 8 rfl ?_
      refine tkH 9 rfl ?_
      refine wpAnyH_take (i := 10) (oi := _) (v := undef) rfl (by kernel_rfl) (by kernel_rfl) (by kernel_rfl) (fun _ _ _ h => h) (Or.inr ⟨by rfl, rfl⟩) (by assumption) ?_
      (try simp only [Act.put, List.getElem_toArray, List.getElem_cons_succ, List.getElem_cons_zero, List.setIfInBounds_toArray, List.set_cons_zero, List.set_cons_succ])
      refine wpAnyH_take (i := 11) (oi := _) (v := undef) rfl (by kernel_rfl) (by kernel_rfl) (by kernel_rfl) (fun _ _ _ h => h) (Or.inr ⟨by rfl, rfl⟩) (by assumption) ?_
      (try simp only [Act.put, List.getElem_toArray, List.getElem_cons_succ, List.getElem_cons_zero, List.setIfInBounds_toArray, List.set_cons_zero, List.set_cons_succ])
      refine wpAnyH_take (i := 12) (oi := _) (v := undef) rfl (by kernel_rfl) (by kernel_rfl) (by kernel_rfl) (fun _ _ _ h => h) (Or.inr ⟨by rfl, rfl⟩) (by assumption) ?_
      (try simp only [Act.put, List.getElem_toArray, List.getElem_cons_succ, List.getElem_cons_zero, List.setIfInBounds_toArray, List.set_cons_zero, List.set_cons_succ])
      refine wpAnyH_take (i := 13) (oi := _) (v := undef) rfl (by kernel_rfl) (by kernel_rfl) (by kernel_rfl) (fun _ _ _ h => h) (Or.inr ⟨by rfl, rfl⟩) (by assumption) ?_
      (try simp only [Act.put, List.getElem_toArray, List.getElem_cons_succ, List.getElem_cons_zero, List.setIfInBounds_toArray, List.set_cons_zero, List.set_cons_succ])
      refine wpAnyH_take (i := 14) (oi := _) (v := undef) rfl (by kernel_rfl) (by kernel_rfl) (by kernel_rfl) (fun _ _ _ h => h) (Or.inr ⟨by rfl, rfl⟩) (by assumption) ?_
      (try simp only [Act.put, List.getElem_toArray, List.getElem_cons_succ, List.getElem_cons_zero, List.setIfInBounds_toArray, List.set_cons_zero, List.set_cons_succ])
      refine wpAnyH_take (i := 15) (oi := _) (v := undef) rfl (by kernel_rfl) (by kernel_rfl) (by kernel_rfl) (fun _ _ _ h => h) (Or.inr ⟨by rfl, rfl⟩) (by assumption) ?_
      (try simp only [Act.put, List.getElem_toArray, List.getElem_cons_succ, List.getElem_cons_zero, List.setIfInBounds_toArray, List.set_cons_zero, List.set_cons_succ])
      refine wpAnyH_take (i := 16) (oi := _) (v := undef) rfl (by kernel_rfl) (by kernel_rfl) (by kernel_rfl) (fun _ _ _ h => h) (Or.inr ⟨by rfl, rfl⟩) (by assumption) ?_
      (try simp only [Act.put, List.getElem_toArray, List.getElem_cons_succ, List.getElem_cons_zero, List.setIfInBounds_toArray, List.set_cons_zero, List.set_cons_succ])
      refine wpAnyH_take (i := 17) (oi := _) (v := undef) rfl (by kernel_rfl) (by kernel_rfl) (by kernel_rfl) (fun _ _ _ h => h) (Or.inr ⟨by rfl, rfl⟩) (by assumption) ?_
      (try simp only [Act.put, List.getElem_toArray, List.getElem_cons_succ, List.getElem_cons_zero, List.setIfInBounds_toArray, List.set_cons_zero, List.set_cons_succ])
      refine tkH 18 rfl ?_
      refine tkH 19 rfl ?_
      refine wpAnyH_done (by kernel_rfl) (NoPanic.normal ?_) _
      clear hHeld
      have hbD := below_drewN (Below.refl w0.heap.size w0) 1
      replace K := hide ((unhide K).trans (hbD.mono (unhide K).size))
      replace X := hide ((unhide X).below hbD)
      replace C := hide ((unhide C).below hbD)
      replace O := hide ((unhide O).below hbD)
      replace R := hide ((unhide R).below hbD)
      have SC' := hide (fun (i : Nat) (v : Value) (h : w0.cell? ⟨b, i, none⟩ = some v) => (hbD.cell (p := ⟨b, i, none⟩) hbw).trans h)
      change Hid (Below w.heap.size w w0.drew) at K
      replace F0 := hide ((unhide F0).below hbD)
      change Hid (Fin w0.drew _ _) at F0
      replace F1 := hide ((unhide F1).below hbD)
      change Hid (Fin w0.drew _ _) at F1
      change Hid (Blk w0.drew _ _) at X
      change Hid (Blk w0.drew _ _) at C
      change Hid (Blk w0.drew _ _) at O
      change Hid (Blk w0.drew _ _) at R
      change Hid (∀ (i : Nat) (v : Value), w0.cell? ⟨b, i, none⟩ = some v → w0.drew.cell? ⟨b, i, none⟩ = some v) at SC'
      replace s1 := unhide SC' _ _ s1
      replace s2 := unhide SC' _ _ s2
      replace s3 := unhide SC' _ _ s3
      replace s4 := unhide SC' _ _ s4
      change b < w0.drew.heap.size at hbw
      clear hbD SC' hw0 x0 x1 x2 x3 x4 x5 y0 y1 y2 y3 y4
      generalize w0.drew = w1 at *
      have hw0 : w.heap.size + 1 + 1 + 1 < w1.heap.size := (unhide R).1
      have x0 := (unhide X).cell 0 rfl
      have x1 := (unhide X).cell 1 rfl
      have x2 := (unhide X).cell 2 rfl
      have x3 := (unhide X).cell 3 rfl
      have x4 := (unhide X).cell 4 rfl
      have x5 := (unhide X).cell 5 rfl
      have y0 := (unhide C).cell 0 rfl
      have y1 := (unhide C).cell 1 rfl
      have y2 := (unhide C).cell 2 rfl
      have y3 := (unhide C).cell 3 rfl
      have y4 := (unhide C).cell 4 rfl
      go_upto_region 8 with fail
      refine wp_region_noPanic ?_
      refine wp_region_held_drew (S := (fun wx => wx.cell? ⟨w.heap.size, 5, none⟩ = some (.slice (some ⟨b, off, none⟩) ss.length sc) ∧ wx.cell? ⟨w.heap.size + 1, 2, none⟩ = some (.int .i64 c.sq) ∧ wx.cell? ⟨b, off + q * 5 + 1, none⟩ = some (.int .i64 f1) ∧ wx.cell? ⟨b, off + q * 5 + 2, none⟩ = some (.int .i64 f2))) (by kernel_rfl) ?_ (fun hHeld => ?_)
      · exact ⟨x5, y2, s1, s2⟩
      refine tkH 0 rfl ?_
      refine tkH 1 rfl ?_
      refine tkH 2 rfl ?_
      refine tkH 3 rfl ?_
      refine tkH 4 rfl ?_
      refine tkH 5 rfl ?_
      refine tkH 6 rfl ?_
      refine tkH 7 rfl ?_
      refine tkH 8 rfl ?_
      refine tkH 9 rfl ?_
      refine wpAnyH_done (by kernel_rfl) (NoPanic.normal ?_) _
      clear hHeld
      have hbD := below_drewN (Below.refl w1.heap.size w1) 1
      replace K := hide ((unhide K).trans (hbD.mono (unhide K).size))
      replace X := hide ((unhide X).below hbD)
      replace C := hide ((unhide C).below hbD)
      replace O := hide ((unhide O).below hbD)
      replace R := hide ((unhide R).below hbD)
      have SC' := hide (fun (i : Nat) (v : Value) (h : w1.cell? ⟨b, i, none⟩ = some v) => (hbD.cell (p := ⟨b, i, none⟩) hbw).trans h)
      change Hid (Below w.heap.size w w1.drew) at K
      replace F0 := hide ((unhide F0).below hbD)
      change Hid (Fin w1.drew _ _) at F0
      replace F1 := hide ((unhide F1).below hbD)
      change Hid (Fin w1.drew _ _) at F1
      change Hid (Blk w1.drew _ _) at X
      change Hid (Blk w1.drew _ _) at C
      change Hid (Blk w1.drew _ _) at O
      change Hid (Blk w1.drew _ _) at R
      change Hid (∀ (i : Nat) (v : Value), w1.cell? ⟨b, i, none⟩ = some v → w1.drew.cell? ⟨b, i, none⟩ = some v) at SC'
      replace s1 := unhide SC' _ _ s1
      replace s2 := unhide SC' _ _ s2
      replace s3 := unhide SC' _ _ s3
      replace s4 := unhide SC' _ _ s4
      change b < w1.drew.heap.size at hbw
      clear hbD SC' hw0 x0 x1 x2 x3 x4 x5 y0 y1 y2 y3 y4
      generalize w1.drew = w2 at *
      have hw0 : w.heap.size + 1 + 1 + 1 < w2.heap.size := (unhide R).1
      have x0 := (unhide X).cell 0 rfl
      have x1 := (unhide X).cell 1 rfl
      have x2 := (unhide X).cell 2 rfl
      have x3 := (unhide X).cell 3 rfl
      have x4 := (unhide X).cell 4 rfl
      have x5 := (unhide X).cell 5 rfl
      have y0 := (unhide C).cell 0 rfl
      have y1 := (unhide C).cell 1 rfl
      have y2 := (unhide C).cell 2 rfl
      have y3 := (unhide C).cell 3 rfl
      have y4 := (unhide C).cell 4 rfl
      have OX := unhide O
      have RX := unhide R
      have ox0 := OX.cell 0 rfl
      have of0 := OX.fro 0
      have ox1 := OX.cell 1 rfl
      have of1 := OX.fro 1
      have ox2 := OX.cell 2 rfl
      have of2 := OX.fro 2
      have ox3 := OX.cell 3 rfl
      have of3 := OX.fro 3
      have ox4 := OX.cell 4 rfl
      have of4 := OX.fro 4
      have ox5 := OX.cell 5 rfl
      have of5 := OX.fro 5
      have rx0 := RX.cell 0 rfl
      have rf0 := RX.fro 0
      have rx1 := RX.cell 1 rfl
      have rf1 := RX.fro 1
      have rx2 := RX.cell 2 rfl
      have rf2 := RX.fro 2
      have HO9 := hide (((((((((OX.set 0 (.slice la ls.length lc) (by simp)).set 1 (.string (brOf o).key) (by simp)).set 2 (.string (brOf o).val) (by simp)).set 3 (.int .i64 (brOf o).at_) (by simp)).set 4 (.slice ka kn kc) (by simp)).set 5 (.slice (some ⟨b, off, none⟩) ss.length sc) (by simp)).other (C := w.heap.size + 1 + 1 + 1) 0 (.int .i64 3) (by omega)).other (C := w.heap.size + 1 + 1 + 1) 1 (.int .i64 0) (by omega)).other (C := w.heap.size + 1 + 1 + 1) 2 (.string ⟨#[]⟩) (by omega))
      have HR9 := hide (((((((((RX.other (C := w.heap.size + 1 + 1) 0 (.slice la ls.length lc) (by omega)).other (C := w.heap.size + 1 + 1) 1 (.string (brOf o).key) (by omega)).other (C := w.heap.size + 1 + 1) 2 (.string (brOf o).val) (by omega)).other (C := w.heap.size + 1 + 1) 3 (.int .i64 (brOf o).at_) (by omega)).other (C := w.heap.size + 1 + 1) 4 (.slice ka kn kc) (by omega)).other (C := w.heap.size + 1 + 1) 5 (.slice (some ⟨b, off, none⟩) ss.length sc) (by omega)).set 0 (.int .i64 3) (by simp)).set 1 (.int .i64 0) (by simp)).set 2 (.string ⟨#[]⟩) (by simp))
      have HT9 := hide ((((((((((Touch.refl (fun k => k = w.heap.size + 1 + 1 ∨ k = w.heap.size + 1 + 1 + 1) w2).setCell ⟨w.heap.size + 1 + 1, 0, none⟩ (.slice la ls.length lc) (fun _ => .inl rfl)).setCell ⟨w.heap.size + 1 + 1, 1, none⟩ (.string (brOf o).key) (fun _ => .inl rfl)).setCell ⟨w.heap.size + 1 + 1, 2, none⟩ (.string (brOf o).val) (fun _ => .inl rfl)).setCell ⟨w.heap.size + 1 + 1, 3, none⟩ (.int .i64 (brOf o).at_) (fun _ => .inl rfl)).setCell ⟨w.heap.size + 1 + 1, 4, none⟩ (.slice ka kn kc) (fun _ => .inl rfl)).setCell ⟨w.heap.size + 1 + 1, 5, none⟩ (.slice (some ⟨b, off, none⟩) ss.length sc) (fun _ => .inl rfl)).setCell ⟨w.heap.size + 1 + 1 + 1, 0, none⟩ (.int .i64 3) (fun _ => .inr rfl)).setCell ⟨w.heap.size + 1 + 1 + 1, 1, none⟩ (.int .i64 0) (fun _ => .inr rfl)).setCell ⟨w.heap.size + 1 + 1 + 1, 2, none⟩ (.string ⟨#[]⟩) (fun _ => .inr rfl))
      clear OX RX
      go_wp2_with fail
      have O9 := unhide HO9
      have R9 := unhide HR9
      have z0 := O9.cell 0 rfl
      have z1 := O9.cell 1 rfl
      have z2 := O9.cell 2 rfl
      have z3 := O9.cell 3 rfl
      have z4 := O9.cell 4 rfl
      have z5 := O9.cell 5 rfl
      have y0 := R9.cell 0 rfl
      have y1 := R9.cell 1 rfl
      have y2 := R9.cell 2 rfl
      refine bodyPost_ret (v := .tuple #[.agg #[.slice la ls.length lc, .string (brOf o).key, .string (brOf o).val, .int .i64 (brOf o).at_, .slice ka kn kc, .slice (some ⟨b, off, none⟩) ss.length sc], .agg #[.int .i64 3, .int .i64 0, .string ⟨#[]⟩]]) (by simp [results, Tryz.results32, go_sem, z0, z1, z2, z3, z4, z5, y0, y1, y2]) rfl ?_
      have K9 := (unhide K).trans ((unhide HT9).below (unhide K).size (fun k9 hk9 e => by rcases e with e | e <;> omega))
      refine an_tell (by rw [unhide HU, if_neg (fun h => (unhide HEQ) h.1), if_pos (unhide H9)]) ⟨_, _, _, rfl, (unhide HST).below K9, (unhide HBR).blw K9, (unhide HSS).below K9, K9, .inl rfl, .inl rfl⟩
    have b3 : decide (c.sq ≤ f1) = false := by rw [decide_eq_false_iff_not]; exact h9
    replace HU := hide ((unhide HU).trans ((if_neg (fun h => heq h.1)).trans (if_neg h9)))
    clear heq h9
    go_upto_region 6 with fail
    refine wp_region_noPanic ?_
    refine wp_region_held_drew (S := (fun wx => wx.cell? ⟨w.heap.size, 5, none⟩ = some (.slice (some ⟨b, off, none⟩) ss.length sc) ∧ wx.cell? ⟨w.heap.size + 1, 2, none⟩ = some (.int .i64 c.sq) ∧ wx.cell? ⟨b, off + q * 5 + 1, none⟩ = some (.int .i64 f1) ∧ wx.cell? ⟨b, off + q * 5 + 2, none⟩ = some (.int .i64 f2))) (by kernel_rfl) ?_ (fun hHeld => ?_)
    · exact ⟨x5, y2, s1, s2⟩
    refine tkH 0 rfl ?_
    refine tkH 1 rfl ?_
    refine tkH 2 rfl ?_
    refine tkH 3 rfl ?_
    refine tkH 4 rfl ?_
    refine tkH 5 rfl ?_
    refine tkH 6 rfl ?_
    refine tkH 7 rfl ?_
    refine tkH 8 rfl ?_
    refine tkH 9 rfl ?_
    refine wpAnyH_take (i := 10) (oi := _) (v := undef) rfl (by kernel_rfl) (by kernel_rfl) (by kernel_rfl) (fun _ _ _ h => h) (Or.inr ⟨by rfl, rfl⟩) (by assumption) ?_
    (try simp only [Act.put, List.getElem_toArray, List.getElem_cons_succ, List.getElem_cons_zero, List.setIfInBounds_toArray, List.set_cons_zero, List.set_cons_succ])
    refine wpAnyH_take (i := 11) (oi := _) (v := undef) rfl (by kernel_rfl) (by kernel_rfl) (by kernel_rfl) (fun _ _ _ h => h) (Or.inr ⟨by rfl, rfl⟩) (by assumption) ?_
    (try simp only [Act.put, List.getElem_toArray, List.getElem_cons_succ, List.getElem_cons_zero, List.setIfInBounds_toArray, List.set_cons_zero, List.set_cons_succ])
    refine wpAnyH_take (i := 12) (oi := _) (v := undef) rfl (by kernel_rfl) (by kernel_rfl) (by kernel_rfl) (fun _ _ _ h => h) (Or.inr ⟨by rfl, rfl⟩) (by assumption) ?_
    (try simp only [Act.put, List.getElem_toArray, List.getElem_cons_succ, List.getElem_cons_zero, List.setIfInBounds_toArray, List.set_cons_zero, List.set_cons_succ])
    refine wpAnyH_take (i := 13) (oi := _) (v := undef) rfl (by kernel_rfl) (by kernel_rfl) (by kernel_rfl) (fun _ _ _ h => h) (Or.inr ⟨by rfl, rfl⟩) (by assumption) ?_
    (try simp only [Act.put, List.getElem_toArray, List.getElem_cons_succ, List.getElem_cons_zero, List.setIfInBounds_toArray, List.set_cons_zero, List.set_cons_succ])
    refine wpAnyH_take (i := 14) (oi := _) (v := undef) rfl (by kernel_rfl) (by kernel_rfl) (by kernel_rfl) (fun _ _ _ h => h) (Or.inr ⟨by rfl, rfl⟩) (by assumption) ?_
    (try simp only [Act.put, List.getElem_toArray, List.getElem_cons_succ, List.getElem_cons_zero, List.setIfInBounds_toArray, List.set_cons_zero, List.set_cons_succ])
    refine wpAnyH_take (i := 15) (oi := _) (v := undef) rfl (by kernel_rfl) (by kernel_rfl) (by kernel_rfl) (fun _ _ _ h => h) (Or.inr ⟨by rfl, rfl⟩) (by assumption) ?_
    (try simp only [Act.put, List.getElem_toArray, List.getElem_cons_succ, List.getElem_cons_zero, List.setIfInBounds_toArray, List.set_cons_zero, List.set_cons_succ])
    refine wpAnyH_take (i := 16) (oi := _) (v := undef) rfl (by kernel_rfl) (by kernel_rfl) (by kernel_rfl) (fun _ _ _ h => h) (Or.inr ⟨by rfl, rfl⟩) (by assumption) ?_
    (try simp only [Act.put, List.getElem_toArray, List.getElem_cons_succ, List.getElem_cons_zero, List.setIfInBounds_toArray, List.set_cons_zero, List.set_cons_succ])
    refine wpAnyH_take (i := 17) (oi := _) (v := undef) rfl (by kernel_rfl) (by kernel_rfl) (by kernel_rfl) (fun _ _ _ h => h) (Or.inr ⟨by rfl, rfl⟩) (by assumption) ?_
    (try simp only [Act.put, List.getElem_toArray, List.getElem_cons_succ, List.getElem_cons_zero, List.setIfInBounds_toArray, List.set_cons_zero, List.set_cons_succ])
    refine tkH 18 rfl ?_
    refine tkH 19 rfl ?_
    refine wpAnyH_done (by kernel_rfl) (NoPanic.normal ?_) _
    clear hHeld
    have hbD := below_drewN (Below.refl w0.heap.size w0) 1
    replace K := hide ((unhide K).trans (hbD.mono (unhide K).size))
    replace X := hide ((unhide X).below hbD)
    replace C := hide ((unhide C).below hbD)
    replace O := hide ((unhide O).below hbD)
    replace R := hide ((unhide R).below hbD)
    have SC' := hide (fun (i : Nat) (v : Value) (h : w0.cell? ⟨b, i, none⟩ = some v) => (hbD.cell (p := ⟨b, i, none⟩) hbw).trans h)
    change Hid (Below w.heap.size w w0.drew) at K
    replace F0 := hide ((unhide F0).below hbD)
    change Hid (Fin w0.drew _ _) at F0
    replace F1 := hide ((unhide F1).below hbD)
    change Hid (Fin w0.drew _ _) at F1
    change Hid (Blk w0.drew _ _) at X
    change Hid (Blk w0.drew _ _) at C
    change Hid (Blk w0.drew _ _) at O
    change Hid (Blk w0.drew _ _) at R
    change Hid (∀ (i : Nat) (v : Value), w0.cell? ⟨b, i, none⟩ = some v → w0.drew.cell? ⟨b, i, none⟩ = some v) at SC'
    replace s1 := unhide SC' _ _ s1
    replace s2 := unhide SC' _ _ s2
    replace s3 := unhide SC' _ _ s3
    replace s4 := unhide SC' _ _ s4
    change b < w0.drew.heap.size at hbw
    clear hbD SC' hw0 x0 x1 x2 x3 x4 x5 y0 y1 y2 y3 y4
    generalize w0.drew = w1 at *
    have hw0 : w.heap.size + 1 + 1 + 1 < w1.heap.size := (unhide R).1
    have x0 := (unhide X).cell 0 rfl
    have x1 := (unhide X).cell 1 rfl
    have x2 := (unhide X).cell 2 rfl
    have x3 := (unhide X).cell 3 rfl
    have x4 := (unhide X).cell 4 rfl
    have x5 := (unhide X).cell 5 rfl
    have y0 := (unhide C).cell 0 rfl
    have y1 := (unhide C).cell 1 rfl
    have y2 := (unhide C).cell 2 rfl
    have y3 := (unhide C).cell 3 rfl
    have y4 := (unhide C).cell 4 rfl
    go_upto_region 8 with fail
    refine wp_region_noPanic ?_
    refine wp_region_held_drew (S := (fun wx => wx.cell? ⟨w.heap.size, 5, none⟩ = some (.slice (some ⟨b, off, none⟩) ss.length sc) ∧ wx.cell? ⟨w.heap.size + 1, 2, none⟩ = some (.int .i64 c.sq) ∧ wx.cell? ⟨b, off + q * 5 + 1, none⟩ = some (.int .i64 f1) ∧ wx.cell? ⟨b, off + q * 5 + 2, none⟩ = some (.int .i64 f2))) (by kernel_rfl) ?_ (fun hHeld => ?_)
    · exact ⟨x5, y2, s1, s2⟩
    refine tkH 0 rfl ?_
    refine tkH 1 rfl ?_
    refine tkH 2 rfl ?_
    refine tkH 3 rfl ?_
    refine tkH 4 rfl ?_
    refine tkH 5 rfl ?_
    refine tkH 6 rfl ?_
    refine tkH 7 rfl ?_
    refine tkH 8 rfl ?_
    refine tkH 9 rfl ?_
    refine wpAnyH_done (by kernel_rfl) (NoPanic.normal ?_) _
    clear hHeld
    have hbD := below_drewN (Below.refl w1.heap.size w1) 1
    replace K := hide ((unhide K).trans (hbD.mono (unhide K).size))
    replace X := hide ((unhide X).below hbD)
    replace C := hide ((unhide C).below hbD)
    replace O := hide ((unhide O).below hbD)
    replace R := hide ((unhide R).below hbD)
    have SC' := hide (fun (i : Nat) (v : Value) (h : w1.cell? ⟨b, i, none⟩ = some v) => (hbD.cell (p := ⟨b, i, none⟩) hbw).trans h)
    change Hid (Below w.heap.size w w1.drew) at K
    replace F0 := hide ((unhide F0).below hbD)
    change Hid (Fin w1.drew _ _) at F0
    replace F1 := hide ((unhide F1).below hbD)
    change Hid (Fin w1.drew _ _) at F1
    change Hid (Blk w1.drew _ _) at X
    change Hid (Blk w1.drew _ _) at C
    change Hid (Blk w1.drew _ _) at O
    change Hid (Blk w1.drew _ _) at R
    change Hid (∀ (i : Nat) (v : Value), w1.cell? ⟨b, i, none⟩ = some v → w1.drew.cell? ⟨b, i, none⟩ = some v) at SC'
    replace s1 := unhide SC' _ _ s1
    replace s2 := unhide SC' _ _ s2
    replace s3 := unhide SC' _ _ s3
    replace s4 := unhide SC' _ _ s4
    change b < w1.drew.heap.size at hbw
    clear hbD SC' hw0 x0 x1 x2 x3 x4 x5 y0 y1 y2 y3 y4
    generalize w1.drew = w2 at *
    have hw0 : w.heap.size + 1 + 1 + 1 < w2.heap.size := (unhide R).1
    have x0 := (unhide X).cell 0 rfl
    have x1 := (unhide X).cell 1 rfl
    have x2 := (unhide X).cell 2 rfl
    have x3 := (unhide X).cell 3 rfl
    have x4 := (unhide X).cell 4 rfl
    have x5 := (unhide X).cell 5 rfl
    have y0 := (unhide C).cell 0 rfl
    have y1 := (unhide C).cell 1 rfl
    have y2 := (unhide C).cell 2 rfl
    have y3 := (unhide C).cell 3 rfl
    have y4 := (unhide C).cell 4 rfl
    have HC1 := hide (unhide HCH w2 (unhide K))
    clear HCH
    go_wp2_with fail
    refine (unhide HC1).mono ?_
    rintro e w3 ⟨lv3, kv3, rfl, hls3, hbr3, hb3, hf3⟩
    obtain ⟨la2, lc2, rfl, _⟩ := id hls3
    obtain ⟨ka2, kc2, rfl, _⟩ := hbr3.shape
    generalize (brOf oN).kids.length = kn2 at hbr3 ⊢
    have HLS := hide hls3
    have HB3 := hide hbr3
    have HF3 := hide hf3
    have hw23 := hb3.size
    replace K := hide ((unhide K).trans (hb3.mono (unhide K).size))
    replace X := hide ((unhide X).below hb3)
    replace C := hide ((unhide C).below hb3)
    replace O := hide ((unhide O).below hb3)
    replace R := hide ((unhide R).below hb3)
    replace F0 := hide ((unhide F0).below hb3)
    replace F1 := hide ((unhide F1).below hb3)
    clear hls3 hbr3 hf3 HC1 x0 x1 x2 x3 x4 x5 y0 y1 y2 y3 y4 s1 s2 s3 s4
    have NZ := (Blk.new w3 #[.slice none 0 0, .string ⟨#[]⟩, .string ⟨#[]⟩, .int .i64 0, .slice none 0 0, .slice none 0 0] 38 w3.heap.size rfl).alloc (.cells #[.int .i64 0, .int .i64 0, .string ⟨#[]⟩] 40)
    have NR := Blk.new (w3.alloc (.cells #[.slice none 0 0, .string ⟨#[]⟩, .string ⟨#[]⟩, .int .i64 0, .slice none 0 0, .slice none 0 0] 38)) #[.int .i64 0, .int .i64 0, .string ⟨#[]⟩] 40 (w3.heap.size + 1) (by simp)
    have zc0 := NZ.cell 0 rfl
    have zf0 := NZ.fro 0
    have zc1 := NZ.cell 1 rfl
    have zf1 := NZ.fro 1
    have zc2 := NZ.cell 2 rfl
    have zf2 := NZ.fro 2
    have zc3 := NZ.cell 3 rfl
    have zf3 := NZ.fro 3
    have zc4 := NZ.cell 4 rfl
    have zf4 := NZ.fro 4
    have zc5 := NZ.cell 5 rfl
    have zf5 := NZ.fro 5
    have rc0 := NR.cell 0 rfl
    have rf0 := NR.fro 0
    have rc1 := NR.cell 1 rfl
    have rf1 := NR.fro 1
    have rc2 := NR.cell 2 rfl
    have rf2 := NR.fro 2
    clear NZ NR hb3
    go_upto_region 11 with fail
    clear zc0 zf0 zc1 zf1 zc2 zf2 zc3 zf3 zc4 zf4 zc5 zf5 rc0 rf0 rc1 rf1 rc2 rf2
    have hO3 : w.heap.size + 1 + 1 + 1 < w3.heap.size := (unhide R).1
    have HPL : Hid (0 < lsN.length → ∀ k, (Value.slice la2 lsN.length lc2).ownBlock = some k → k < w3.heap.size ∧ k ≠ w.heap.size + 1 + 1 ∧ k ≠ w.heap.size + 1 + 1 + 1) := hide (fun hp k hk => by
      have h1 := (unhide HLS).lowB hp k hk
      refine ⟨h1, ?_⟩
      rcases unhide HF3 with e | hf
      · have h2 := (unhide HST).lowB (by rw [← e] at HST; rw [(unhide HST).lenE (unhide HLS)]; exact hp) k (by rw [← e]; exact hk)
        omega
      · have := hf k hk; omega)
    have HFD := hide ((unhide HF3).down (H' := w.heap.size) (by omega))
    have bA := ((Below.refl w3.heap.size w3).alloc (Nat.le_refl _) (.cells #[.slice la2 lsN.length lc2, .string (brOf oN).key, .string (brOf oN).val, .int .i64 (brOf oN).at_, .slice ka2 kn2 kc2, .slice (some ⟨b, off, none⟩) ss.length sc] 38)).alloc (by simp) (.cells #[.int .i64 rN.kd, .int .i64 rN.pl, .string rN.vl] 40)
    have HL4 := hide ((unhide HLS).below bA)
    have HB4 := hide ((unhide HB3).bound.blw bA)
    replace K := hide ((unhide K).trans (bA.mono (unhide K).size))
    replace C := hide ((unhide C).below bA)
    replace O := hide ((unhide O).below bA)
    replace R := hide ((unhide R).below bA)
    replace F0 := hide ((unhide F0).below bA)
    replace F1 := hide ((unhide F1).below bA)
    replace X := hide ((unhide X).below bA)
    have N4 := hide ((Blk.new w3 #[.slice la2 lsN.length lc2, .string (brOf oN).key, .string (brOf oN).val, .int .i64 (brOf oN).at_, .slice ka2 kn2 kc2, .slice (some ⟨b, off, none⟩) ss.length sc] 38 w3.heap.size rfl).alloc (.cells #[.int .i64 rN.kd, .int .i64 rN.pl, .string rN.vl] 40))
    have V4 := hide (Blk.new (w3.alloc (.cells #[.slice la2 lsN.length lc2, .string (brOf oN).key, .string (brOf oN).val, .int .i64 (brOf oN).at_, .slice ka2 kn2 kc2, .slice (some ⟨b, off, none⟩) ss.length sc] 38)) #[.int .i64 rN.kd, .int .i64 rN.pl, .string rN.vl] 40 (w3.heap.size + 1) (by simp))
    clear bA HLS HB3 HF3
    generalize (w3.alloc (.cells #[.slice la2 lsN.length lc2, .string (brOf oN).key, .string (brOf oN).val, .int .i64 (brOf oN).at_, .slice ka2 kn2 kc2, .slice (some ⟨b, off, none⟩) ss.length sc] 38)).alloc (.cells #[.int .i64 rN.kd, .int .i64 rN.pl, .string rN.vl] 40) = w4 at *
    generalize w3.heap.size = nb at *
    have hn4 : nb + 1 < w4.heap.size := (unhide V4).1
    have HB5 := hide (Brs.smallO (T := fun k => k = w.heap.size + 1 + 1 ∨ k = w.heap.size + 1 + 1 + 1) (fun k hk => by rcases hk with rfl | rfl; exact unhide F0; exact unhide F1) oN _ (unhide HB4))
    clear HB4 F0 F1
    have x5 := ((unhide X).alloc (.cells #[] 106)).cell 5 rfl
    have y2 := (unhide C).cell 2 rfl
    have hX4 : w.heap.size < w4.heap.size := (unhide X).1
    obtain ⟨i0, hi, hz0, hz1, hz2⟩ := info_parts infoSe
    have B5 := hide ((Below.refl w4.heap.size w4).alloc (Nat.le_refl _) (.cells #[] 106))
    have O5 := hide (show (w4.alloc (.cells #[] 106)).ownsRow w4.heap.size 106 5 (.slice (some ⟨w4.heap.size, 0, none⟩) 0 0) 0 [] from World.ownsRow_made w4 #[] 0 (Nat.le_refl _) (by unfold maxLen; omega) rfl)
    have HRW := hide ((unhide HSS).below ((unhide K).trans ((unhide B5).mono (unhide K).size))).rw
    go_upto_region 12 with (at_builtin; refine wpList_append_row _ rfl _ _ _ rfl w4.heap.size 106 i0 _ 5 48 Tryz.underlying36 hi hz0 hz1 hz2 rfl (by omega) _ 0 [] rfl (unhide O5) _ ss.length (sesC ss) rfl (unhide HRW) (sesC_len ss) (sesC_one ss) (by unfold maxLen; omega) (by omega) (by simp) ?_; intro a6 c6 w6 hown6 hgrow6 hat6; have B6 := hide ((unhide B5).grown hgrow6 (by simp) (fun r hr => ((unhide O5).lt r hr).1)); have O6 := hide hown6; clear hown6 hgrow6 hat6; have N6 := hide ((unhide N4).below (unhide B6)); have nc5 := (unhide N6).cell 5 rfl; have nf5 := (unhide N6).fro 5)
    have hown6 := unhide O6
    rw [Nat.zero_add, List.nil_append] at hown6
    obtain ⟨g6, c6', he6, hg6, hg6'⟩ := World.ownsRow.form hown6 (by omega)
    cases he6
    have TS := (Touch.refl (fun k => k = nb) w6).setCell ⟨nb, 5, none⟩ (.slice (some ⟨g6, 0, none⟩) ss.length c6) (fun _ => rfl)
    have O7 := hide (own_kept (T := fun k => k = nb) hown6 TS (fun k hk e => by have := (World.ownsRow.lt hown6 k hk).1; omega))
    have N7 := hide ((unhide N6).set 5 (.slice (some ⟨g6, 0, none⟩) ss.length c6) (by simp))
    have V7 := hide (((unhide V4).below (unhide B6)).kept TS (fun e => by omega))
    have C7 := hide (((unhide C).below (unhide B6)).kept TS (fun e => by omega))
    have Oo7 := hide (((unhide O).below (unhide B6)).kept TS (fun e => by omega))
    have R7 := hide (((unhide R).below (unhide B6)).kept TS (fun e => by omega))
    have K6 := (unhide K).trans ((unhide B6).mono (unhide K).size)
    have K7 := hide (K6.trans (TS.below K6.size (fun k hk e => by omega)))
    have HL7 := hide (((unhide HL4).below (unhide B6)).touch TS (fun hp k hk e => by have := (unhide HPL hp k hk).1; omega))
    have HB7 := hide (((unhide HB5).blw (unhide B6)).touch TS (fun k hk e => by have := hk.1; omega))
    have hs46 := (unhide B6).size
    clear hown6 O6 TS N6 nc5 nf5 K6 B6 B5 O5 HRW x5 y2 V4 C O R K HL4 HB5 X N4
    generalize w6.setCell ⟨nb, 5, none⟩ (.slice (some ⟨g6, 0, none⟩) ss.length c6) = w7 at *
    have n75 := (unhide N7).cell 5 rfl
    have v0 := (unhide V7).cell 0 rfl
    have v1 := (unhide V7).cell 1 rfl
    have v2 := (unhide V7).cell 2 rfl
    have y2 := (unhide C7).cell 2 rfl
    have hgn : nb ≠ g6 ∧ nb + 1 ≠ g6 ∧ w.heap.size + 1 ≠ g6 := ⟨by omega, by omega, by omega⟩
    obtain ⟨hgn1, hgn2, hgn3⟩ := hgn
    obtain ⟨c0, c1, c2, c3, c4⟩ := OwnSe.cells (unhide O7) q hq rfl
    have z1 := (unhide O7).frozenAt (q * 5 + 1)
    have z2 := (unhide O7).frozenAt (q * 5 + 2)
    have z3 := (unhide O7).frozenAt (q * 5 + 3)
    have z4 := (unhide O7).frozenAt (q * 5 + 4)
    rw [← unhide HFE] at c1 c2 c3 c4
    dsimp only at c1 c2 c3 c4
    clear c0
    have TQ := (((((Touch.refl (fun k => k = g6) w7).setCell ⟨g6, q * 5 + 1, none⟩ (.int .i64 c.sq) (fun _ => rfl)).setCell ⟨g6, q * 5 + 2, none⟩ (.int .i64 rN.kd) (fun _ => rfl)).setCell ⟨g6, q * 5 + 3, none⟩ (.int .i64 rN.pl) (fun _ => rfl)).setCell ⟨g6, q * 5 + 4, none⟩ (.string rN.vl) (fun _ => rfl))
    have o1 := ((unhide O7).stored (q * 5 + 1) (.int .i64 c.sq)).1
    have o2 := (o1.stored (q * 5 + 2) (.int .i64 rN.kd)).1
    have o3 := (o2.stored (q * 5 + 3) (.int .i64 rN.pl)).1
    have o4 := (o3.stored (q * 5 + 4) (.string rN.vl)).1
    have hse := sesC_set4 ss q c.sq rN.kd rN.pl rN.vl hq
    rw [hse, ← unhide HFE] at o4
    dsimp only at o4
    have hlen : (ss.set q ⟨f0, c.sq, rN.kd, rN.pl, rN.vl⟩).length = ss.length := by simp
    have O8 : Hid (OwnSe w4.heap.size ((((w7.setCell ⟨g6, q * 5 + 1, none⟩ (.int .i64 c.sq)).setCell ⟨g6, q * 5 + 2, none⟩ (.int .i64 rN.kd)).setCell ⟨g6, q * 5 + 3, none⟩ (.int .i64 rN.pl)).setCell ⟨g6, q * 5 + 4, none⟩ (.string rN.vl)) (.slice (some ⟨g6, 0, none⟩) ss.length c6) (ss.set q ⟨f0, c.sq, rN.kd, rN.pl, rN.vl⟩)) := hide (by unfold OwnSe; rw [hlen]; exact o4)
    have N8 := hide ((unhide N7).kept TQ (fun e => by omega))
    have V8 := hide ((unhide V7).kept TQ (fun e => by omega))
    have Oo8 := hide ((unhide Oo7).kept TQ (fun e => by omega))
    have R8 := hide ((unhide R7).kept TQ (fun e => by omega))
    have K8 := hide ((unhide K7).trans (TQ.below (unhide K7).size (fun k hk e => by omega)))
    have HL8 := hide ((unhide HL7).touch TQ (fun hp k hk e => by have := (unhide HPL hp k hk).1; omega))
    have HB8 := hide ((unhide HB7).touch TQ (fun k hk e => by have := hk.1; omega))
    clear o1 o2 o3 o4 hse hlen TQ
    go_upto_region 14 with fail
    rw [show q * 5 + 2 + 1 = q * 5 + 3 from rfl, show q * 5 + 2 + 2 = q * 5 + 4 from rfl]
    clear c1 c2 c3 c4 z1 z2 z3 z4 n75 v0 v1 v2 y2 N7 V7 C7 Oo7 R7 K7 HL7 HB7 O7
    generalize ((((w7.setCell ⟨g6, q * 5 + 1, none⟩ (.int .i64 c.sq)).setCell ⟨g6, q * 5 + 2, none⟩ (.int .i64 rN.kd)).setCell ⟨g6, q * 5 + 3, none⟩ (.int .i64 rN.pl)).setCell ⟨g6, q * 5 + 4, none⟩ (.string rN.vl)) = w8 at *
    have u0 := (unhide N8).cell 0 rfl
    have u1 := (unhide N8).cell 1 rfl
    have u2 := (unhide N8).cell 2 rfl
    have u3 := (unhide N8).cell 3 rfl
    have u4 := (unhide N8).cell 4 rfl
    have u5 := (unhide N8).cell 5 rfl
    have v0 := (unhide V8).cell 0 rfl
    have v1 := (unhide V8).cell 1 rfl
    have v2 := (unhide V8).cell 2 rfl
    have hw8 : w.heap.size + 1 + 1 + 1 < w8.heap.size := (unhide R8).1
    have hn8 : nb + 1 < w8.heap.size := (unhide V8).1
    refine wp_region_noPanic ?_
    refine wp_region_held_drew (S := (fun wx => wx.cell? ⟨nb, 0, none⟩ = some (.slice la2 lsN.length lc2) ∧ wx.cell? ⟨nb, 1, none⟩ = some (.string (brOf oN).key) ∧ wx.cell? ⟨nb, 2, none⟩ = some (.string (brOf oN).val) ∧ wx.cell? ⟨nb, 3, none⟩ = some (.int .i64 (brOf oN).at_) ∧ wx.cell? ⟨nb, 4, none⟩ = some (.slice ka2 kn2 kc2) ∧ wx.cell? ⟨nb, 5, none⟩ = some (.slice (some ⟨g6, 0, none⟩) ss.length c6) ∧ wx.cell? ⟨nb + 1, 0, none⟩ = some (.int .i64 rN.kd) ∧ wx.cell? ⟨nb + 1, 1, none⟩ = some (.int .i64 rN.pl) ∧ wx.cell? ⟨nb + 1, 2, none⟩ = some (.string rN.vl))) (by kernel_rfl) ?_ (fun hHeld => ?_)
    · exact ⟨u0, u1, u2, u3, u4, u5, v0, v1, v2⟩
    refine tkH 0 rfl ?_
    refine tkH 1 rfl ?_
    have hbD := below_drewN (Below.refl w8.heap.size w8) 1
    have O9_ := hide ((unhide Oo8).below hbD)
    have R9_ := hide ((unhide R8).below hbD)
    have N9_ := hide ((unhide N8).below hbD)
    have V9_ := hide ((unhide V8).below hbD)
    have K9_ := hide ((unhide K8).trans (hbD.mono (unhide K8).size))
    have L9_ := hide ((unhide HL8).below hbD)
    have B9_ := hide ((unhide HB8).blw hbD)
    have S9_ := hide ((unhide O8).kept (T := fun _ => False) (Touch.ofBelow hbD) (fun _ _ e => e))
    change Hid (Blk w8.drew _ _) at O9_
    change Hid (Blk w8.drew _ _) at R9_
    change Hid (Blk w8.drew _ _) at N9_
    change Hid (Blk w8.drew _ _) at V9_
    change Hid (Below w.heap.size w w8.drew) at K9_
    change Hid (Strs w8.drew _ _) at L9_
    change Hid (Brs _ w8.drew _ _) at B9_
    change Hid (OwnSe _ w8.drew _ _) at S9_
    clear hbD Oo8 R8 N8 V8 K8 HL8 HB8 O8 u0 u1 u2 u3 u4 u5 v0 v1 v2 hw8 hn8
    generalize w8.drew = w9 at *
    have hw8 : w.heap.size + 1 + 1 + 1 < w9.heap.size := (unhide R9_).1
    have hn8 : nb + 1 < w9.heap.size := (unhide V9_).1
    have u0 := (unhide N9_).cell 0 rfl
    have u1 := (unhide N9_).cell 1 rfl
    have u2 := (unhide N9_).cell 2 rfl
    have u3 := (unhide N9_).cell 3 rfl
    have u4 := (unhide N9_).cell 4 rfl
    have u5 := (unhide N9_).cell 5 rfl
    have v0 := (unhide V9_).cell 0 rfl
    have v1 := (unhide V9_).cell 1 rfl
    have v2 := (unhide V9_).cell 2 rfl
    have OX := unhide O9_
    have RX := unhide R9_
    have ox0 := OX.cell 0 rfl
    have of0 := OX.fro 0
    have ox1 := OX.cell 1 rfl
    have of1 := OX.fro 1
    have ox2 := OX.cell 2 rfl
    have of2 := OX.fro 2
    have ox3 := OX.cell 3 rfl
    have of3 := OX.fro 3
    have ox4 := OX.cell 4 rfl
    have of4 := OX.fro 4
    have ox5 := OX.cell 5 rfl
    have of5 := OX.fro 5
    have rx0 := RX.cell 0 rfl
    have rf0 := RX.fro 0
    have rx1 := RX.cell 1 rfl
    have rf1 := RX.fro 1
    have rx2 := RX.cell 2 rfl
    have rf2 := RX.fro 2
    have HO9 := hide (((((((((OX.set 0 (.slice la2 lsN.length lc2) (by simp)).set 1 (.string (brOf oN).key) (by simp)).set 2 (.string (brOf oN).val) (by simp)).set 3 (.int .i64 (brOf oN).at_) (by simp)).set 4 (.slice ka2 kn2 kc2) (by simp)).set 5 (.slice (some ⟨g6, 0, none⟩) ss.length c6) (by simp)).other (C := w.heap.size + 1 + 1 + 1) 0 (.int .i64 rN.kd) (by omega)).other (C := w.heap.size + 1 + 1 + 1) 1 (.int .i64 rN.pl) (by omega)).other (C := w.heap.size + 1 + 1 + 1) 2 (.string rN.vl) (by omega))
    have HR9 := hide (((((((((RX.other (C := w.heap.size + 1 + 1) 0 (.slice la2 lsN.length lc2) (by omega)).other (C := w.heap.size + 1 + 1) 1 (.string (brOf oN).key) (by omega)).other (C := w.heap.size + 1 + 1) 2 (.string (brOf oN).val) (by omega)).other (C := w.heap.size + 1 + 1) 3 (.int .i64 (brOf oN).at_) (by omega)).other (C := w.heap.size + 1 + 1) 4 (.slice ka2 kn2 kc2) (by omega)).other (C := w.heap.size + 1 + 1) 5 (.slice (some ⟨g6, 0, none⟩) ss.length c6) (by omega)).set 0 (.int .i64 rN.kd) (by simp)).set 1 (.int .i64 rN.pl) (by simp)).set 2 (.string rN.vl) (by simp))
    have HT9 := hide ((((((((((Touch.refl (fun k => k = w.heap.size + 1 + 1 ∨ k = w.heap.size + 1 + 1 + 1) w9).setCell ⟨w.heap.size + 1 + 1, 0, none⟩ (.slice la2 lsN.length lc2) (fun _ => .inl rfl)).setCell ⟨w.heap.size + 1 + 1, 1, none⟩ (.string (brOf oN).key) (fun _ => .inl rfl)).setCell ⟨w.heap.size + 1 + 1, 2, none⟩ (.string (brOf oN).val) (fun _ => .inl rfl)).setCell ⟨w.heap.size + 1 + 1, 3, none⟩ (.int .i64 (brOf oN).at_) (fun _ => .inl rfl)).setCell ⟨w.heap.size + 1 + 1, 4, none⟩ (.slice ka2 kn2 kc2) (fun _ => .inl rfl)).setCell ⟨w.heap.size + 1 + 1, 5, none⟩ (.slice (some ⟨g6, 0, none⟩) ss.length c6) (fun _ => .inl rfl)).setCell ⟨w.heap.size + 1 + 1 + 1, 0, none⟩ (.int .i64 rN.kd) (fun _ => .inr rfl)).setCell ⟨w.heap.size + 1 + 1 + 1, 1, none⟩ (.int .i64 rN.pl) (fun _ => .inr rfl)).setCell ⟨w.heap.size + 1 + 1 + 1, 2, none⟩ (.string rN.vl) (fun _ => .inr rfl))
    clear OX RX
    refine wpAnyH_ready (rs := [2]) (by kernel_rfl) (by simp) ?_
    refine AllReadyH.cons (o := _) rfl (fun K hK => ?_) AllReadyH.nil
    go_simp
    refine hK.out _ _ ?_ (fun hHeld => ?_)
    · exact ⟨by go_simp, by go_simp, by go_simp, by go_simp, by go_simp, by go_simp, by go_simp, by go_simp, by go_simp⟩
    clear hK K
    (try simp only [Act.put, List.getElem_toArray, List.getElem_cons_succ, List.getElem_cons_zero, List.setIfInBounds_toArray, List.set_cons_zero, List.set_cons_succ])
    refine wpAnyH_ready (rs := [3]) (by kernel_rfl) (by simp) ?_
    refine AllReadyH.cons (o := _) rfl (fun K hK => ?_) AllReadyH.nil
    go_simp
    refine hK.out _ _ ?_ (fun hHeld => ?_)
    · exact ⟨by go_simp, by go_simp, by go_simp, by go_simp, by go_simp, by go_simp, by go_simp, by go_simp, by go_simp⟩
    clear hK K
    (try simp only [Act.put, List.getElem_toArray, List.getElem_cons_succ, List.getElem_cons_zero, List.setIfInBounds_toArray, List.set_cons_zero, List.set_cons_succ])
    refine wpAnyH_done (by kernel_rfl) (NoPanic.normal ?_) _
    clear hHeld
    go_wp2_with fail
    have O9 := unhide HO9
    have R9 := unhide HR9
    have z0 := O9.cell 0 rfl
    have z1 := O9.cell 1 rfl
    have z2 := O9.cell 2 rfl
    have z3 := O9.cell 3 rfl
    have z4 := O9.cell 4 rfl
    have z5 := O9.cell 5 rfl
    have y0 := R9.cell 0 rfl
    have y1 := R9.cell 1 rfl
    have y2 := R9.cell 2 rfl
    refine bodyPost_ret (v := .tuple #[.agg #[.slice la2 lsN.length lc2, .string (brOf oN).key, .string (brOf oN).val, .int .i64 (brOf oN).at_, .slice ka2 kn2 kc2, .slice (some ⟨g6, 0, none⟩) ss.length c6], .agg #[.int .i64 rN.kd, .int .i64 rN.pl, .string rN.vl]]) (by simp [results, Tryz.results32, go_sem, z0, z1, z2, z3, z4, z5, y0, y1, y2]) rfl ?_
    have K9 := (unhide K9_).trans ((unhide HT9).below (unhide K9_).size (fun k9 hk9 e => by rcases e with e | e <;> omega))
    have hse9 := (unhide S9_).kept (unhide HT9) (fun k hk e => by have := ((unhide S9_).lt k hk).1; rcases e with e | e <;> omega)
    refine an_tell (unhide HU) ⟨_, _, _, rfl, (unhide L9_).touch (unhide HT9) (fun hp k hk e => by have := unhide HPL hp k hk; rcases e with e | e <;> omega), ((unhide B9_).touch (unhide HT9) (fun k hk e => hk.2 e)).mono (fun _ _ => trivial), ?_, K9, unhide HFD, own_fresh (unhide S9_) (by omega)⟩
    have := hse9.read
    exact this
end Go.Proofs.YtnhhnjmjodmacaaGreatDoor.Sha
