/- What the proof of the claim needs (joined by program): ApF ApZ SpT. -/
import Derived.Test.YtnhhnjmjodmacaaGreatDoorQaa32
import Derived.Test.YtnhhnjmjodmacaaGreatDoorQaa01
import Derived.Test.YtnhhnjmjodmacaaGreatDoorQaa26
import Derived.Test.YtnhhnjmjodmacaaGreatDoorQaa13
import Derived.Test.YtnhhnjmjodmacaaGreatDoorQaa25
import Derived.Test.YtnhhnjmjodmacaaGreatDoorQaa24
import Derived.Test.YtnhhnjmjodmacaaGreatDoorQaa10
namespace Go.Proofs.YtnhhnjmjodmacaaGreatDoor.Sha
set_option maxRecDepth 100000
set_option maxHeartbeats 8000000
open Go.ChangeShapes Go.WideShapes Go.ChangeAt Go.RowKit Go.Deep
set_option linter.unusedVariables false
set_option linter.unusedSimpArgs false
theorem apply_any (B p : Nat) (lv sv : Value) (tp : Option Addr) (S : Nat → Prop) (ls : List ByteArray) (o : Option Tr) (ss : List Se) (c : Cm) (w : World) (hk : Bk B w p lv tp sv S ls o ss) (hL : LOK ⟨ls, o, ss⟩) (hc : cmK c = true) (hB : B ≤ w.heap.size) (ht : Tab w) (hG1 : 0 < B) (hG2 : 1 < B) :
  Calls Tryz.prog 39 #[.pointer (some ⟨p, 0, none⟩), .agg #[.int .i64 c.kd, .int .i64 c.ss, .int .i64 c.sq, .string c.ky, .string c.vl]] w fun e w' => ApR B p lv sv S (apOut ⟨ls, o, ss⟩ c) w e w' := by
 have hLm := hL.m
 have hLr := hL.rs
 dsimp only at hLm hLr
 obtain ⟨a, cp, rfl⟩ : ∃ a cp, sv = .slice a ss.length cp := by
  rcases hk.2.2.2.1.2 with ⟨e, e0⟩ | ⟨g, cp, cu, e, _⟩
  ·exact ⟨none, 0, by rw [e, e0]⟩
  ·exact ⟨_, _, e⟩
 have hpos := pos_is (id := c.ss) hLr
 have HHas : Hid (hasS ss c.ss = true → posS ss c.ss < ss.length) := Hd (fun h => (has_iff.1 h).1)
 have HU : Hid (apOut ⟨ls, o, ss⟩ c = if c.kd = 4 then (if hasS ss c.ss then (⟨ls, o, ss⟩, ⟨5, 0, ⟨#[]⟩⟩) else if ss.length = 8 then (⟨ls, o, ss⟩, ⟨6, 0, ⟨#[]⟩⟩) else (⟨ls, o, insS ss (posS ss c.ss) (newS c.ss)⟩, ⟨1, 0, ⟨#[]⟩⟩))
  else if hasS ss c.ss = false then (⟨ls, o, ss⟩, ⟨4, 0, ⟨#[]⟩⟩)
  else if c.kd = 5 then (⟨ls, o, delS ss (posS ss c.ss)⟩, ⟨1, 0, ⟨#[]⟩⟩)
  else svOut ⟨ls, o, ss⟩ c (posS ss c.ss)) := Hd rfl
 have HSE := Hd (fun wx (hx : Bk B wx p lv tp (.slice a ss.length cp) S ls o ss) => session_any p _ ss c.ss wx hx.2.2.2.1.read (hx.1.cell 2 rfl) (by omega) hLr)
 have HOP := Hd (fun wx (hx : Below w.heap.size w wx) => open_any B p (posS ss c.ss) lv (.slice a ss.length cp) tp S ls o ss c.ss wx (hk.below hx) (by have := hx.size; omega) hLm hpos.le)
 have HSV := Hd (fun wx g (hx : Below w.heap.size w wx) (h4 : c.kd ≠ 4) (h5 : c.kd ≠ 5) (he : a = some ⟨g, 0, none⟩) (hq : posS ss c.ss < ss.length) => serve_any B p g cp (posS ss c.ss) lv tp S ls o ss c wx (by have := hk.below hx; rw [he] at this; exact this) hL hc h4 h5 (by have := hx.size; omega) (ht.below hx) hG1 hG2 hq)
 have HDL := Hd (fun wx g (hx : Below w.heap.size w wx) (he : a = some ⟨g, 0, none⟩) (hq : posS ss c.ss < ss.length) => delete_any B g cp ss (posS ss c.ss) wx (by have := (hk.below hx).2.2.2.1; rw [he] at this; exact this) (by omega) hq)
 have HBK := Hd hk
 have HAv := Hd (fun r (hr : w.heap.size ≤ r) => hk.av r hr)
 have hple := hpos.le
 generalize hasS ss c.ss = has at *
 generalize posS ss c.ss = q at *
 have B0 := Hd ((bal w (.cells #[.int .i64 c.kd, .int .i64 c.ss, .int .i64 c.sq, .string c.ky, .string c.vl] 44)).alloc (by simp) (.cells #[.int .i64 0, .int .i64 0, .string ⟨#[]⟩] 40))
 have C0 := Hd ((Blk.new w #[.int .i64 c.kd, .int .i64 c.ss, .int .i64 c.sq, .string c.ky, .string c.vl] 44 w.heap.size rfl).alloc (.cells #[.int .i64 0, .int .i64 0, .string ⟨#[]⟩] 40))
 have R0 := Hd (Blk.new (w.alloc (.cells #[.int .i64 c.kd, .int .i64 c.ss, .int .i64 c.sq, .string c.ky, .string c.vl] 44)) #[.int .i64 0, .int .i64 0, .string ⟨#[]⟩] 40 (w.heap.size + 1) (by simp))
 clear hk hL hc ht hpos hLr
 go_enter Tryz.func39, Tryz.ntmps39
 go_upto_region 1 with fail
 generalize (w.alloc (.cells #[.int .i64 c.kd, .int .i64 c.ss, .int .i64 c.sq, .string c.ky, .string c.vl] 44)).alloc (.cells #[.int .i64 0, .int .i64 0, .string ⟨#[]⟩] 40) = w0 at *
 have hw0 : w.heap.size + 1 < w0.heap.size := (uh R0).1
 have HS1 := Hd (uh HSE w0 ((uh HBK).below (uh B0)))
 have x1 := (uh C0).cell 1 rfl
 clear HSE
 go_wp2_with fail
 refine (uh HS1).mono ?_
 rintro e w1 ⟨rfl, hb⟩
 have K1 := hbt B0 hb
 have C1 := Hd ((uh C0).below hb)
 have R1 := Hd ((uh R0).below hb)
 have BK1 := Hd ((uh HBK).below (uh K1))
 have hw1 : w.heap.size + 1 < w1.heap.size := (uh R1).1
 clear hb HS1 x1 B0 C0 R0
 have y0 := (uh C1).cell 0 rfl
 by_cases h4 : c.kd = 4
 ·have b1 : (c.kd == 4) = true := by rw [h4]; rfl
  have H4 := Hd h4
  clear h4
  cases has
  ·have HO1 := Hd (uh HOP w1 (uh K1))
   have HUO : Hid (apOut ⟨ls, o, ss⟩ c = opOut ⟨ls, o, ss⟩ c.ss q) := Hd (by rw [uh HU, if_pos (uh H4)]; rfl)
   have y1 := (uh C1).cell 1 rfl
   clear HOP HSV HDL
   generalize opOut ⟨ls, o, ss⟩ c.ss q = out at *
   obtain ⟨⟨lsN, oN, ssN⟩, ⟨rk, rp, rv⟩⟩ := out
   go_wp2_with fail
   refine (uh HO1).mono ?_
   rintro e w2 ⟨rfl, lv2, tp2, sv2, S2, bk2, av2, t2⟩
   dsimp only at bk2 ⊢
   have HR2 := Hd (av2 _ (by have := (uh R1).1; omega) (uh HAv _ (by omega)))
   have R2 := Hd ((uh R1).kept t2 (fun h => h (uh HAv _ (by omega))))
   have T2 := Hd ((Touch.ofBelow (T := fun k => ¬ Av p lv (.slice a ss.length cp) S k) (uh K1)).trans t2 (fun _ _ e => e))
   have HAV2 := Hd (fun r (hr : r < w.heap.size) (ha : Av p lv (.slice a ss.length cp) S r) => av2 r (by have := (uh K1).size; omega) ha)
   have BK2 := Hd bk2
   have hw2 : w.heap.size + 1 < w2.heap.size := (uh R2).1
   clear bk2 av2 t2 y0 y1 HO1
   have RX := uh R2
   obtain ⟨⟨rz0, rz1, rz2⟩, fz0, fz1, fz2⟩ := Blk.c3 RX
   have HR9 := Hd (((RX.set 0 (.int .i64 rk) (by simp)).set 1 (.int .i64 rp) (by simp)).set 2 (.string rv) (by simp))
   have HT9 := Hd ((((Touch.refl (fun q => q = w.heap.size + 1) w2).setCell ⟨w.heap.size + 1, 0, none⟩ (.int .i64 rk) (fun _ => rfl)).setCell ⟨w.heap.size + 1, 1, none⟩ (.int .i64 rp) (fun _ => rfl)).setCell ⟨w.heap.size + 1, 2, none⟩ (.string rv) (fun _ => rfl))
   clear RX
   go_wp2_with fail
   have R9 := uh HR9
   have z0 := R9.cell 0 rfl
   have z1 := R9.cell 1 rfl
   have z2 := R9.cell 2 rfl
   refine bodyPost_ret (v := .agg #[.int .i64 rk, .int .i64 rp, .string rv]) (by simp [results, Tryz.results39, go_sem, z0, z1, z2]) rfl ?_
   refine ap_tell (uh HUO) ⟨rfl, lv2, tp2, sv2, S2, (uh BK2).keep (uh HT9) (fun k e => by rw [e]; exact uh HR2), uh HAV2, ?_⟩
   exact (uh T2).trans (uh HT9) (fun j hj e => by omega)
  ·clear HOP HSV HDL
   have RX := uh R1
   obtain ⟨⟨rz0, rz1, rz2⟩, fz0, fz1, fz2⟩ := Blk.c3 RX
   have HR9 := Hd (((RX.set 0 (.int .i64 5) (by simp)).set 1 (.int .i64 0) (by simp)).set 2 (.string ⟨#[]⟩) (by simp))
   have HT9 := Hd ((((Touch.refl (fun q => q = w.heap.size + 1) w1).setCell ⟨w.heap.size + 1, 0, none⟩ (.int .i64 5) (fun _ => rfl)).setCell ⟨w.heap.size + 1, 1, none⟩ (.int .i64 0) (fun _ => rfl)).setCell ⟨w.heap.size + 1, 2, none⟩ (.string ⟨#[]⟩) (fun _ => rfl))
   clear RX
   go_wp2_with fail
   have R9 := uh HR9
   have z0 := R9.cell 0 rfl
   have z1 := R9.cell 1 rfl
   have z2 := R9.cell 2 rfl
   refine bodyPost_ret (v := .agg #[.int .i64 5, .int .i64 0, .string ⟨#[]⟩]) (by simp [results, Tryz.results39, go_sem, z0, z1, z2]) rfl ?_
   refine ap_tell (by rw [uh HU, if_pos (uh H4), if_pos (by first | trivial | rfl)]) ⟨rfl, lv, tp, (.slice a ss.length cp), S, (uh BK1).keep (uh HT9) (fun k e => by rw [e]; exact uh HAv _ (by omega)), fun r _ ha => ha, ?_⟩
   exact (Touch.ofBelow (uh K1)).trans (uh HT9) (fun j hj e => by omega)
 have b1 : (c.kd == 4) = false := by rw [beq_eq_false_iff_ne]; exact h4
 have H4 := Hd h4
 clear h4
 cases has
 ·clear HOP HSV HDL
  have RX := uh R1
  obtain ⟨⟨rz0, rz1, rz2⟩, fz0, fz1, fz2⟩ := Blk.c3 RX
  have HR9 := Hd (((RX.set 0 (.int .i64 4) (by simp)).set 1 (.int .i64 0) (by simp)).set 2 (.string ⟨#[]⟩) (by simp))
  have HT9 := Hd ((((Touch.refl (fun q => q = w.heap.size + 1) w1).setCell ⟨w.heap.size + 1, 0, none⟩ (.int .i64 4) (fun _ => rfl)).setCell ⟨w.heap.size + 1, 1, none⟩ (.int .i64 0) (fun _ => rfl)).setCell ⟨w.heap.size + 1, 2, none⟩ (.string ⟨#[]⟩) (fun _ => rfl))
  clear RX
  go_wp2_with fail
  have R9 := uh HR9
  have z0 := R9.cell 0 rfl
  have z1 := R9.cell 1 rfl
  have z2 := R9.cell 2 rfl
  refine bodyPost_ret (v := .agg #[.int .i64 4, .int .i64 0, .string ⟨#[]⟩]) (by simp [results, Tryz.results39, go_sem, z0, z1, z2]) rfl ?_
  refine ap_tell (by rw [uh HU, if_neg (uh H4), if_pos (by first | trivial | rfl)]) ⟨rfl, lv, tp, (.slice a ss.length cp), S, (uh BK1).keep (uh HT9) (fun k e => by rw [e]; exact uh HAv _ (by omega)), fun r _ ha => ha, ?_⟩
  exact (Touch.ofBelow (uh K1)).trans (uh HT9) (fun j hj e => by omega)
 have hq : q < ss.length := uh HHas (by first | trivial | rfl)
 obtain ⟨g, hga⟩ : ∃ g, a = some ⟨g, 0, none⟩ := by
  obtain ⟨g, cap, e, _, _⟩ := World.ownsRow.form (uh BK1).2.2.2.1 (by omega)
  simp only [Value.slice.injEq] at e
  exact ⟨g, e.1⟩
 have HGA := Hd hga
 subst hga
 by_cases h5 : c.kd = 5
 ·have b2 : (c.kd == 5) = true := by rw [h5]; rfl
  have H5 := Hd h5
  clear h5
  have HD1 := Hd (uh HDL w1 g (uh K1) rfl hq)
  have q1 : IntKind.i64.wrap ((q : Int) + 1) = (q : Int) + 1 := wrapSe2 _ (by omega) (by omega)
  have y2 := (uh BK1).1.cell 2 rfl
  have HUO : Hid (apOut ⟨ls, o, ss⟩ c = (⟨ls, o, delS ss q⟩, ⟨1, 0, ⟨#[]⟩⟩)) := Hd (by rw [uh HU, if_neg (uh H4), if_neg (by simp), if_pos (uh H5)])
  clear HOP HSV HDL
  go_wp2_with fail
  refine (uh HD1).mono ?_
  rintro e w2 ⟨v2, rfl, hO2, hat2, hT2⟩
  obtain ⟨a2, n2, c2, rfl⟩ : ∃ a2 n2 c2, v2 = .slice a2 n2 c2 := by
   rcases hO2.2 with ⟨e2, _⟩ | ⟨g4, c4, cu, e2, _⟩
   ·exact ⟨_, _, _, e2⟩
   ·exact ⟨_, _, _, e2⟩
  have X2 := (uh BK1).1.kept (T := fun k => some g = some k) hT2 (uh BK1).2.2.2.2.2.2.2.1
  have z2 := X2.cell 2 rfl
  have fz := X2.fro 2
  obtain ⟨bk2, av2, t2⟩ := (uh BK1).sess (by have := (uh K1).size; omega) hO2 hat2 hT2
  have HR2 := Hd (av2 _ (by have := (uh R1).1; omega) (uh HAv _ (by omega)))
  have R2 := Hd ((uh R1).kept t2 (fun h => h (uh HAv _ (by omega))))
  have T2 := Hd ((Touch.ofBelow (T := fun k => ¬ Av p lv (.slice (some ⟨g, 0, none⟩) ss.length cp) S k) (uh K1)).trans t2 (fun _ _ e => e))
  have HAV2 := Hd (fun r (hr : r < w.heap.size) (ha : Av p lv (.slice (some ⟨g, 0, none⟩) ss.length cp) S r) => av2 r (by have := (uh K1).size; omega) ha)
  have BK2 := Hd bk2
  clear bk2 av2 t2 y0 y2 HD1 hO2 hat2 hT2 X2 q1
  go_upto_region 10 with fail
  clear z2 fz
  generalize w2.setCell ⟨p, 2, none⟩ (.slice a2 n2 c2) = w3 at *
  have hw3 : w.heap.size + 1 < w3.heap.size := (uh R2).1
  have RX := uh R2
  obtain ⟨⟨rz0, rz1, rz2⟩, fz0, fz1, fz2⟩ := Blk.c3 RX
  have HR9 := Hd (((RX.set 0 (.int .i64 1) (by simp)).set 1 (.int .i64 0) (by simp)).set 2 (.string ⟨#[]⟩) (by simp))
  have HT9 := Hd ((((Touch.refl (fun q => q = w.heap.size + 1) w3).setCell ⟨w.heap.size + 1, 0, none⟩ (.int .i64 1) (fun _ => rfl)).setCell ⟨w.heap.size + 1, 1, none⟩ (.int .i64 0) (fun _ => rfl)).setCell ⟨w.heap.size + 1, 2, none⟩ (.string ⟨#[]⟩) (fun _ => rfl))
  clear RX
  go_wp2_with fail
  have R9 := uh HR9
  have z0 := R9.cell 0 rfl
  have z1 := R9.cell 1 rfl
  have z2 := R9.cell 2 rfl
  refine bodyPost_ret (v := .agg #[.int .i64 1, .int .i64 0, .string ⟨#[]⟩]) (by simp [results, Tryz.results39, go_sem, z0, z1, z2]) rfl ?_
  refine ap_tell (uh HUO) ⟨rfl, lv, tp, .slice a2 n2 c2, S, (uh BK2).keep (uh HT9) (fun k e => by rw [e]; exact uh HR2), uh HAV2, ?_⟩
  exact (uh T2).trans (uh HT9) (fun j hj e => by omega)
 have b2 : (c.kd == 5) = false := by rw [beq_eq_false_iff_ne]; exact h5
 have HUO : Hid (apOut ⟨ls, o, ss⟩ c = svOut ⟨ls, o, ss⟩ c q) := Hd (by rw [uh HU, if_neg (uh H4), if_neg (by simp), if_neg h5])
 have hb2 := below_drewN (Below.refl w1.heap.size w1) 1
 have K3 := hbt K1 hb2
 change Hid (Below w.heap.size w w1.drew) at K3
 have HV1 := Hd (uh HSV w1.drew g (uh K3) (uh H4) h5 rfl hq)
 generalize svOut ⟨ls, o, ss⟩ c q = out at *
 obtain ⟨⟨lsN, oN, ssN⟩, ⟨rk, rp, rv⟩⟩ := out
 have y2 := (uh BK1).1.cell 2 rfl
 have hcl : w.heap.size < w1.drew.heap.size := (uh C1).1
 obtain ⟨x0, x1, x2, x3, x4⟩ := Blk.c5 (uh C1)
 have m0 : (0 : Int) ≤ (q : Int) := by omega
 have m1 : (q : Int) < (ss.length : Int) := by omega
 clear HOP HSV HDL hb2 h5
 go_upto_region 11 with fail
 clear y0
 refine wp_region_noPanic ?_
 refine wp_region_held_drew (S := (fun wx => wx.cell? ⟨w.heap.size, 0, none⟩ = some (.int .i64 c.kd) ∧ wx.cell? ⟨w.heap.size, 1, none⟩ = some (.int .i64 c.ss) ∧ wx.cell? ⟨w.heap.size, 2, none⟩ = some (.int .i64 c.sq) ∧ wx.cell? ⟨w.heap.size, 3, none⟩ = some (.string c.ky) ∧ wx.cell? ⟨w.heap.size, 4, none⟩ = some (.string c.vl))) (by kernel_rfl) ?_ (fun hHeld => ?_)
 ·exact ⟨x0, x1, x2, x3, x4⟩
 refine tkH 0 rfl ?_
 refine tkH 1 rfl ?_
 refine tkH 2 rfl ?_
 refine tkH 3 rfl ?_
 refine tkH 5 rfl ?_
 refine tkH 7 rfl ?_
 refine rdy1 4 rfl (fun K hK => ?_)
 have y3 : w1.drew.cell? ⟨p, 2, none⟩ = some (.slice (some ⟨g, 0, none⟩) ss.length cp) := y2
 go_simp
 refine hK.out _ _ ?_ (fun hHeld => ?_)
 ·exact ⟨x0, x1, x2, x3, x4⟩
 clear hK K y3
 (try simp only [Act.put, List.getElem_toArray, List.getElem_cons_succ, List.getElem_cons_zero, List.setIfInBounds_toArray, List.set_cons_zero, List.set_cons_succ])
 refine tkH 6 rfl ?_
 refine rdy1 8 rfl (fun K hK => ?_)
 go_simp
 refine (uh HV1).mono ?_
 rintro e w2 ⟨rfl, lv2, tp2, sv2, S2, bk2, av2, t2⟩
 dsimp only at bk2
 have k0 := fun i => touch_cell t2 w.heap.size i hcl (fun h => h (uh HAv _ (Nat.le_refl _)))
 have HR2 := Hd (av2 _ (show w.heap.size + 1 < w1.drew.heap.size from hw1) (uh HAv _ (by omega)))
 have R2 := Hd (((uh R1).drewN 1).kept t2 (fun h => h (uh HAv _ (by omega))))
 have T2 := Hd ((Touch.ofBelow (T := fun k => ¬ Av p lv (.slice (some ⟨g, 0, none⟩) ss.length cp) S k) (uh K3)).trans t2 (fun _ _ e => e))
 have HAV2 := Hd (fun r (hr : r < w.heap.size) (ha : Av p lv (.slice (some ⟨g, 0, none⟩) ss.length cp) S r) => av2 r (by have := (uh K3).size; omega) ha)
 have BK2 := Hd bk2
 have x30 := (k0 0).trans x0
 have x31 := (k0 1).trans x1
 have x32 := (k0 2).trans x2
 have x33 := (k0 3).trans x3
 have x34 := (k0 4).trans x4
 have hw2 : w.heap.size + 1 < w2.heap.size := (uh R2).1
 clear bk2 av2 t2 k0 HV1
 go_wp2_with fail
 refine outH hK ?_ (fun hHeld => ?_)
 ·exact ⟨x30, x31, x32, x33, x34⟩
 clear hK K
 have RX := uh R2
 obtain ⟨⟨rz0, rz1, rz2⟩, fz0, fz1, fz2⟩ := Blk.c3 RX
 have HR9 := Hd (((RX.set 0 (.int .i64 rk) (by simp)).set 1 (.int .i64 rp) (by simp)).set 2 (.string rv) (by simp))
 have HT9 := Hd ((((Touch.refl (fun q => q = w.heap.size + 1) w2).setCell ⟨w.heap.size + 1, 0, none⟩ (.int .i64 rk) (fun _ => rfl)).setCell ⟨w.heap.size + 1, 1, none⟩ (.int .i64 rp) (fun _ => rfl)).setCell ⟨w.heap.size + 1, 2, none⟩ (.string rv) (fun _ => rfl))
 clear RX
 refine rdy1 9 rfl (fun K hK => ?_)
 go_simp
 refine outH hK ?_ (fun hHeld => ?_)
 ·exact ⟨by go_simp, by go_simp, by go_simp, by go_simp, by go_simp⟩
 clear hK K
 refine wpAnyH_done (by kernel_rfl) (NoPanic.normal ?_) _
 clear hHeld
 go_wp2_with fail
 have R9 := uh HR9
 have z0 := R9.cell 0 rfl
 have z1 := R9.cell 1 rfl
 have z2 := R9.cell 2 rfl
 refine bodyPost_ret (v := .agg #[.int .i64 rk, .int .i64 rp, .string rv]) (by simp [results, Tryz.results39, go_sem, z0, z1, z2]) rfl ?_
 refine ap_tell (uh HUO) ⟨rfl, lv2, tp2, sv2, S2, (uh BK2).keep (uh HT9) (fun k e => by rw [e]; exact uh HR2), uh HAV2, ?_⟩
 exact (uh T2).trans (uh HT9) (fun j hj e => by omega)
theorem branch_o {w0 : World} {S : Nat → Prop} {tp : Option Addr} {o : Option Tr} (h : PtrM w0 S tp o) (hok : OkO o) (w : World) (hb : Below w0.heap.size w0 w) :
  Calls Tryz.prog 78 #[.pointer tp] w fun e w' => BranchR (brOf o) w e w' := by
 cases o with
 | none => obtain rfl : tp = none := h; exact branch_nil w
 | some t => obtain ⟨q, rfl, hn⟩ := h; exact branch_any hn hok w hb
theorem ledger_any (B p : Nat) (lv sv : Value) (tp : Option Addr) (S : Nat → Prop) (ls : List ByteArray) (o : Option Tr) (ss : List Se) (w : World) (hk : Bk B w p lv tp sv S ls o ss) (hok : OkO o) (hB : B ≤ w.heap.size) :
  Calls Tryz.prog 40 #[.pointer (some ⟨p, 0, none⟩)] w fun e w' => ∃ kv, e = .returned (.agg #[lv, .string (brOf o).key, .string (brOf o).val, .int .i64 (brOf o).at_, kv, sv]) ∧ OwnS B w' lv ls ∧ OwnSe B w' sv ss ∧ (∀ x, lv.ownBlock = some x → sv.ownBlock ≠ some x) ∧ BrO w' (fun x => w.heap.size ≤ x ∧ x < w'.heap.size) kv (brOf o).kids ∧ Below w.heap.size w w' := by
 obtain ⟨la, lc, e1, _⟩ := hk.2.2.1.strs
 obtain ⟨sa, sc, e2, _⟩ := hk.2.2.2.1.read
 subst e1
 subst e2
 have HBK := Hd hk
 have hpp := hk.1.1
 have HBR := Hd (fun wx (hx : Below w.heap.size w wx) => branch_o hk.2.2.2.2.1 hok wx hx)
 have B0 := Hd (bal w (.cells #[.slice none 0 0, .string ⟨#[]⟩, .string ⟨#[]⟩, .int .i64 0, .slice none 0 0, .slice none 0 0] 38))
 have R0 := Hd (Blk.new w #[.slice none 0 0, .string ⟨#[]⟩, .string ⟨#[]⟩, .int .i64 0, .slice none 0 0, .slice none 0 0] 38 w.heap.size rfl)
 have P0 := Hd (hk.1.alloc (.cells #[.slice none 0 0, .string ⟨#[]⟩, .string ⟨#[]⟩, .int .i64 0, .slice none 0 0, .slice none 0 0] 38))
 clear hk
 generalize ls.length = ln at *
 generalize ss.length = sn at *
 obtain ⟨bN, hbN⟩ : ∃ bN, bN = brOf o := ⟨_, rfl⟩
 rw [← hbN] at HBR ⊢
 clear hbN
 go_enter Tryz.func40, Tryz.ntmps40
 go_upto_region 1 with fail
 generalize w.alloc (.cells #[.slice none 0 0, .string ⟨#[]⟩, .string ⟨#[]⟩, .int .i64 0, .slice none 0 0, .slice none 0 0] 38) = w0 at *
 have hw0 : w.heap.size < w0.heap.size := (uh R0).1
 have hp0 : p < w0.heap.size := by omega
 have x0 := (uh P0).cell 0 rfl
 have x1 := (uh P0).cell 1 rfl
 have x2 := (uh P0).cell 2 rfl
 refine wp_region_noPanic ?_
 refine wp_region_held_drew (S := (fun wx => wx.cell? ⟨p, 0, none⟩ = some (.slice la ln lc) ∧ wx.cell? ⟨p, 1, none⟩ = some (.pointer tp) ∧ wx.cell? ⟨p, 2, none⟩ = some (.slice sa sn sc))) (by kernel_rfl) ?_ (fun hHeld => ?_)
 ·exact ⟨x0, x1, x2⟩
 refine tkH 0 rfl ?_
 refine tkH 1 rfl ?_
 refine tkH 2 rfl ?_
 refine tkH 3 rfl ?_
 refine tkH 4 rfl ?_
 refine tkH 5 rfl ?_
 refine tkH 6 rfl ?_
 refine tkH 7 rfl ?_
 refine tkH 8 rfl ?_
 refine tkH 9 rfl ?_
 refine tkH 11 rfl ?_
 refine tkH 12 rfl ?_
 refine tkH 13 rfl ?_
 refine tkH 14 rfl ?_
 have hdr := below_drewN (Below.refl w0.heap.size w0) 1
 have K1 := hbt B0 hdr
 have R1 := Hd ((uh R0).below hdr)
 have P1 := Hd ((uh P0).below hdr)
 change Hid (Below w.heap.size w w0.drew) at K1
 change Hid (Blk w0.drew _ _) at R1
 change Hid (Blk w0.drew _ _) at P1
 clear hdr B0 R0 P0 x0 x1 x2 hw0 hp0
 generalize w0.drew = w1 at *
 have hw1 : w.heap.size < w1.heap.size := (uh R1).1
 have hp1 : p < w1.heap.size := by omega
 have x0 := (uh P1).cell 0 rfl
 have x1 := (uh P1).cell 1 rfl
 have x2 := (uh P1).cell 2 rfl
 have HB1 := Hd (uh HBR w1 (uh K1))
 refine rdy1 10 rfl (fun K hK => ?_)
 go_simp
 refine (uh HB1).mono ?_
 rintro e w3 ⟨ka, kn, kc, rfl, hbo, hb3⟩
 have HBO := Hd hbo
 have HB3 := Hd hb3
 have K3 := hbt K1 hb3
 have R3 := Hd ((uh R1).below hb3)
 have hs3 := hb3.size
 go_wp2_with fail
 refine outH hK ?_ (fun hHeld => ?_)
 ·exact ⟨(hb3.cell (p := ⟨p, 0, none⟩) hp1).trans x0, (hb3.cell (p := ⟨p, 1, none⟩) hp1).trans x1, (hb3.cell (p := ⟨p, 2, none⟩) hp1).trans x2⟩
 clear hK K
 refine tkH 15 rfl ?_
 obtain ⟨⟨r0, r1, r2, r3, r4, r5⟩, _⟩ := Blk.c6 (uh R3)
 have rf0 := (uh R3).fro 0
 have rf1 := (uh R3).fro 1
 have rf2 := (uh R3).fro 2
 have rf3 := (uh R3).fro 3
 have rf4 := (uh R3).fro 4
 have rf5 := (uh R3).fro 5
 have T9 := (((((((Touch.refl (fun x => x = w.heap.size) w3).setCell ⟨w.heap.size, 0, none⟩ (.slice la ln lc) (fun _ => rfl)).setCell ⟨w.heap.size, 1, none⟩ (.string bN.key) (fun _ => rfl)).setCell ⟨w.heap.size, 2, none⟩ (.string bN.val) (fun _ => rfl)).setCell ⟨w.heap.size, 3, none⟩ (.int .i64 bN.at_) (fun _ => rfl)).setCell ⟨w.heap.size, 4, none⟩ (.slice ka kn kc) (fun _ => rfl)).setCell ⟨w.heap.size, 5, none⟩ (.slice sa sn sc) (fun _ => rfl))
 have R9 := Hd (((((((uh R3).set 0 (.slice la ln lc) (by simp)).set 1 (.string bN.key) (by simp)).set 2 (.string bN.val) (by simp)).set 3 (.int .i64 bN.at_) (by simp)).set 4 (.slice ka kn kc) (by simp)).set 5 (.slice sa sn sc) (by simp))
 have hkc := fun (i : Nat) (v : Value) (h : w1.cell? ⟨p, i, none⟩ = some v) => (T9.cell (p := ⟨p, i, none⟩) (show p < w3.heap.size by omega) (show ¬ p = w.heap.size by omega)).trans ((hb3.cell (p := ⟨p, i, none⟩) hp1).trans h)
 refine rdy1 16 rfl (fun K hK => ?_)
 go_simp
 refine outH hK ?_ (fun hHeld => ?_)
 ·exact ⟨hkc _ _ x0, hkc _ _ x1, hkc _ _ x2⟩
 clear hK K
 refine wpAnyH_done (by kernel_rfl) (NoPanic.normal ?_) _
 clear hHeld hkc
 have K9 := Hd ((uh K3).trans (T9.below (uh K3).size (fun x hx e => by omega)))
 have HO9 := Hd (hbo.touch T9 (fun x hx e => by have := hx.1; omega))
 have hs9 := T9.size
 clear T9 hbo hb3
 generalize ((((((w3.setCell ⟨w.heap.size, 0, none⟩ (.slice la ln lc)).setCell ⟨w.heap.size, 1, none⟩ (.string bN.key)).setCell ⟨w.heap.size, 2, none⟩ (.string bN.val)).setCell ⟨w.heap.size, 3, none⟩ (.int .i64 bN.at_)).setCell ⟨w.heap.size, 4, none⟩ (.slice ka kn kc)).setCell ⟨w.heap.size, 5, none⟩ (.slice sa sn sc)) = w9 at *
 go_wp2_with fail
 have R9' := uh R9
 obtain ⟨⟨z0, z1, z2, z3, z4, z5⟩, _⟩ := Blk.c6 R9'
 refine bodyPost_ret (v := .agg #[.slice la ln lc, .string bN.key, .string bN.val, .int .i64 bN.at_, .slice ka kn kc, .slice sa sn sc]) (by simp [results, Tryz.results40, go_sem, z0, z1, z2, z3, z4, z5]) rfl ?_
 obtain ⟨h1, h2, h3, h4, h5, h6, h7, h8, h9⟩ := (uh HBK).below (uh K9)
 exact ⟨_, rfl, h3, h4, h9, (uh HO9).mono (fun x hx => ⟨by have := hx.1; omega, by have := hx.2; omega⟩), uh K9⟩
end Go.Proofs.YtnhhnjmjodmacaaGreatDoor.Sha
namespace Go.Proofs.YtnhhnjmjodmacaaGreatDoor
set_option maxRecDepth 100000
set_option maxHeartbeats 8000000
open Go.ChangeShapes Go.WideShapes Go.ChangeAt Go.RowKit
set_option linter.unusedVariables false
theorem wrapU (n : Int) : IntKind.u8.wrap n = n % 256 := by simp [IntKind.wrap, IntKind.bits, IntKind.signed]
theorem l02Two_any (n : Int) (w : World) (h0 : 0 ≤ n) (h1 : n < 4294967296) :
  Calls Tryz.prog 111 #[.int .i64 n] w fun e w' => e = .returned (.slice (some ⟨w.heap.size, 0, none⟩) 2 2) ∧ w' = w.alloc (.cells #[.int .u8 (n / 256 % 256), .int .u8 (n % 256)] 5) := by
 have m1 := wrapU (n / 256)
 have m2 := wrapU n
 go_enter Tryz.func111, Tryz.ntmps111
 go_wp2_with fail
 go_ret
 exact ⟨rfl, rfl⟩
end Go.Proofs.YtnhhnjmjodmacaaGreatDoor
