/- What the proof of the claim needs (joined by program): ApF ApZ SpT SpB ApV. -/
import Derived.Test.YtlbcdngidfjogaaGreatDoorQba11
import Derived.Test.YtlbcdngidfjogaaGreatDoorQba08
import Derived.Test.YtlbcdngidfjogaaGreatDoorQba04
import Derived.Test.YtlbcdngidfjogaaGreatDoorQba00
import Derived.Test.YtlbcdngidfjogaaGreatDoorQba03
import Derived.Deep.Fields
import Derived.Deep.Slices
import Derived.SliceStrings
import Derived.Deep.RegionHeld3
namespace Go.Proofs.YtlbcdngidfjogaaGreatDoor.Sha
set_option maxRecDepth 100000
set_option maxHeartbeats 8000000
open Go.ChangeShapes Go.WideShapes Go.ChangeAt Go.RowKit Go.Deep
set_option linter.unusedVariables false
set_option linter.unusedSimpArgs false
theorem apply_any (B p : Nat) (lv sv : Value) (tp : Option Addr) (S : Nat → Prop) (ls : List ByteArray) (o : Option Tr) (ss : List Se) (c : Cm) (w : World) (hk : Bk B w p lv tp sv S ls o ss) (hL : LOK ⟨ls, o, ss⟩) (hc : cmK c = true) (hB : B ≤ w.heap.size) (ht : Tab w) (hG1 : 0 < B) (hG2 : 1 < B) :
  Calls Tryz.prog 18 #[.pointer (some ⟨p, 0, none⟩), .agg #[.int .i64 c.kd, .int .i64 c.ss, .int .i64 c.sq, .string c.ky, .string c.vl]] w fun e w' => ApR B p lv sv S (apOut ⟨ls, o, ss⟩ c) w e w' := by
 have hLm := hL.m
 have hLr := hL.rs
 dsimp only at hLm hLr
 obtain ⟨a, cp, rfl⟩ : ∃ a cp, sv = .slice a ss.length cp := by
  rcases hk.2.2.2.1.2 with ⟨e, e0⟩ | ⟨g, cp, cu, e, _⟩
  ·exact ⟨none, 0, by rw [e, e0]⟩
  ·exact ⟨_, _, e⟩
 have hpos := pos_is (id := c.ss) hLr
 have HHas : Hid (hasS ss c.ss = true → posS ss c.ss < ss.length) := Hd (fun h => (has_iff.1 h).1)
 have HU : Hid (apOut ⟨ls, o, ss⟩ c = if c.kd = 4 then (if hasS ss c.ss then (⟨ls, o, ss⟩, ⟨5, 0, ⟨#[]⟩⟩) else if ss.length = 8 then (⟨ls, o, ss⟩, ⟨6, 0, ⟨#[]⟩⟩) else (⟨ls, o, insS ss (posS ss c.ss) (newS c.ss)⟩, ⟨1, 0, ⟨#[]⟩⟩))
  else if hasS ss c.ss = false then (⟨ls, o, ss⟩, ⟨4, 0, ⟨#[]⟩⟩)
  else if c.kd = 5 then (⟨ls, o, delS ss (posS ss c.ss)⟩, ⟨1, 0, ⟨#[]⟩⟩)
  else svOut ⟨ls, o, ss⟩ c (posS ss c.ss)) := Hd rfl
 have HSE := Hd (fun wx (hx : Bk B wx p lv tp (.slice a ss.length cp) S ls o ss) => session_any p _ ss c.ss wx hx.2.2.2.1.read (hx.1.cell 2 rfl) (by omega) hLr)
 have HOP := Hd (fun wx (hx : Below w.heap.size w wx) => open_any B p (posS ss c.ss) lv (.slice a ss.length cp) tp S ls o ss c.ss wx (hk.below hx) (by have := hx.size; omega) hLm hpos.le)
 have HSV := Hd (fun wx g (hx : Below w.heap.size w wx) (h4 : c.kd ≠ 4) (h5 : c.kd ≠ 5) (he : a = some ⟨g, 0, none⟩) (hq : posS ss c.ss < ss.length) => serve_any B p g cp (posS ss c.ss) lv tp S ls o ss c wx (by have := hk.below hx; rw [he] at this; exact this) hL hc h4 h5 (by have := hx.size; omega) (ht.below hx) hG1 hG2 hq)
 have HDL := Hd (fun wx g (hx : Below w.heap.size w wx) (he : a = some ⟨g, 0, none⟩) (hq : posS ss c.ss < ss.length) => delete_any B g cp ss (posS ss c.ss) wx (by have := (hk.below hx).2.2.2.1; rw [he] at this; exact this) (by omega) hq)
 have HBK := Hd hk
 have HAv := Hd (fun r (hr : w.heap.size ≤ r) => hk.av r hr)
 have hple := hpos.le
 generalize hasS ss c.ss = has at *
 generalize posS ss c.ss = q at *
 have B0 := Hd ((bal w (.cells #[.int .i64 c.kd, .int .i64 c.ss, .int .i64 c.sq, .string c.ky, .string c.vl] 31)).alloc (by simp) (.cells #[.int .i64 0, .int .i64 0, .string ⟨#[]⟩] 27))
 have C0 := Hd ((Blk.new w #[.int .i64 c.kd, .int .i64 c.ss, .int .i64 c.sq, .string c.ky, .string c.vl] 31 w.heap.size rfl).alloc (.cells #[.int .i64 0, .int .i64 0, .string ⟨#[]⟩] 27))
 have R0 := Hd (Blk.new (w.alloc (.cells #[.int .i64 c.kd, .int .i64 c.ss, .int .i64 c.sq, .string c.ky, .string c.vl] 31)) #[.int .i64 0, .int .i64 0, .string ⟨#[]⟩] 27 (w.heap.size + 1) (by simp))
 clear hk hL hc ht hpos hLr
 go_enter Tryz.func18, Tryz.ntmps18
 go_upto_region 1 with fail
 generalize (w.alloc (.cells #[.int .i64 c.kd, .int .i64 c.ss, .int .i64 c.sq, .string c.ky, .string c.vl] 31)).alloc (.cells #[.int .i64 0, .int .i64 0, .string ⟨#[]⟩] 27) = w0 at *
 have hw0 : w.heap.size + 1 < w0.heap.size := (uh R0).1
 have HS1 := Hd (uh HSE w0 ((uh HBK).below (uh B0)))
 have x1 := (uh C0).cell 1 rfl
 clear HSE
 go_wp2_with fail
 refine (uh HS1).mono ?_
 rintro e w1 ⟨rfl, hb⟩
 have K1 := hbt B0 hb
 have C1 := Hd ((uh C0).below hb)
 have R1 := Hd ((uh R0).below hb)
 have BK1 := Hd ((uh HBK).below (uh K1))
 have hw1 : w.heap.size + 1 < w1.heap.size := (uh R1).1
 clear hb HS1 x1 B0 C0 R0
 have y0 := (uh C1).cell 0 rfl
 by_cases h4 : c.kd = 4
 ·have b1 : (c.kd == 4) = true := by rw [h4]; rfl
  have H4 := Hd h4
  clear h4
  cases has
  ·have HO1 := Hd (uh HOP w1 (uh K1))
   have HUO : Hid (apOut ⟨ls, o, ss⟩ c = opOut ⟨ls, o, ss⟩ c.ss q) := Hd (by rw [uh HU, if_pos (uh H4)]; rfl)
   have y1 := (uh C1).cell 1 rfl
   clear HOP HSV HDL
   generalize opOut ⟨ls, o, ss⟩ c.ss q = out at *
   obtain ⟨⟨lsN, oN, ssN⟩, ⟨rk, rp, rv⟩⟩ := out
   go_wp2_with fail
   refine (uh HO1).mono ?_
   rintro e w2 ⟨rfl, lv2, tp2, sv2, S2, bk2, av2, t2⟩
   dsimp only at bk2 ⊢
   have HR2 := Hd (av2 _ (by have := (uh R1).1; omega) (uh HAv _ (by omega)))
   have R2 := Hd ((uh R1).kept t2 (fun h => h (uh HAv _ (by omega))))
   have T2 := Hd ((Touch.ofBelow (T := fun k => ¬ Av p lv (.slice a ss.length cp) S k) (uh K1)).trans t2 (fun _ _ e => e))
   have HAV2 := Hd (fun r (hr : r < w.heap.size) (ha : Av p lv (.slice a ss.length cp) S r) => av2 r (by have := (uh K1).size; omega) ha)
   have BK2 := Hd bk2
   have hw2 : w.heap.size + 1 < w2.heap.size := (uh R2).1
   clear bk2 av2 t2 y0 y1 HO1
   have RX := uh R2
   obtain ⟨⟨rz0, rz1, rz2⟩, fz0, fz1, fz2⟩ := Blk.c3 RX
   have HR9 := Hd (((RX.set 0 (.int .i64 rk) (by simp)).set 1 (.int .i64 rp) (by simp)).set 2 (.string rv) (by simp))
   have HT9 := Hd ((((Touch.refl (fun q => q = w.heap.size + 1) w2).setCell ⟨w.heap.size + 1, 0, none⟩ (.int .i64 rk) (fun _ => rfl)).setCell ⟨w.heap.size + 1, 1, none⟩ (.int .i64 rp) (fun _ => rfl)).setCell ⟨w.heap.size + 1, 2, none⟩ (.string rv) (fun _ => rfl))
   clear RX
   go_wp2_with fail
   have R9 := uh HR9
   have z0 := R9.cell 0 rfl
   have z1 := R9.cell 1 rfl
   have z2 := R9.cell 2 rfl
   refine bodyPost_ret (v := .agg #[.int .i64 rk, .int .i64 rp, .string rv]) (by simp [results, Tryz.results18, go_sem, z0, z1, z2]) rfl ?_
   refine ap_tell (uh HUO) ⟨rfl, lv2, tp2, sv2, S2, (uh BK2).keep (uh HT9) (fun k e => by rw [e]; exact uh HR2), uh HAV2, ?_⟩
   exact (uh T2).trans (uh HT9) (fun j hj e => by omega)
  ·clear HOP HSV HDL
   have RX := uh R1
   obtain ⟨⟨rz0, rz1, rz2⟩, fz0, fz1, fz2⟩ := Blk.c3 RX
   have HR9 := Hd (((RX.set 0 (.int .i64 5) (by simp)).set 1 (.int .i64 0) (by simp)).set 2 (.string ⟨#[]⟩) (by simp))
   have HT9 := Hd ((((Touch.refl (fun q => q = w.heap.size + 1) w1).setCell ⟨w.heap.size + 1, 0, none⟩ (.int .i64 5) (fun _ => rfl)).setCell ⟨w.heap.size + 1, 1, none⟩ (.int .i64 0) (fun _ => rfl)).setCell ⟨w.heap.size + 1, 2, none⟩ (.string ⟨#[]⟩) (fun _ => rfl))
   clear RX
   go_wp2_with fail
   have R9 := uh HR9
   have z0 := R9.cell 0 rfl
   have z1 := R9.cell 1 rfl
   have z2 := R9.cell 2 rfl
   refine bodyPost_ret (v := .agg #[.int .i64 5, .int .i64 0, .string ⟨#[]⟩]) (by simp [results, Tryz.results18, go_sem, z0, z1, z2]) rfl ?_
   refine ap_tell (by rw [uh HU, if_pos (uh H4), if_pos (by first | trivial | rfl)]) ⟨rfl, lv, tp, (.slice a ss.length cp), S, (uh BK1).keep (uh HT9) (fun k e => by rw [e]; exact uh HAv _ (by omega)), fun r _ ha => ha, ?_⟩
   exact (Touch.ofBelow (uh K1)).trans (uh HT9) (fun j hj e => by omega)
 have b1 : (c.kd == 4) = false := by rw [beq_eq_false_iff_ne]; exact h4
 have H4 := Hd h4
 clear h4
 cases has
 ·clear HOP HSV HDL
  have RX := uh R1
  obtain ⟨⟨rz0, rz1, rz2⟩, fz0, fz1, fz2⟩ := Blk.c3 RX
  have HR9 := Hd (((RX.set 0 (.int .i64 4) (by simp)).set 1 (.int .i64 0) (by simp)).set 2 (.string ⟨#[]⟩) (by simp))
  have HT9 := Hd ((((Touch.refl (fun q => q = w.heap.size + 1) w1).setCell ⟨w.heap.size + 1, 0, none⟩ (.int .i64 4) (fun _ => rfl)).setCell ⟨w.heap.size + 1, 1, none⟩ (.int .i64 0) (fun _ => rfl)).setCell ⟨w.heap.size + 1, 2, none⟩ (.string ⟨#[]⟩) (fun _ => rfl))
  clear RX
  go_wp2_with fail
  have R9 := uh HR9
  have z0 := R9.cell 0 rfl
  have z1 := R9.cell 1 rfl
  have z2 := R9.cell 2 rfl
  refine bodyPost_ret (v := .agg #[.int .i64 4, .int .i64 0, .string ⟨#[]⟩]) (by simp [results, Tryz.results18, go_sem, z0, z1, z2]) rfl ?_
  refine ap_tell (by rw [uh HU, if_neg (uh H4), if_pos (by first | trivial | rfl)]) ⟨rfl, lv, tp, (.slice a ss.length cp), S, (uh BK1).keep (uh HT9) (fun k e => by rw [e]; exact uh HAv _ (by omega)), fun r _ ha => ha, ?_⟩
  exact (Touch.ofBelow (uh K1)).trans (uh HT9) (fun j hj e => by omega)
 have hq : q < ss.length := uh HHas (by first | trivial | rfl)
 obtain ⟨g, hga⟩ : ∃ g, a = some ⟨g, 0, none⟩ := by
  obtain ⟨g, cap, e, _, _⟩ := World.ownsRow.form (uh BK1).2.2.2.1 (by omega)
  simp only [Value.slice.injEq] at e
  exact ⟨g, e.1⟩
 have HGA := Hd hga
 subst hga
 by_cases h5 : c.kd = 5
 ·have b2 : (c.kd == 5) = true := by rw [h5]; rfl
  have H5 := Hd h5
  clear h5
  have HD1 := Hd (uh HDL w1 g (uh K1) rfl hq)
  have q1 : IntKind.i64.wrap ((q : Int) + 1) = (q : Int) + 1 := wrapSe2 _ (by omega) (by omega)
  have y2 := (uh BK1).1.cell 2 rfl
  have HUO : Hid (apOut ⟨ls, o, ss⟩ c = (⟨ls, o, delS ss q⟩, ⟨1, 0, ⟨#[]⟩⟩)) := Hd (by rw [uh HU, if_neg (uh H4), if_neg (by simp), if_pos (uh H5)])
  clear HOP HSV HDL
  go_wp2_with fail
  refine (uh HD1).mono ?_
  rintro e w2 ⟨v2, rfl, hO2, hat2, hT2⟩
  obtain ⟨a2, n2, c2, rfl⟩ : ∃ a2 n2 c2, v2 = .slice a2 n2 c2 := by
   rcases hO2.2 with ⟨e2, _⟩ | ⟨g4, c4, cu, e2, _⟩
   ·exact ⟨_, _, _, e2⟩
   ·exact ⟨_, _, _, e2⟩
  have X2 := (uh BK1).1.kept (T := fun k => some g = some k) hT2 (uh BK1).2.2.2.2.2.2.2.1
  have z2 := X2.cell 2 rfl
  have fz := X2.fro 2
  obtain ⟨bk2, av2, t2⟩ := (uh BK1).sess (by have := (uh K1).size; omega) hO2 hat2 hT2
  have HR2 := Hd (av2 _ (by have := (uh R1).1; omega) (uh HAv _ (by omega)))
  have R2 := Hd ((uh R1).kept t2 (fun h => h (uh HAv _ (by omega))))
  have T2 := Hd ((Touch.ofBelow (T := fun k => ¬ Av p lv (.slice (some ⟨g, 0, none⟩) ss.length cp) S k) (uh K1)).trans t2 (fun _ _ e => e))
  have HAV2 := Hd (fun r (hr : r < w.heap.size) (ha : Av p lv (.slice (some ⟨g, 0, none⟩) ss.length cp) S r) => av2 r (by have := (uh K1).size; omega) ha)
  have BK2 := Hd bk2
  clear bk2 av2 t2 y0 y2 HD1 hO2 hat2 hT2 X2 q1
  go_upto_region 10 with fail
  clear z2 fz
  generalize w2.setCell ⟨p, 2, none⟩ (.slice a2 n2 c2) = w3 at *
  have hw3 : w.heap.size + 1 < w3.heap.size := (uh R2).1
  have RX := uh R2
  obtain ⟨⟨rz0, rz1, rz2⟩, fz0, fz1, fz2⟩ := Blk.c3 RX
  have HR9 := Hd (((RX.set 0 (.int .i64 1) (by simp)).set 1 (.int .i64 0) (by simp)).set 2 (.string ⟨#[]⟩) (by simp))
  have HT9 := Hd ((((Touch.refl (fun q => q = w.heap.size + 1) w3).setCell ⟨w.heap.size + 1, 0, none⟩ (.int .i64 1) (fun _ => rfl)).setCell ⟨w.heap.size + 1, 1, none⟩ (.int .i64 0) (fun _ => rfl)).setCell ⟨w.heap.size + 1, 2, none⟩ (.string ⟨#[]⟩) (fun _ => rfl))
  clear RX
  go_wp2_with fail
  have R9 := uh HR9
  have z0 := R9.cell 0 rfl
  have z1 := R9.cell 1 rfl
  have z2 := R9.cell 2 rfl
  refine bodyPost_ret (v := .agg #[.int .i64 1, .int .i64 0, .string ⟨#[]⟩]) (by simp [results, Tryz.results18, go_sem, z0, z1, z2]) rfl ?_
  refine ap_tell (uh HUO) ⟨rfl, lv, tp, .slice a2 n2 c2, S, (uh BK2).keep (uh HT9) (fun k e => by rw [e]; exact uh HR2), uh HAV2, ?_⟩
  exact (uh T2).trans (uh HT9) (fun j hj e => by omega)
 have b2 : (c.kd == 5) = false := by rw [beq_eq_false_iff_ne]; exact h5
 have HUO : Hid (apOut ⟨ls, o, ss⟩ c = svOut ⟨ls, o, ss⟩ c q) := Hd (by rw [uh HU, if_neg (uh H4), if_neg (by simp), if_neg h5])
 have hb2 := below_drewN (Below.refl w1.heap.size w1) 1
 have K3 := hbt K1 hb2
 change Hid (Below w.heap.size w w1.drew) at K3
 have HV1 := Hd (uh HSV w1.drew g (uh K3) (uh H4) h5 rfl hq)
 generalize svOut ⟨ls, o, ss⟩ c q = out at *
 obtain ⟨⟨lsN, oN, ssN⟩, ⟨rk, rp, rv⟩⟩ := out
 have y2 := (uh BK1).1.cell 2 rfl
 have hcl : w.heap.size < w1.drew.heap.size := (uh C1).1
 obtain ⟨x0, x1, x2, x3, x4⟩ := Blk.c5 (uh C1)
 have m0 : (0 : Int) ≤ (q : Int) := by omega
 have m1 : (q : Int) < (ss.length : Int) := by omega
 clear HOP HSV HDL hb2 h5
 go_upto_region 11 with fail
 clear y0
 refine wp_region_noPanic ?_
 refine wp_region_held_drew (S := (fun wx => wx.cell? ⟨w.heap.size, 0, none⟩ = some (.int .i64 c.kd) ∧ wx.cell? ⟨w.heap.size, 1, none⟩ = some (.int .i64 c.ss) ∧ wx.cell? ⟨w.heap.size, 2, none⟩ = some (.int .i64 c.sq) ∧ wx.cell? ⟨w.heap.size, 3, none⟩ = some (.string c.ky) ∧ wx.cell? ⟨w.heap.size, 4, none⟩ = some (.string c.vl))) (by kernel_rfl) ?_ (fun hHeld => ?_)
 ·exact ⟨x0, x1, x2, x3, x4⟩
 refine tkH 0 rfl ?_
 refine tkH 1 rfl ?_
 refine tkH 2 rfl ?_
 refine tkH 3 rfl ?_
 refine tkH 5 rfl ?_
 refine tkH 7 rfl ?_
 refine rdy1 4 rfl (fun K hK => ?_)
 have y3 : w1.drew.cell? ⟨p, 2, none⟩ = some (.slice (some ⟨g, 0, none⟩) ss.length cp) := y2
 go_simp
 refine hK.out _ _ ?_ (fun hHeld => ?_)
 ·exact ⟨x0, x1, x2, x3, x4⟩
 clear hK K y3
 (try simp only [Act.put, List.getElem_toArray, List.getElem_cons_succ, List.getElem_cons_zero, List.setIfInBounds_toArray, List.set_cons_zero, List.set_cons_succ])
 refine tkH 6 rfl ?_
 refine rdy1 8 rfl (fun K hK => ?_)
 go_simp
 refine (uh HV1).mono ?_
 rintro e w2 ⟨rfl, lv2, tp2, sv2, S2, bk2, av2, t2⟩
 dsimp only at bk2
 have k0 := fun i => touch_cell t2 w.heap.size i hcl (fun h => h (uh HAv _ (Nat.le_refl _)))
 have HR2 := Hd (av2 _ (show w.heap.size + 1 < w1.drew.heap.size from hw1) (uh HAv _ (by omega)))
 have R2 := Hd (((uh R1).drewN 1).kept t2 (fun h => h (uh HAv _ (by omega))))
 have T2 := Hd ((Touch.ofBelow (T := fun k => ¬ Av p lv (.slice (some ⟨g, 0, none⟩) ss.length cp) S k) (uh K3)).trans t2 (fun _ _ e => e))
 have HAV2 := Hd (fun r (hr : r < w.heap.size) (ha : Av p lv (.slice (some ⟨g, 0, none⟩) ss.length cp) S r) => av2 r (by have := (uh K3).size; omega) ha)
 have BK2 := Hd bk2
 have x30 := (k0 0).trans x0
 have x31 := (k0 1).trans x1
 have x32 := (k0 2).trans x2
 have x33 := (k0 3).trans x3
 have x34 := (k0 4).trans x4
 have hw2 : w.heap.size + 1 < w2.heap.size := (uh R2).1
 clear bk2 av2 t2 k0 HV1
 go_wp2_with fail
 refine outH hK ?_ (fun hHeld => ?_)
 ·exact ⟨x30, x31, x32, x33, x34⟩
 clear hK K
 have RX := uh R2
 obtain ⟨⟨rz0, rz1, rz2⟩, fz0, fz1, fz2⟩ := Blk.c3 RX
 have HR9 := Hd (((RX.set 0 (.int .i64 rk) (by simp)).set 1 (.int .i64 rp) (by simp)).set 2 (.string rv) (by simp))
 have HT9 := Hd ((((Touch.refl (fun q => q = w.heap.size + 1) w2).setCell ⟨w.heap.size + 1, 0, none⟩ (.int .i64 rk) (fun _ => rfl)).setCell ⟨w.heap.size + 1, 1, none⟩ (.int .i64 rp) (fun _ => rfl)).setCell ⟨w.heap.size + 1, 2, none⟩ (.string rv) (fun _ => rfl))
 clear RX
 refine rdy1 9 rfl (fun K hK => ?_)
 go_simp
 refine outH hK ?_ (fun hHeld => ?_)
 ·exact ⟨by go_simp, by go_simp, by go_simp, by go_simp, by go_simp⟩
 clear hK K
 refine wpAnyH_done (by kernel_rfl) (NoPanic.normal ?_) _
 clear hHeld
 go_wp2_with fail
 have R9 := uh HR9
 have z0 := R9.cell 0 rfl
 have z1 := R9.cell 1 rfl
 have z2 := R9.cell 2 rfl
 refine bodyPost_ret (v := .agg #[.int .i64 rk, .int .i64 rp, .string rv]) (by simp [results, Tryz.results18, go_sem, z0, z1, z2]) rfl ?_
 refine ap_tell (uh HUO) ⟨rfl, lv2, tp2, sv2, S2, (uh BK2).keep (uh HT9) (fun k e => by rw [e]; exact uh HR2), uh HAV2, ?_⟩
 exact (uh T2).trans (uh HT9) (fun j hj e => by omega)
theorem branch_o {w0 : World} {S : Nat → Prop} {tp : Option Addr} {o : Option Tr} (h : PtrM w0 S tp o) (hok : OkO o) (w : World) (hb : Below w0.heap.size w0 w) :
  Calls Tryz.prog 33 #[.pointer tp] w fun e w' => BranchR (brOf o) w e w' := by
 cases o with
 | none => obtain rfl : tp = none := h; exact branch_nil w
 | some t => obtain ⟨q, rfl, hn⟩ := h; exact branch_any hn hok w hb
theorem ledger_any (B p : Nat) (lv sv : Value) (tp : Option Addr) (S : Nat → Prop) (ls : List ByteArray) (o : Option Tr) (ss : List Se) (w : World) (hk : Bk B w p lv tp sv S ls o ss) (hok : OkO o) (hB : B ≤ w.heap.size) :
  Calls Tryz.prog 19 #[.pointer (some ⟨p, 0, none⟩)] w fun e w' => ∃ kv, e = .returned (.agg #[lv, .string (brOf o).key, .string (brOf o).val, .int .i64 (brOf o).at_, kv, sv]) ∧ OwnS B w' lv ls ∧ OwnSe B w' sv ss ∧ (∀ x, lv.ownBlock = some x → sv.ownBlock ≠ some x) ∧ BrO w' (fun x => w.heap.size ≤ x ∧ x < w'.heap.size) kv (brOf o).kids ∧ Below w.heap.size w w' := by
 obtain ⟨la, lc, e1, _⟩ := hk.2.2.1.strs
 obtain ⟨sa, sc, e2, _⟩ := hk.2.2.2.1.read
 subst e1
 subst e2
 have HBK := Hd hk
 have hpp := hk.1.1
 have HBR := Hd (fun wx (hx : Below w.heap.size w wx) => branch_o hk.2.2.2.2.1 hok wx hx)
 have B0 := Hd (bal w (.cells #[.slice none 0 0, .string ⟨#[]⟩, .string ⟨#[]⟩, .int .i64 0, .slice none 0 0, .slice none 0 0] 42))
 have R0 := Hd (Blk.new w #[.slice none 0 0, .string ⟨#[]⟩, .string ⟨#[]⟩, .int .i64 0, .slice none 0 0, .slice none 0 0] 42 w.heap.size rfl)
 have P0 := Hd (hk.1.alloc (.cells #[.slice none 0 0, .string ⟨#[]⟩, .string ⟨#[]⟩, .int .i64 0, .slice none 0 0, .slice none 0 0] 42))
 clear hk
 generalize ls.length = ln at *
 generalize ss.length = sn at *
 obtain ⟨bN, hbN⟩ : ∃ bN, bN = brOf o := ⟨_, rfl⟩
 rw [← hbN] at HBR ⊢
 clear hbN
 go_enter Tryz.func19, Tryz.ntmps19
 go_upto_region 1 with fail
 generalize w.alloc (.cells #[.slice none 0 0, .string ⟨#[]⟩, .string ⟨#[]⟩, .int .i64 0, .slice none 0 0, .slice none 0 0] 42) = w0 at *
 have hw0 : w.heap.size < w0.heap.size := (uh R0).1
 have hp0 : p < w0.heap.size := by omega
 have x0 := (uh P0).cell 0 rfl
 have x1 := (uh P0).cell 1 rfl
 have x2 := (uh P0).cell 2 rfl
 refine wp_region_noPanic ?_
 refine wp_region_held_drew (S := (fun wx => wx.cell? ⟨p, 0, none⟩ = some (.slice la ln lc) ∧ wx.cell? ⟨p, 1, none⟩ = some (.pointer tp) ∧ wx.cell? ⟨p, 2, none⟩ = some (.slice sa sn sc))) (by kernel_rfl) ?_ (fun hHeld => ?_)
 ·exact ⟨x0, x1, x2⟩
 refine tkH 0 rfl ?_
 refine tkH 1 rfl ?_
 refine tkH 2 rfl ?_
 refine tkH 3 rfl ?_
 refine tkH 4 rfl ?_
 refine tkH 5 rfl ?_
 refine tkH 6 rfl ?_
 refine tkH 7 rfl ?_
 refine tkH 8 rfl ?_
 refine tkH 9 rfl ?_
 refine tkH 11 rfl ?_
 refine tkH 12 rfl ?_
 refine tkH 13 rfl ?_
 refine tkH 14 rfl ?_
 have hdr := below_drewN (Below.refl w0.heap.size w0) 1
 have K1 := hbt B0 hdr
 have R1 := Hd ((uh R0).below hdr)
 have P1 := Hd ((uh P0).below hdr)
 change Hid (Below w.heap.size w w0.drew) at K1
 change Hid (Blk w0.drew _ _) at R1
 change Hid (Blk w0.drew _ _) at P1
 clear hdr B0 R0 P0 x0 x1 x2 hw0 hp0
 generalize w0.drew = w1 at *
 have hw1 : w.heap.size < w1.heap.size := (uh R1).1
 have hp1 : p < w1.heap.size := by omega
 have x0 := (uh P1).cell 0 rfl
 have x1 := (uh P1).cell 1 rfl
 have x2 := (uh P1).cell 2 rfl
 have HB1 := Hd (uh HBR w1 (uh K1))
 refine rdy1 10 rfl (fun K hK => ?_)
 go_simp
 refine (uh HB1).mono ?_
 rintro e w3 ⟨ka, kn, kc, rfl, hbo, hb3⟩
 have HBO := Hd hbo
 have HB3 := Hd hb3
 have K3 := hbt K1 hb3
 have R3 := Hd ((uh R1).below hb3)
 have hs3 := hb3.size
 go_wp2_with fail
 refine outH hK ?_ (fun hHeld => ?_)
 ·exact ⟨(hb3.cell (p := ⟨p, 0, none⟩) hp1).trans x0, (hb3.cell (p := ⟨p, 1, none⟩) hp1).trans x1, (hb3.cell (p := ⟨p, 2, none⟩) hp1).trans x2⟩
 clear hK K
 refine tkH 15 rfl ?_
 obtain ⟨⟨r0, r1, r2, r3, r4, r5⟩, _⟩ := Blk.c6 (uh R3)
 have rf0 := (uh R3).fro 0
 have rf1 := (uh R3).fro 1
 have rf2 := (uh R3).fro 2
 have rf3 := (uh R3).fro 3
 have rf4 := (uh R3).fro 4
 have rf5 := (uh R3).fro 5
 have T9 := (((((((Touch.refl (fun x => x = w.heap.size) w3).setCell ⟨w.heap.size, 0, none⟩ (.slice la ln lc) (fun _ => rfl)).setCell ⟨w.heap.size, 1, none⟩ (.string bN.key) (fun _ => rfl)).setCell ⟨w.heap.size, 2, none⟩ (.string bN.val) (fun _ => rfl)).setCell ⟨w.heap.size, 3, none⟩ (.int .i64 bN.at_) (fun _ => rfl)).setCell ⟨w.heap.size, 4, none⟩ (.slice ka kn kc) (fun _ => rfl)).setCell ⟨w.heap.size, 5, none⟩ (.slice sa sn sc) (fun _ => rfl))
 have R9 := Hd (((((((uh R3).set 0 (.slice la ln lc) (by simp)).set 1 (.string bN.key) (by simp)).set 2 (.string bN.val) (by simp)).set 3 (.int .i64 bN.at_) (by simp)).set 4 (.slice ka kn kc) (by simp)).set 5 (.slice sa sn sc) (by simp))
 have hkc := fun (i : Nat) (v : Value) (h : w1.cell? ⟨p, i, none⟩ = some v) => (T9.cell (p := ⟨p, i, none⟩) (show p < w3.heap.size by omega) (show ¬ p = w.heap.size by omega)).trans ((hb3.cell (p := ⟨p, i, none⟩) hp1).trans h)
 refine rdy1 16 rfl (fun K hK => ?_)
 go_simp
 refine outH hK ?_ (fun hHeld => ?_)
 ·exact ⟨hkc _ _ x0, hkc _ _ x1, hkc _ _ x2⟩
 clear hK K
 refine wpAnyH_done (by kernel_rfl) (NoPanic.normal ?_) _
 clear hHeld hkc
 have K9 := Hd ((uh K3).trans (T9.below (uh K3).size (fun x hx e => by omega)))
 have HO9 := Hd (hbo.touch T9 (fun x hx e => by have := hx.1; omega))
 have hs9 := T9.size
 clear T9 hbo hb3
 generalize ((((((w3.setCell ⟨w.heap.size, 0, none⟩ (.slice la ln lc)).setCell ⟨w.heap.size, 1, none⟩ (.string bN.key)).setCell ⟨w.heap.size, 2, none⟩ (.string bN.val)).setCell ⟨w.heap.size, 3, none⟩ (.int .i64 bN.at_)).setCell ⟨w.heap.size, 4, none⟩ (.slice ka kn kc)).setCell ⟨w.heap.size, 5, none⟩ (.slice sa sn sc)) = w9 at *
 go_wp2_with fail
 have R9' := uh R9
 obtain ⟨⟨z0, z1, z2, z3, z4, z5⟩, _⟩ := Blk.c6 R9'
 refine bodyPost_ret (v := .agg #[.slice la ln lc, .string bN.key, .string bN.val, .int .i64 bN.at_, .slice ka kn kc, .slice sa sn sc]) (by simp [results, Tryz.results19, go_sem, z0, z1, z2, z3, z4, z5]) rfl ?_
 obtain ⟨h1, h2, h3, h4, h5, h6, h7, h8, h9⟩ := (uh HBK).below (uh K9)
 exact ⟨_, rfl, h3, h4, h9, (uh HO9).mono (fun x hx => ⟨by have := hx.1; omega, by have := hx.2; omega⟩), uh K9⟩
end Go.Proofs.YtlbcdngidfjogaaGreatDoor.Sha
namespace Go.Proofs.YtlbcdngidfjogaaGreatDoor
set_option maxRecDepth 100000
set_option maxHeartbeats 8000000
open Go.ChangeShapes Go.WideShapes Go.ChangeAt Go.RowKit
set_option linter.unusedVariables false
theorem wrapU (n : Int) : IntKind.u8.wrap n = n % 256 := by simp [IntKind.wrap, IntKind.bits, IntKind.signed]
theorem l02Two_any (n : Int) (w : World) (h0 : 0 ≤ n) (h1 : n < 4294967296) :
  Calls Tryz.prog 68 #[.int .i64 n] w fun e w' => e = .returned (.slice (some ⟨w.heap.size, 0, none⟩) 2 2) ∧ w' = w.alloc (.cells #[.int .u8 (n / 256 % 256), .int .u8 (n % 256)] 5) := by
 have m1 := wrapU (n / 256)
 have m2 := wrapU n
 go_enter Tryz.func68, Tryz.ntmps68
 go_wp2_with fail
 go_ret
 exact ⟨rfl, rfl⟩
theorem own_text {B n1 n2 : Nat} {w w1 w2 : World} {v v1 v2 : Value} {l : List Int} {s : ByteArray} (hl : OwnB B w v l) (h1 : w1.ownsRow B 5 1 v1 n1 (l.map (Value.int .u8) ++ [Value.int .u8 (s.size : Int)])) (hs : s.size ≤ 255)
  (h2 : w2.ownsRow B 5 1 v2 n2 ((l.map (Value.int .u8) ++ [Value.int .u8 (s.size : Int)]) ++ Lib.strCells s)) : OwnB B w2 v2 (l ++ textsL [s]) := by
 have e : (l.map (Value.int .u8) ++ [Value.int .u8 (s.size : Int)]) ++ Lib.strCells s = (l ++ textsL [s]).map (Value.int .u8) := by
  rw [strCells_eq]; simp [textsL]
 rw [e] at h2
 have hn : (l ++ textsL [s]).length = n2 := by have := h2.1; simpa using this
 subst hn
 refine ⟨h2, range_append hl.2 (fun i => ?_)⟩
 cases i with
 | zero => simp [textsL]; omega
 | succ i => simpa [textsL] using bytesI_range s i
theorem textsL_two (a b : ByteArray) : textsL [a] ++ textsL [b] = textsL [a, b] := by simp [textsL]

theorem l02Bytes_any (k s q : Int) (key val : ByteArray) (w : World) (hk0 : 0 ≤ k) (hk1 : k ≤ 255) (hs0 : 0 ≤ s) (hs1 : s ≤ 65535) (hq0 : 0 ≤ q) (hq1 : q ≤ 65535) (hk : key.size ≤ 255) (hv : val.size ≤ 255) :
  Calls Tryz.prog 49 #[.agg #[.int .i64 k, .int .i64 s, .int .i64 q, .string key, .string val]] w fun e w' => ∃ v', e = .returned v' ∧ OwnB w.heap.size w' v' (cmdBytes k s q key val) ∧ Below w.heap.size w w' := by
 obtain ⟨i0, hi, hz0, hz1, hz2⟩ := info_parts info5
 have m1 : IntKind.u8.wrap k = k := by rw [wrapU]; omega
 have m2 : IntKind.u8.wrap (key.size : Int) = (key.size : Int) := by rw [wrapU]; omega
 have m3 : IntKind.u8.wrap (val.size : Int) = (val.size : Int) := by rw [wrapU]; omega
 go_enter Tryz.func49, Tryz.ntmps49
 go_wp2_with fail
 obtain ⟨c0, c1, c2, c3, c4⟩ := five_cell (w := w) (t := 31) (a := .int .i64 k) (b := .int .i64 s) (c := .int .i64 q) (d := .string key) (e := .string val) rfl (Below.refl _ _)
 have hB : w.heap.size < (w.alloc (.cells #[.int .i64 k, .int .i64 s, .int .i64 q, .string key, .string val] 31)).heap.size := by simp
 have HB0 := Hd (bal w (.cells #[.int .i64 k, .int .i64 s, .int .i64 q, .string key, .string val] 31))
 generalize w.alloc (.cells #[.int .i64 k, .int .i64 s, .int .i64 q, .string key, .string val] 31) = w0 at *
 obtain ⟨bx, hbx⟩ : ∃ bx, bx = w.heap.size := ⟨_, rfl⟩
 rw [← hbx] at hB c0 c1 c2 c3 c4 ⊢
 have HBX := Hd hbx
 clear hbx
 go_region_held3 (fun wx => wx.cell? ⟨bx, 0, none⟩ = some (.int .i64 k) ∧ wx.cell? ⟨bx, 1, none⟩ = some (.int .i64 s)) (go_keep)
  (first
   | (go_at_call 68; refine (l02Two_any _ _ hs0 (by omega)).mono ?_; rintro e w' ⟨rfl, rfl⟩)
   | (refine step_append_lies _ (by rfl) _ _ _ (by rfl) (bx + 1) 5 i0 _ 1 1 Tryz.underlying22 hi hz0 hz1 hz2 rfl (by omega) _ 1 _ (by rfl) (own_lit (by first | (refine (heap_old ?_).trans (heap_new ?_) <;> simp <;> done) | (refine heap_new ?_; simp <;> done)) (by omega) rfl (by unfold maxLen; omega)) _ 2 2 [_, _] (by rfl) (by rfl) (World.news_of_block (cs := #[_, _]) (t := 5) (fr := (0, 0)) (by first | (refine (heap_old ?_).trans (heap_new ?_) <;> simp <;> done) | (refine heap_new ?_; simp <;> done))) (by simp [Value.oneCell']) (by omega) (by unfold maxLen; omega) (by omega) (by simp; omega) _ rfl ?_; intro gg capg w1 hown1 hgrow hat hlt1; have hb1 : Below (bx + 1) w0 w1 := ((((Below.refl (bx + 1) w0).alloc (by omega) _).alloc (by simp; omega) _).drew).grown hgrow (by simp; omega) (fun r hr => by simp [Value.ownBlock] at hr; omega); have k0 := (hb1.cell (p := ⟨bx, 0, none⟩) (by simp)).trans c0; have k1 := (hb1.cell (p := ⟨bx, 1, none⟩) (by simp)).trans c1))
 all_goals
  have O1 : Hid (OwnB (bx + 1) w1 (.slice (some ⟨gg, 0, none⟩) 3 capg) [k, s / 256 % 256, s % 256]) := Hd ⟨hown1, fun i => by
   match i with
   | 0 => simp; omega
   | 1 => simp; omega
   | 2 => simp; omega
   | i + 3 => simp⟩
  have HB1 := Hd hb1
  have k2 := (hb1.cell (p := ⟨bx, 2, none⟩) (by simp)).trans c2
  have hsz1 : bx < w1.heap.size := by have := hb1.size; omega
  clear hown1 hgrow hat hlt1 hb1
  rename_i hHeld
  clear hHeld
  go_wp2_with fail
  refine (l02Two_any q w1 hq0 (by omega)).mono ?_
  rintro e w' ⟨rfl, rfl⟩
  go_wp2_with (at_builtin; refine wpList_append_lies _ rfl _ _ _ rfl (bx + 1) 5 i0 _ 1 1 Tryz.underlying22 hi hz0 hz1 hz2 rfl (by omega) _ 3 _ rfl ((uh O1).1.alloc _) ⟨w1.heap.size, 0, none⟩ 2 2 [_, _] rfl rfl (World.news_of_block (cs := #[_, _]) (t := 5) (fr := (0, 0)) (heap_alloc_new w1 _)) (by simp [Value.oneCell']) (by omega) (by unfold maxLen; omega) (by omega) (by simp; omega) _ rfl ?_; intro g2 cap2 w2 hown2 hgrow2 hat2 hlt2)
  have O2 : Hid (OwnB (bx + 1) w2 (.slice (some ⟨g2, 0, none⟩) 5 cap2) [k, s / 256 % 256, s % 256, q / 256 % 256, q % 256]) := Hd ⟨hown2, fun i => by
   match i with
   | 0 => simp; omega
   | 1 => simp; omega
   | 2 => simp; omega
   | 3 => simp; omega
   | 4 => simp; omega
   | i + 5 => simp⟩
  have hb2 : Below (bx + 1) w0 w2 := ((uh HB1).alloc (by omega) _).grown hgrow2 (by simp; omega) (fun r hr => ((uh O1).1.lt r hr).1)
  have HB2 := Hd hb2
  have k3 := (hb2.cell (p := ⟨bx, 3, none⟩) (by simp)).trans c3
  have hsz2 : bx < w2.heap.size := by have := hb2.size; omega
  clear hown2 hgrow2 hat2 hlt2 hb2 k0 k1 k2
  have P2 : Hid (w2.ownsRow (bx + 1) 5 1 (.slice (some ⟨g2, 0, none⟩) 5 cap2) 5 (List.map (Value.int .u8) [k, s / 256 % 256, s % 256, q / 256 % 256, q % 256])) := Hd (uh O2).1
  go_region_held3 (fun wx => wx.cell? ⟨bx, 3, none⟩ = some (.string key)) (go_keep)
   (first
    | (refine step_append_str _ rfl _ _ _ _ rfl (bx + 1) 5 i0 Tryz.underlying22 Tryz.underlying9 hi hz0 hz1 hz2 _ (5 + 1) _ rfl hown3 key rfl (by omega) (by omega) (by omega) ?_; intro g4 cap4 w4 hown4 hgrow4 hat4; have hb4 : Below (bx + 1) w0 w4 := hb3.grown hgrow4 (by omega) (fun r hr => (hown3.lt r hr).1); have k3'' := (hb4.cell (p := ⟨bx, 3, none⟩) (by simp)).trans c3)
    | (refine step_append_lies _ rfl _ _ _ rfl (bx + 1) 5 i0 _ 1 1 Tryz.underlying22 hi hz0 hz1 hz2 rfl (by omega) _ (5) _ rfl (((uh P2).alloc _).drew) ⟨w2.heap.size, 0, none⟩ 1 1 [_] rfl rfl (World.news_of_block (cs := #[_]) (t := 5) (fr := (0, 0)) (heap_alloc_new w2 _)) (by simp [Value.oneCell']) (by omega) (by unfold maxLen; omega) (by omega) (by simp; omega) _ rfl ?_; intro g3 cap3 w3 hown3 hgrow3 hat3 hlt3; have hb3 : Below (bx + 1) w0 w3 := (((uh HB2).alloc (by omega) _).drew).grown hgrow3 (by simp; omega) (fun r hr => ((uh P2).lt r hr).1); have hsz3 : bx < w3.heap.size := (by have := hb3.size; omega); have k3' := (hb3.cell (p := ⟨bx, 3, none⟩) (by simp)).trans c3))
  have O4 := Hd (own_text (uh O2) hown3 hk hown4)
  have HB4 := Hd hb4
  have k4 := (hb4.cell (p := ⟨bx, 4, none⟩) (by simp)).trans c4
  have hsz4 : bx < w4.heap.size := by have := hb4.size; omega
  have P4 := Hd hown4
  clear hown3 hgrow3 hat3 hlt3 hb3 k3 k3' hown4 hgrow4 hat4 hb4 k3''
  rename_i hHeld3
  clear hHeld3
  go_wp2_with fail
  have P5 : Hid (w4.ownsRow (bx + 1) 5 1 (.slice (some ⟨g4, 0, none⟩) (5 + 1 + key.size) cap4) (5 + 1 + key.size) (List.map (Value.int .u8) ([k, s / 256 % 256, s % 256, q / 256 % 256, q % 256] ++ textsL [key]))) := Hd (by
   have h := (uh O4).1
   have hn : ([k, s / 256 % 256, s % 256, q / 256 % 256, q % 256] ++ textsL [key]).length = 5 + 1 + key.size := by simp [textsL_len, sizes]; omega
   rw [hn] at h; exact h)
  go_region_held3 (fun wx => wx.cell? ⟨bx, 4, none⟩ = some (.string val)) (go_keep)
   (first
    | (refine step_append_str _ rfl _ _ _ _ rfl (bx + 1) 5 i0 Tryz.underlying22 Tryz.underlying9 hi hz0 hz1 hz2 _ (5 + 1 + key.size + 1) _ rfl hown5 val rfl (by omega) (by omega) (by omega) ?_; intro g6 cap6 w6 hown6 hgrow6 hat6; have hb6 : Below (bx + 1) w0 w6 := hb5.grown hgrow6 (by omega) (fun r hr => (hown5.lt r hr).1); have k4'' := (hb6.cell (p := ⟨bx, 4, none⟩) (by simp)).trans c4)
    | (refine step_append_lies _ rfl _ _ _ rfl (bx + 1) 5 i0 _ 1 1 Tryz.underlying22 hi hz0 hz1 hz2 rfl (by omega) _ (5 + 1 + key.size) _ rfl (((uh P5).alloc _).drew) ⟨w4.heap.size, 0, none⟩ 1 1 [_] rfl rfl (World.news_of_block (cs := #[_]) (t := 5) (fr := (0, 0)) (heap_alloc_new w4 _)) (by simp [Value.oneCell']) (by omega) (by unfold maxLen; omega) (by omega) (by simp; omega) _ rfl ?_; intro g5 cap5 w5 hown5 hgrow5 hat5 hlt5; have hb5 : Below (bx + 1) w0 w5 := (((uh HB4).alloc (by omega) _).drew).grown hgrow5 (by simp; omega) (fun r hr => ((uh P5).lt r hr).1); have hsz5 : bx < w5.heap.size := (by have := hb5.size; omega); have k4' := (hb5.cell (p := ⟨bx, 4, none⟩) (by simp)).trans c4))
  have O6 := Hd (own_text (uh O4) hown5 hv hown6)
  have HB6 := Hd hb6
  clear hown5 hgrow5 hat5 hlt5 hb5 k4 k4' hown6 hgrow6 hat6 hb6 k4''
  rename_i hHeld4
  clear hHeld4
  go_wp2_with fail
  go_ret
  rw [← uh HBX]
  refine ⟨_, rfl, ?_, by rw [uh HBX]; exact (uh HB0).trans ((uh HB6).mono (by have := uh HBX; omega))⟩
  have h := (uh O6).mono (B' := bx) (by omega)
  have e : [k, s / 256 % 256, s % 256, q / 256 % 256, q % 256] ++ textsL [key] ++ textsL [val] = cmdBytes k s q key val := by
   rw [List.append_assoc, textsL_two]; simp [cmdBytes, encN]; omega
  rw [e] at h
  exact h
end Go.Proofs.YtlbcdngidfjogaaGreatDoor
namespace Go.Proofs.YtlbcdngidfjogaaGreatDoor.Sha
set_option maxRecDepth 100000
set_option maxHeartbeats 8000000
open Go.ChangeShapes Go.WideShapes Go.ChangeAt Go.RowKit Go.Deep
set_option linter.unusedVariables false
set_option linter.unusedSimpArgs false
def Fin (w : World) (B n : Nat) : Prop := B < w.heap.size ∧ ∀ j, n ≤ j → w.cell? ⟨B, j, none⟩ = none
theorem Fin.new (w : World) (cs : Array Value) (t : TypeId) (B n : Nat) (hB : w.heap.size = B) (hn : cs.size ≤ n) : Fin (w.alloc (.cells cs t)) B n := by
 subst hB
 refine ⟨by simp, fun j hj => ?_⟩
 rw [World.cell?_alloc_at _ _ _ _ rfl]
 simp
 omega
theorem Fin.kept {T : Nat → Prop} {w w' : World} {B n : Nat} (h : Fin w B n) (ht : Touch T w w') (hn : ¬ T B) : Fin w' B n :=
 ⟨Nat.lt_of_lt_of_le h.1 ht.size, fun j hj => (ht.cell (p := ⟨B, j, none⟩) h.1 hn).trans (h.2 j hj)⟩
theorem Fin.below {w w' : World} {B n : Nat} (h : Fin w B n) (hb : Below w.heap.size w w') : Fin w' B n := h.kept (T := fun _ => False) (Touch.ofBelow hb) (fun h => h)
theorem Fin.alloc {w : World} {B n : Nat} (h : Fin w B n) (o : Obj) : Fin (w.alloc o) B n := h.kept (T := fun _ => False) ((Touch.refl _ _).alloc o) (fun h => h)
theorem Fin.set {w : World} {B n : Nat} (h : Fin w B n) (j : Nat) (v : Value) (hj : j < n) : Fin (w.setCell ⟨B, j, none⟩ v) B n :=
 ⟨by have := h.1; simpa using this, fun i hi => by rw [World.cell?_setCell_other _ _ _ _ (by simp; try omega)]; exact h.2 i hi⟩
theorem Brs.boundS {S : Nat → Prop} {w : World} {v : Value} {l : List Br} (h : Brs S w v l) : Brs (fun x => S x ∧ x < w.heap.size) w v l := by
 induction h with
 | nil a cap hc => exact .nil a cap hc
 | row b off cap l kv h0 h1 h2 h3 h4 h5 h6 h7 ih => exact .row b off cap l kv h0 h1 h2 h3 ⟨h4, h3⟩ h5 h6 ih
theorem Brs.small {S T : Nat → Prop} {w : World} (hT : ∀ k, T k → Fin w k 7) : ∀ (t : Tr) (v : Value), Brs S w v t.toBr.kids → Brs (fun x => S x ∧ ¬ T x) w v t.toBr.kids := by
 intro t
 induction t with
 | leaf k v =>
  intro v2 h
  have e : (Tr.leaf k v).toBr.kids = [] := rfl
  cases h with
  | nil a cap hc => exact .nil a cap hc
  | row b off cap l kv h0 h1 h2 h3 h4 h5 h6 h7 => exact absurd h0 (by rw [e]; simp)
 | fork a hh l r ihl ihr =>
  intro v h
  have e : (Tr.fork a hh l r).toBr.kids = [l.toBr, r.toBr] := rfl
  rw [e] at h ⊢
  cases h with
  | row b off cap l kv h0 h1 h2 h3 h4 h5 h6 h7 =>
   refine .row b off cap _ kv h0 h1 h2 h3 ⟨h4, fun ht => ?_⟩ h5 h6 (fun i hi => ?_)
   ·have := (h5 1 (by simp)).2.2.2
    rw [(hT b ht).2 _ (by omega)] at this
    cases this
   ·have hi2 : i = 0 ∨ i = 1 := by simp at hi; omega
    rcases hi2 with rfl | rfl
    ·exact ihl _ (h7 0 (by simp))
    ·exact ihr _ (h7 1 (by simp))
theorem Brs.smallO {S T : Nat → Prop} {w : World} (hT : ∀ k, T k → Fin w k 7) (o : Option Tr) (v : Value) (h : Brs S w v (brOf o).kids) : Brs (fun x => S x ∧ ¬ T x) w v (brOf o).kids := by
 cases o with
 | some t => exact Brs.small hT t v h
 | none =>
  have e : (brOf none).kids = [] := rfl
  rw [e] at h ⊢
  cases h with
  | nil a cap hc => exact .nil a cap hc
  | row b off cap l kv h0 h1 h2 h3 h4 h5 h6 h7 => exact absurd h0 (by simp)
def Fresh (H : Nat) (v0 v : Value) : Prop := v = v0 ∨ ∀ k, v.ownBlock = some k → H ≤ k
theorem own_fresh {B H : Nat} {e : TypeId} {sz n : Nat} {w : World} {v v0 : Value} {xs : List Value} (h : w.ownsRow B e sz v n xs) (hH : H ≤ B) : Fresh H v0 v := .inr (fun k hk => Nat.le_trans hH (World.ownsRow.lt h k hk).1)
end Go.Proofs.YtlbcdngidfjogaaGreatDoor.Sha
