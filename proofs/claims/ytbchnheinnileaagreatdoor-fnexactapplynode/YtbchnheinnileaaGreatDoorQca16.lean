/- What the proof of the claim needs (joined by program): ApS ApX. -/
import Derived.Test.YtbchnheinnileaaGreatDoorQca12
import Derived.Test.YtbchnheinnileaaGreatDoorQca11
import Derived.Test.YtbchnheinnileaaGreatDoorQca10
namespace Go.Proofs.YtbchnheinnileaaGreatDoor.Sha
set_option maxRecDepth 100000
set_option maxHeartbeats 8000000
open Go.ChangeShapes Go.WideShapes Go.ChangeAt Go.RowKit Go.Deep
set_option linter.unusedVariables false
set_option linter.unusedSimpArgs false
def ApR (B p : Nat) (lv sv : Value) (S : Nat → Prop) (out : Lst × Re) (w : World) (e : Ending) (w' : World) : Prop :=
 e = .returned (.agg #[.int .i64 out.2.kd, .int .i64 out.2.pl, .string out.2.vl]) ∧ ∃ lv' tp' sv' S', Bk B w' p lv' tp' sv' S' out.1.ls out.1.o out.1.ss ∧ (∀ r, r < w.heap.size → Av p lv sv S r → Av p lv' sv' S' r) ∧ Touch (fun q => ¬ Av p lv sv S q) w w'
theorem ap_tell {B p : Nat} {lv sv : Value} {S : Nat → Prop} {x y : Lst × Re} {w w' : World} {e : Ending} (he : x = y) (h : ApR B p lv sv S y w e w') : ApR B p lv sv S x w e w' := by rw [he]; exact h
theorem set_same {l : List Value} {i : Nat} {v : Value} (h : l[i]? = some v) : l.set i v = l := by
 apply List.ext_getElem?
 intro j
 rw [List.getElem?_set]
 by_cases e : i = j
 ·subst e
  have hl := (List.getElem?_eq_some_iff.1 h).1
  rw [if_pos rfl, if_pos hl, h]
 ·rw [if_neg e]
theorem sesC_set4 (ss : List Se) (q : Nat) (a b : Int) (d : Int) (t : ByteArray) (hq : q < ss.length) : ((((sesC ss).set (q * 5 + 1) (.int .i64 a)).set (q * 5 + 2) (.int .i64 b)).set (q * 5 + 3) (.int .i64 d)).set (q * 5 + 4) (.string t) = sesC (ss.set q ⟨(ss.getD q default).id, a, b, d, t⟩) := by
 have h := sesC_set ss q ⟨(ss.getD q default).id, a, b, d, t⟩ hq
 dsimp only at h
 rw [set_same (sesC_get ss q hq).1] at h
 exact h
theorem Bk.ses {B : Nat} {w w' : World} {p : Nat} {lv : Value} {tp : Option Addr} {g cap : Nat} {S : Nat → Prop} {ls : List ByteArray} {o : Option Tr} {ss ss' : List Se} (h : Bk B w p lv tp (.slice (some ⟨g, 0, none⟩) ss.length cap) S ls o ss) (ht : Touch (fun k => k = g) w w') (hO : OwnSe B w' (.slice (some ⟨g, 0, none⟩) ss.length cap) ss') : Bk B w' p lv tp (.slice (some ⟨g, 0, none⟩) ss.length cap) S ls o ss' := by
 obtain ⟨h1, h2, h3, h4, h5, h6, h7, h8, h9⟩ := h
 have hsz := ht.size
 refine ⟨h1.kept ht (fun e => h8 (by rw [e]; rfl)), h2, h3.kept ht (fun k hk e => h9 k hk (by rw [e]; rfl)), hO, ?_, fun x hx => ⟨(h6 x hx).1, by have := (h6 x hx).2.1; omega, (h6 x hx).2.2⟩, h7, h8, h9⟩
 cases o with
 | none => exact h5
 | some t => obtain ⟨q, e, hq⟩ := h5; exact ⟨q, e, hq.touch ht (fun k hk e2 => (h6 k hk).2.2.2.2 (by rw [e2]; rfl))⟩
theorem serve_any (B p g cap q : Nat) (lv : Value) (tp : Option Addr) (S : Nat → Prop) (ls : List ByteArray) (o : Option Tr) (ss : List Se) (c : Cm) (w : World) (hk : Bk B w p lv tp (.slice (some ⟨g, 0, none⟩) ss.length cap) S ls o ss) (hL : LOK ⟨ls, o, ss⟩) (hc : cmK c = true) (h4 : c.kd ≠ 4) (h5 : c.kd ≠ 5) (hB : B ≤ w.heap.size) (ht : Tab w) (hG1 : 0 < B) (hG2 : 1 < B) (hq : q < ss.length) :
  Calls Tryz.prog 71 #[.pointer (some ⟨p, 0, none⟩), .pointer (some ⟨g, q * 5, none⟩), .agg #[.int .i64 c.kd, .int .i64 c.ss, .int .i64 c.sq, .string c.ky, .string c.vl]] w fun e w' => ApR B p lv (.slice (some ⟨g, 0, none⟩) ss.length cap) S (svOut ⟨ls, o, ss⟩ c q) w e w' := by
 have HU : Hid (svOut ⟨ls, o, ss⟩ c q = if c.sq = (ss.getD q default).sq ∧ (ss.getD q default).kd ≠ 0 then (⟨ls, o, ss⟩, ⟨(ss.getD q default).kd, (ss.getD q default).pl, (ss.getD q default).vl⟩)
  else if c.sq ≤ (ss.getD q default).sq then (⟨ls, o, ss⟩, ⟨3, 0, ⟨#[]⟩⟩)
  else (⟨(chOut ls o c (getV o c.ky)).1, (chOut ls o c (getV o c.ky)).2.1, ss.set q ⟨(ss.getD q default).id, c.sq, (chOut ls o c (getV o c.ky)).2.2.kd, (chOut ls o c (getV o c.ky)).2.2.pl, (chOut ls o c (getV o c.ky)).2.2.vl⟩⟩, (chOut ls o c (getV o c.ky)).2.2)) := Hd rfl
 have HDO := Hd (fun wx (hx : Below w.heap.size w wx) => do_any B p lv (.slice (some ⟨g, 0, none⟩) ss.length cap) tp S ls o ss c wx (hk.below hx) hL hc h4 h5 (by have := hx.size; omega) (ht.below hx) hG1 hG2)
 generalize chOut ls o c (getV o c.ky) = out at *
 obtain ⟨lsN, oN, rN⟩ := out
 dsimp only at HU HDO
 have HBK := Hd hk
 have hav := hk.2.2.2.2.2.2.2.1
 have hgl := (hk.2.2.2.1.lt g rfl).2
 have B0 := Hd ((bal w (.cells #[.int .i64 c.kd, .int .i64 c.ss, .int .i64 c.sq, .string c.ky, .string c.vl] 77)).alloc (by simp) (.cells #[.int .i64 0, .int .i64 0, .string ⟨#[]⟩] 82))
 have C0 := Hd ((Blk.new w #[.int .i64 c.kd, .int .i64 c.ss, .int .i64 c.sq, .string c.ky, .string c.vl] 77 w.heap.size rfl).alloc (.cells #[.int .i64 0, .int .i64 0, .string ⟨#[]⟩] 82))
 have R0 := Hd (Blk.new (w.alloc (.cells #[.int .i64 c.kd, .int .i64 c.ss, .int .i64 c.sq, .string c.ky, .string c.vl] 77)) #[.int .i64 0, .int .i64 0, .string ⟨#[]⟩] 82 (w.heap.size + 1) (by simp))
 have HSC := Hd (fun wx (hx : Bk B wx p lv tp (.slice (some ⟨g, 0, none⟩) ss.length cap) S ls o ss) => OwnSe.cells hx.2.2.2.1 q hq rfl)
 obtain ⟨f, hf⟩ : ∃ f, f = ss.getD q default := ⟨_, rfl⟩
 rw [← hf] at HU HSC
 have HFE := Hd hf
 have HQ := Hd hq
 clear hk hL hc ht hf
 obtain ⟨f0, f1, f2, f3, f4⟩ := f
 dsimp only at HU HSC
 go_enter Tryz.func71, Tryz.ntmps71
 go_upto_region 1 with fail
 generalize (w.alloc (.cells #[.int .i64 c.kd, .int .i64 c.ss, .int .i64 c.sq, .string c.ky, .string c.vl] 77)).alloc (.cells #[.int .i64 0, .int .i64 0, .string ⟨#[]⟩] 82) = w0 at *
 have hw0 : w.heap.size + 1 < w0.heap.size := (uh R0).1
 have BK0 := Hd ((uh HBK).below (uh B0))
 obtain ⟨s0, s1, s2, s3, s4⟩ := uh HSC w0 (uh BK0)
 have x2 := (uh C0).cell 2 rfl
 have hb0 := below_drewN (Below.refl w0.heap.size w0) 1
 have K1 := hbt B0 hb0
 have C1 := Hd ((uh C0).below hb0)
 have R1 := Hd ((uh R0).below hb0)
 have BK1 := Hd ((uh HBK).below (uh K1))
 change Hid (Below w.heap.size w w0.drew) at K1
 change Hid (Blk w0.drew _ _) at C1
 change Hid (Blk w0.drew _ _) at R1
 change Hid (Bk B w0.drew p lv tp (.slice (some ⟨g, 0, none⟩) ss.length cap) S ls o ss) at BK1
 clear hb0
 by_cases heq : c.sq = f1
 ·have b1 : (c.sq == f1) = true := by rw [heq]; simp
  have HEQ := Hd heq
  by_cases hkd : f2 = 0
  ·have b2 : (f2 != 0) = false := by rw [hkd]; rfl
   have b3 : (f2 == 0) = true := by rw [hkd]; rfl
   have HKD := Hd hkd
   have h9 : c.sq ≤ f1 := by omega
   clear heq hkd
   refine wp_region_noPanic ?_
   refine wp_region_held_drew (S := (fun wx => wx.cell? ⟨w.heap.size, 2, none⟩ = some (.int .i64 c.sq) ∧ wx.cell? ⟨g, q * 5 + 1, none⟩ = some (.int .i64 f1) ∧ wx.cell? ⟨g, q * 5 + 2, none⟩ = some (.int .i64 f2))) (by kernel_rfl) ?_ (fun hHeld => ?_)
   ·exact ⟨x2, s1, s2⟩
   refine tkH 0 rfl ?_
   refine tkH 1 rfl ?_
   refine tkH 2 rfl ?_
   refine tkH 3 rfl ?_
   refine tkH 4 rfl ?_
   refine tkH 5 rfl ?_
   refine tkH 6 rfl ?_
   refine tkH 7 rfl ?_
   refine tkH 8 rfl ?_
   refine tkH 9 rfl ?_
   refine tkH 10 rfl ?_
   refine tkH 11 rfl ?_
   refine tkH 12 rfl ?_
   refine tkH 13 rfl ?_
   refine tkH 14 rfl ?_
   refine wpAnyH_done (by kernel_rfl) (NoPanic.normal ?_) _
   have y2 := (uh C1).cell 2 rfl
   obtain ⟨t0, t1, t2, t3, t4⟩ := uh HSC w0.drew (uh BK1)
   clear hHeld
   generalize w0.drew = w1 at *
   have hw1 : w.heap.size + 1 < w1.heap.size := (uh R1).1
   go_upto_region 3 with fail
   refine wp_region_noPanic ?_
   refine wp_region_held_drew (S := (fun wx => wx.cell? ⟨w.heap.size, 2, none⟩ = some (.int .i64 c.sq) ∧ wx.cell? ⟨g, q * 5 + 1, none⟩ = some (.int .i64 f1) ∧ wx.cell? ⟨g, q * 5 + 2, none⟩ = some (.int .i64 f2))) (by kernel_rfl) ?_ (fun hHeld => ?_)
   ·exact ⟨y2, t1, t2⟩
   refine tkH 0 rfl ?_
   refine tkH 1 rfl ?_
   refine tkH 2 rfl ?_
   refine tkH 3 rfl ?_
   refine tkH 4 rfl ?_
   refine tkH 5 rfl ?_
   refine tkH 6 rfl ?_
   refine wpAnyH_done (by kernel_rfl) (NoPanic.normal ?_) _
   clear hHeld
   have hb1 := below_drewN (Below.refl w1.heap.size w1) 1
   have K2 := hbt K1 hb1
   have C2 := Hd ((uh C1).below hb1)
   have R2 := Hd ((uh R1).below hb1)
   have BK2 := Hd ((uh HBK).below (uh K2))
   change Hid (Below w.heap.size w w1.drew) at K2
   change Hid (Blk w1.drew _ _) at C2
   change Hid (Blk w1.drew _ _) at R2
   change Hid (Bk B w1.drew p lv tp (.slice (some ⟨g, 0, none⟩) ss.length cap) S ls o ss) at BK2
   clear hb1 y2 t0 t1 t2 t3 t4
   generalize w1.drew = w2 at *
   have hw2 : w.heap.size + 1 < w2.heap.size := (uh R2).1
   have RX := uh R2
   obtain ⟨⟨rz0, rz1, rz2⟩, fz0, fz1, fz2⟩ := Blk.c3 RX
   have HR9 := Hd (((RX.set 0 (.int .i64 3) (by simp)).set 1 (.int .i64 0) (by simp)).set 2 (.string ⟨#[]⟩) (by simp))
   have HT9 := Hd ((((Touch.refl (fun q => q = w.heap.size + 1) w2).setCell ⟨w.heap.size + 1, 0, none⟩ (.int .i64 3) (fun _ => rfl)).setCell ⟨w.heap.size + 1, 1, none⟩ (.int .i64 0) (fun _ => rfl)).setCell ⟨w.heap.size + 1, 2, none⟩ (.string ⟨#[]⟩) (fun _ => rfl))
   clear RX
   go_wp2_with fail
   have R9 := uh HR9
   have z0 := R9.cell 0 rfl
   have z1 := R9.cell 1 rfl
   have z2 := R9.cell 2 rfl
   refine bodyPost_ret (v := .agg #[.int .i64 3, .int .i64 0, .string ⟨#[]⟩]) (by simp [results, Tryz.results71, go_sem, z0, z1, z2]) rfl ?_
   refine ap_tell (by rw [uh HU, if_neg (fun h => h.2 (uh HKD)), if_pos h9]) ⟨rfl, lv, tp, (.slice (some ⟨g, 0, none⟩) ss.length cap), S, (uh BK2).keep (uh HT9) (fun k e => by rw [e]; exact (uh HBK).av _ (by omega)), fun r _ ha => ha, ?_⟩
   exact (Touch.ofBelow (uh K2)).trans (uh HT9) (fun j hj e => by omega)
  ·have b2 : (f2 != 0) = true := by simp [bne]; exact hkd
   have b3 : (f2 == 0) = false := by rw [beq_eq_false_iff_ne]; exact hkd
   have HKD := Hd hkd
   clear heq hkd
   refine wp_region_noPanic ?_
   refine wp_region_held_drew (S := (fun wx => wx.cell? ⟨w.heap.size, 2, none⟩ = some (.int .i64 c.sq) ∧ wx.cell? ⟨g, q * 5 + 1, none⟩ = some (.int .i64 f1) ∧ wx.cell? ⟨g, q * 5 + 2, none⟩ = some (.int .i64 f2))) (by kernel_rfl) ?_ (fun hHeld => ?_)
   ·exact ⟨x2, s1, s2⟩
   refine tkH 0 rfl ?_
   refine tkH 1 rfl ?_
   refine tkH 2 rfl ?_
   refine tkH 3 rfl ?_
   refine tkH 4 rfl ?_
   refine tkH 5 rfl ?_
   refine tkH 6 rfl ?_
   refine tkH 7 rfl ?_
   refine tkH 8 rfl ?_
   refine tkH 9 rfl ?_
   refine tkH 10 rfl ?_
   refine tkH 11 rfl ?_
   refine tkH 12 rfl ?_
   refine tkH 13 rfl ?_
   refine tkH 14 rfl ?_
   refine wpAnyH_done (by kernel_rfl) (NoPanic.normal ?_) _
   have y2 := (uh C1).cell 2 rfl
   obtain ⟨t0, t1, t2, t3, t4⟩ := uh HSC w0.drew (uh BK1)
   clear hHeld
   generalize w0.drew = w1 at *
   have hw1 : w.heap.size + 1 < w1.heap.size := (uh R1).1
   have RX := uh R1
   obtain ⟨⟨rz0, rz1, rz2⟩, fz0, fz1, fz2⟩ := Blk.c3 RX
   have HR9 := Hd (((RX.set 0 (.int .i64 f2) (by simp)).set 1 (.int .i64 f3) (by simp)).set 2 (.string f4) (by simp))
   have HT9 := Hd ((((Touch.refl (fun q => q = w.heap.size + 1) w1).setCell ⟨w.heap.size + 1, 0, none⟩ (.int .i64 f2) (fun _ => rfl)).setCell ⟨w.heap.size + 1, 1, none⟩ (.int .i64 f3) (fun _ => rfl)).setCell ⟨w.heap.size + 1, 2, none⟩ (.string f4) (fun _ => rfl))
   clear RX
   go_wp2_with fail
   have R9 := uh HR9
   have z0 := R9.cell 0 rfl
   have z1 := R9.cell 1 rfl
   have z2 := R9.cell 2 rfl
   refine bodyPost_ret (v := .agg #[.int .i64 f2, .int .i64 f3, .string f4]) (by simp [results, Tryz.results71, go_sem, z0, z1, z2]) rfl ?_
   refine ap_tell (by rw [uh HU, if_pos ⟨uh HEQ, uh HKD⟩]) ⟨rfl, lv, tp, (.slice (some ⟨g, 0, none⟩) ss.length cap), S, (uh BK1).keep (uh HT9) (fun k e => by rw [e]; exact (uh HBK).av _ (by omega)), fun r _ ha => ha, ?_⟩
   exact (Touch.ofBelow (uh K1)).trans (uh HT9) (fun j hj e => by omega)
 ·have b1 : (c.sq == f1) = false := by rw [beq_eq_false_iff_ne]; exact heq
  have HEQ := Hd heq
  by_cases h9 : c.sq ≤ f1
  ·clear heq
   refine wp_region_noPanic ?_
   refine wp_region_held_drew (S := (fun wx => wx.cell? ⟨w.heap.size, 2, none⟩ = some (.int .i64 c.sq) ∧ wx.cell? ⟨g, q * 5 + 1, none⟩ = some (.int .i64 f1) ∧ wx.cell? ⟨g, q * 5 + 2, none⟩ = some (.int .i64 f2))) (by kernel_rfl) ?_ (fun hHeld => ?_)
   ·exact ⟨x2, s1, s2⟩
   refine tkH 0 rfl ?_
   refine tkH 1 rfl ?_
   refine tkH 2 rfl ?_
   refine tkH 3 rfl ?_
   refine tkH 4 rfl ?_
   refine tkH 5 rfl ?_
   refine tkH 6 rfl ?_
   refine tkH 7 rfl ?_
   refine wpAnyH_take (i := 8) (oi := _) (v := undef) rfl (by kernel_rfl) (by kernel_rfl) (by kernel_rfl) (fun _ _ _ h => h) (Or.inr ⟨by rfl, rfl⟩) (by assumption) ?_
   (try simp only [Act.put, List.getElem_toArray, List.getElem_cons_succ, List.getElem_cons_zero, List.setIfInBounds_toArray, List.set_cons_zero, List.set_cons_succ])
   refine wpAnyH_take (i := 9) (oi := _) (v := undef) rfl (by kernel_rfl) (by kernel_rfl) (by kernel_rfl) (fun _ _ _ h => h) (Or.inr ⟨by rfl, rfl⟩) (by assumption) ?_
   (try simp only [Act.put, List.getElem_toArray, List.getElem_cons_succ, List.getElem_cons_zero, List.setIfInBounds_toArray, List.set_cons_zero, List.set_cons_succ])
   refine wpAnyH_take (i := 10) (oi := _) (v := undef) rfl (by kernel_rfl) (by kernel_rfl) (by kernel_rfl) (fun _ _ _ h => h) (Or.inr ⟨by rfl, rfl⟩) (by assumption) ?_
   (try simp only [Act.put, List.getElem_toArray, List.getElem_cons_succ, List.getElem_cons_zero, List.setIfInBounds_toArray, List.set_cons_zero, List.set_cons_succ])
   refine wpAnyH_take (i := 11) (oi := _) (v := undef) rfl (by kernel_rfl) (by kernel_rfl) (by kernel_rfl) (fun _ _ _ h => h) (Or.inr ⟨by rfl, rfl⟩) (by assumption) ?_
   (try simp only [Act.put, List.getElem_toArray, List.getElem_cons_succ, List.getElem_cons_zero, List.setIfInBounds_toArray, List.set_cons_zero, List.set_cons_succ])
   refine wpAnyH_take (i := 12) (oi := _) (v := undef) rfl (by kernel_rfl) (by kernel_rfl) (by kernel_rfl) (fun _ _ _ h => h) (Or.inr ⟨by rfl, rfl⟩) (by assumption) ?_
   (try simp only [Act.put, List.getElem_toArray, List.getElem_cons_succ, List.getElem_cons_zero, List.setIfInBounds_toArray, List.set_cons_zero, List.set_cons_succ])
   refine wpAnyH_take (i := 13) (oi := _) (v := undef) rfl (by kernel_rfl) (by kernel_rfl) (by kernel_rfl) (fun _ _ _ h => h) (Or.inr ⟨by rfl, rfl⟩) (by assumption) ?_
   (try simp only [Act.put, List.getElem_toArray, List.getElem_cons_succ, List.getElem_cons_zero, List.setIfInBounds_toArray, List.set_cons_zero, List.set_cons_succ])
   refine tkH 14 rfl ?_
   refine wpAnyH_done (by kernel_rfl) (NoPanic.normal ?_) _
   have y2 := (uh C1).cell 2 rfl
   obtain ⟨t0, t1, t2, t3, t4⟩ := uh HSC w0.drew (uh BK1)
   clear hHeld
   generalize w0.drew = w1 at *
   have hw1 : w.heap.size + 1 < w1.heap.size := (uh R1).1
   go_upto_region 3 with fail
   refine wp_region_noPanic ?_
   refine wp_region_held_drew (S := (fun wx => wx.cell? ⟨w.heap.size, 2, none⟩ = some (.int .i64 c.sq) ∧ wx.cell? ⟨g, q * 5 + 1, none⟩ = some (.int .i64 f1) ∧ wx.cell? ⟨g, q * 5 + 2, none⟩ = some (.int .i64 f2))) (by kernel_rfl) ?_ (fun hHeld => ?_)
   ·exact ⟨y2, t1, t2⟩
   refine tkH 0 rfl ?_
   refine tkH 1 rfl ?_
   refine tkH 2 rfl ?_
   refine tkH 3 rfl ?_
   refine tkH 4 rfl ?_
   refine tkH 5 rfl ?_
   refine tkH 6 rfl ?_
   refine wpAnyH_done (by kernel_rfl) (NoPanic.normal ?_) _
   clear hHeld
   have hb1 := below_drewN (Below.refl w1.heap.size w1) 1
   have K2 := hbt K1 hb1
   have C2 := Hd ((uh C1).below hb1)
   have R2 := Hd ((uh R1).below hb1)
   have BK2 := Hd ((uh HBK).below (uh K2))
   change Hid (Below w.heap.size w w1.drew) at K2
   change Hid (Blk w1.drew _ _) at C2
   change Hid (Blk w1.drew _ _) at R2
   change Hid (Bk B w1.drew p lv tp (.slice (some ⟨g, 0, none⟩) ss.length cap) S ls o ss) at BK2
   clear hb1 y2 t0 t1 t2 t3 t4
   generalize w1.drew = w2 at *
   have hw2 : w.heap.size + 1 < w2.heap.size := (uh R2).1
   have RX := uh R2
   obtain ⟨⟨rz0, rz1, rz2⟩, fz0, fz1, fz2⟩ := Blk.c3 RX
   have HR9 := Hd (((RX.set 0 (.int .i64 3) (by simp)).set 1 (.int .i64 0) (by simp)).set 2 (.string ⟨#[]⟩) (by simp))
   have HT9 := Hd ((((Touch.refl (fun q => q = w.heap.size + 1) w2).setCell ⟨w.heap.size + 1, 0, none⟩ (.int .i64 3) (fun _ => rfl)).setCell ⟨w.heap.size + 1, 1, none⟩ (.int .i64 0) (fun _ => rfl)).setCell ⟨w.heap.size + 1, 2, none⟩ (.string ⟨#[]⟩) (fun _ => rfl))
   clear RX
   go_wp2_with fail
   have R9 := uh HR9
   have z0 := R9.cell 0 rfl
   have z1 := R9.cell 1 rfl
   have z2 := R9.cell 2 rfl
   refine bodyPost_ret (v := .agg #[.int .i64 3, .int .i64 0, .string ⟨#[]⟩]) (by simp [results, Tryz.results71, go_sem, z0, z1, z2]) rfl ?_
   refine ap_tell (by rw [uh HU, if_neg (fun h => (uh HEQ) h.1), if_pos h9]) ⟨rfl, lv, tp, (.slice (some ⟨g, 0, none⟩) ss.length cap), S, (uh BK2).keep (uh HT9) (fun k e => by rw [e]; exact (uh HBK).av _ (by omega)), fun r _ ha => ha, ?_⟩
   exact (Touch.ofBelow (uh K2)).trans (uh HT9) (fun j hj e => by omega)
  have HU2 := Hd (show svOut ⟨ls, o, ss⟩ c q = (⟨lsN, oN, ss.set q ⟨f0, c.sq, rN.kd, rN.pl, rN.vl⟩⟩, rN) by rw [uh HU, if_neg (fun h => heq h.1), if_neg h9])
  clear heq HU
  refine wp_region_noPanic ?_
  refine wp_region_held_drew (S := (fun wx => wx.cell? ⟨w.heap.size, 2, none⟩ = some (.int .i64 c.sq) ∧ wx.cell? ⟨g, q * 5 + 1, none⟩ = some (.int .i64 f1) ∧ wx.cell? ⟨g, q * 5 + 2, none⟩ = some (.int .i64 f2))) (by kernel_rfl) ?_ (fun hHeld => ?_)
  ·exact ⟨x2, s1, s2⟩
  refine tkH 0 rfl ?_
  refine tkH 1 rfl ?_
  refine tkH 2 rfl ?_
  refine tkH 3 rfl ?_
  refine tkH 4 rfl ?_
  refine tkH 5 rfl ?_
  refine tkH 6 rfl ?_
  refine tkH 7 rfl ?_
  refine wpAnyH_take (i := 8) (oi := _) (v := undef) rfl (by kernel_rfl) (by kernel_rfl) (by kernel_rfl) (fun _ _ _ h => h) (Or.inr ⟨by rfl, rfl⟩) (by assumption) ?_
  (try simp only [Act.put, List.getElem_toArray, List.getElem_cons_succ, List.getElem_cons_zero, List.setIfInBounds_toArray, List.set_cons_zero, List.set_cons_succ])
  refine wpAnyH_take (i := 9) (oi := _) (v := undef) rfl (by kernel_rfl) (by kernel_rfl) (by kernel_rfl) (fun _ _ _ h => h) (Or.inr ⟨by rfl, rfl⟩) (by assumption) ?_
  (try simp only [Act.put, List.getElem_toArray, List.getElem_cons_succ, List.getElem_cons_zero, List.setIfInBounds_toArray, List.set_cons_zero, List.set_cons_succ])
  refine wpAnyH_take (i := 10) (oi := _) (v := undef) rfl (by kernel_rfl) (by kernel_rfl) (by kernel_rfl) (fun _ _ _ h => h) (Or.inr ⟨by rfl, rfl⟩) (by assumption) ?_
  (try simp only [Act.put, List.getElem_toArray, List.getElem_cons_succ, List.getElem_cons_zero, List.setIfInBounds_toArray, List.set_cons_zero, List.set_cons_succ])
  refine wpAnyH_take (i := 11) (oi := _) (v := undef) rfl (by kernel_rfl) (by kernel_rfl) (by kernel_rfl) (fun _ _ _ h => h) (Or.inr ⟨by rfl, rfl⟩) (by assumption) ?_
  (try simp only [Act.put, List.getElem_toArray, List.getElem_cons_succ, List.getElem_cons_zero, List.setIfInBounds_toArray, List.set_cons_zero, List.set_cons_succ])
  refine wpAnyH_take (i := 12) (oi := _) (v := undef) rfl (by kernel_rfl) (by kernel_rfl) (by kernel_rfl) (fun _ _ _ h => h) (Or.inr ⟨by rfl, rfl⟩) (by assumption) ?_
  (try simp only [Act.put, List.getElem_toArray, List.getElem_cons_succ, List.getElem_cons_zero, List.setIfInBounds_toArray, List.set_cons_zero, List.set_cons_succ])
  refine wpAnyH_take (i := 13) (oi := _) (v := undef) rfl (by kernel_rfl) (by kernel_rfl) (by kernel_rfl) (fun _ _ _ h => h) (Or.inr ⟨by rfl, rfl⟩) (by assumption) ?_
  (try simp only [Act.put, List.getElem_toArray, List.getElem_cons_succ, List.getElem_cons_zero, List.setIfInBounds_toArray, List.set_cons_zero, List.set_cons_succ])
  refine tkH 14 rfl ?_
  refine wpAnyH_done (by kernel_rfl) (NoPanic.normal ?_) _
  have y2 := (uh C1).cell 2 rfl
  obtain ⟨t0, t1, t2, t3, t4⟩ := uh HSC w0.drew (uh BK1)
  clear hHeld
  generalize w0.drew = w1 at *
  have hw1 : w.heap.size + 1 < w1.heap.size := (uh R1).1
  go_upto_region 3 with fail
  refine wp_region_noPanic ?_
  refine wp_region_held_drew (S := (fun wx => wx.cell? ⟨w.heap.size, 2, none⟩ = some (.int .i64 c.sq) ∧ wx.cell? ⟨g, q * 5 + 1, none⟩ = some (.int .i64 f1) ∧ wx.cell? ⟨g, q * 5 + 2, none⟩ = some (.int .i64 f2))) (by kernel_rfl) ?_ (fun hHeld => ?_)
  ·exact ⟨y2, t1, t2⟩
  refine tkH 0 rfl ?_
  refine tkH 1 rfl ?_
  refine tkH 2 rfl ?_
  refine tkH 3 rfl ?_
  refine tkH 4 rfl ?_
  refine tkH 5 rfl ?_
  refine tkH 6 rfl ?_
  refine wpAnyH_done (by kernel_rfl) (NoPanic.normal ?_) _
  clear hHeld
  have hb1 := below_drewN (Below.refl w1.heap.size w1) 1
  have K2 := hbt K1 hb1
  have C2 := Hd ((uh C1).below hb1)
  have R2 := Hd ((uh R1).below hb1)
  have BK2 := Hd ((uh HBK).below (uh K2))
  change Hid (Below w.heap.size w w1.drew) at K2
  change Hid (Blk w1.drew _ _) at C2
  change Hid (Blk w1.drew _ _) at R2
  change Hid (Bk B w1.drew p lv tp (.slice (some ⟨g, 0, none⟩) ss.length cap) S ls o ss) at BK2
  clear hb1 y2 t0 t1 t2 t3 t4
  generalize w1.drew = w2 at *
  have hw2 : w.heap.size + 1 < w2.heap.size := (uh R2).1
  have hb2 := below_drewN (Below.refl w2.heap.size w2) 1
  have K3 := hbt K2 hb2
  have R3 := Hd ((uh R2).below hb2)
  change Hid (Below w.heap.size w w2.drew) at K3
  change Hid (Blk w2.drew _ _) at R3
  have HC := Hd (uh HDO w2.drew (uh K3))
  have hcl : w.heap.size < w2.drew.heap.size := (uh C2).1
  have hrl : w.heap.size + 1 < w2.drew.heap.size := (uh R2).1
  have HAv := Hd (fun r (hr : w.heap.size ≤ r) => (uh HBK).av r hr)
  obtain ⟨x0, x1, x2, x3, x4⟩ := Blk.c5 (uh C2)
  clear HDO hb2 K1 C1 R1 BK1 BK2 s0 s1 s2 s3 s4 B0 C0 R0 BK0
  go_upto_region 5 with fail
  refine wp_region_noPanic ?_
  refine wp_region_held_drew (S := (fun wx => wx.cell? ⟨w.heap.size, 0, none⟩ = some (.int .i64 c.kd) ∧ wx.cell? ⟨w.heap.size, 1, none⟩ = some (.int .i64 c.ss) ∧ wx.cell? ⟨w.heap.size, 2, none⟩ = some (.int .i64 c.sq) ∧ wx.cell? ⟨w.heap.size, 3, none⟩ = some (.string c.ky) ∧ wx.cell? ⟨w.heap.size, 4, none⟩ = some (.string c.vl))) (by kernel_rfl) ?_ (fun hHeld => ?_)
  ·exact ⟨x0, x1, x2, x3, x4⟩
  refine tkH 0 rfl ?_
  refine tkH 1 rfl ?_
  refine tkH 2 rfl ?_
  refine tkH 3 rfl ?_
  refine tkH 4 rfl ?_
  refine tkH 5 rfl ?_
  refine rdy1 6 rfl (fun K hK => ?_)
  go_simp
  refine (uh HC).mono ?_
  rintro e w3 ⟨rfl, lv3, tp3, S3, bk3, av3, t3⟩
  have k0 := fun i => touch_cell t3 w.heap.size i hcl (fun h => h (uh HAv _ (Nat.le_refl _)))
  have hgr : w.heap.size ≠ g ∧ w.heap.size + 1 ≠ g := ⟨by omega, by omega⟩
  have O3 := bk3.2.2.2.1
  obtain ⟨c0, c1, c2, c3, c4⟩ := OwnSe.cells O3 q (uh HQ) rfl
  have z1 := O3.frozenAt (q * 5 + 1)
  have z2 := O3.frozenAt (q * 5 + 2)
  have z3 := O3.frozenAt (q * 5 + 3)
  have z4 := O3.frozenAt (q * 5 + 4)
  have HH3 := Hd (And.intro bk3 (And.intro av3 t3))
  have HK0 := Hd k0
  have x30 := (k0 0).trans x0
  have x31 := (k0 1).trans x1
  have x32 := (k0 2).trans x2
  have x33 := (k0 3).trans x3
  have x34 := (k0 4).trans x4
  rw [← uh HFE] at c1 c2 c3 c4
  dsimp only at c1 c2 c3 c4
  clear bk3 av3 t3 k0 O3 c0 HC
  go_wp2_with fail
  refine outH hK ?_ (fun hHeld => ?_)
  ·exact ⟨x30, x31, x32, x33, x34⟩
  clear hK K
  refine tkH 7 rfl ?_
  refine tkH 8 rfl ?_
  refine rdy1 9 rfl (fun K hK => ?_)
  go_simp
  refine outH hK ?_ (fun hHeld => ?_)
  ·exact ⟨by go_simp, by go_simp, by go_simp, by go_simp, by go_simp⟩
  clear hK K
  refine tkH 10 rfl ?_
  refine tkH 11 rfl ?_
  refine rdy1 12 rfl (fun K hK => ?_)
  go_simp
  refine outH hK ?_ (fun hHeld => ?_)
  ·exact ⟨by go_simp, by go_simp, by go_simp, by go_simp, by go_simp⟩
  clear hK K
  refine wpAnyH_done (by kernel_rfl) (NoPanic.normal ?_) _
  obtain ⟨bk3, av3, t3⟩ := uh HH3
  have T7 := (((((Touch.refl (fun k => k = g) w3).setCell ⟨g, q * 5 + 1, none⟩ (.int .i64 c.sq) (fun _ => rfl)).setCell ⟨g, q * 5 + 2, none⟩ (.int .i64 rN.kd) (fun _ => rfl)).setCell ⟨g, q * 5 + 3, none⟩ (.int .i64 rN.pl) (fun _ => rfl)).setCell ⟨g, q * 5 + 4, none⟩ (.string rN.vl) (fun _ => rfl))
  have o1 := (bk3.2.2.2.1.stored (q * 5 + 1) (.int .i64 c.sq)).1
  have o2 := (o1.stored (q * 5 + 2) (.int .i64 rN.kd)).1
  have o3 := (o2.stored (q * 5 + 3) (.int .i64 rN.pl)).1
  have o4 := (o3.stored (q * 5 + 4) (.string rN.vl)).1
  have hse := sesC_set4 ss q c.sq rN.kd rN.pl rN.vl (uh HQ)
  rw [hse, ← uh HFE] at o4
  dsimp only at o4
  have hlen : (ss.set q ⟨f0, c.sq, rN.kd, rN.pl, rN.vl⟩).length = ss.length := by simp
  have O7 : OwnSe B ((((w3.setCell ⟨g, q * 5 + 1, none⟩ (.int .i64 c.sq)).setCell ⟨g, q * 5 + 2, none⟩ (.int .i64 rN.kd)).setCell ⟨g, q * 5 + 3, none⟩ (.int .i64 rN.pl)).setCell ⟨g, q * 5 + 4, none⟩ (.string rN.vl)) (.slice (some ⟨g, 0, none⟩) ss.length cap) (ss.set q ⟨f0, c.sq, rN.kd, rN.pl, rN.vl⟩) := by unfold OwnSe; rw [hlen]; exact o4
  have BK7 := Hd (bk3.ses T7 O7)
  have R7 := Hd (((uh R3).kept t3 (fun h => h (uh HAv _ (by omega)))).kept T7 (fun e => hgr.2 e))
  have HT7 := Hd (((Touch.ofBelow (T := fun k => ¬ Av p lv (.slice (some ⟨g, 0, none⟩) ss.length cap) S k) (uh K3)).trans t3 (fun _ _ e => e)).trans T7 (fun j _ e h => h.2.2.1 (by rw [e]; rfl)))
  have HAV7 := Hd (fun r (hr : r < w.heap.size) (ha : Av p lv (.slice (some ⟨g, 0, none⟩) ss.length cap) S r) => av3 r (by have := (uh K3).size; omega) ha)
  have HR7 := Hd (av3 _ hrl (uh HAv _ (by omega)))
  obtain ⟨u0, u1, u2, u3, u4⟩ := OwnSe.cells o4 q (by rw [hlen]; exact uh HQ) hlen.symm
  rw [setS_get ss q _ (uh HQ) q, if_pos rfl] at u0 u1 u2 u3 u4
  dsimp only at u0 u1 u2 u3 u4
  clear hHeld bk3 av3 t3 T7 o1 o2 o3 o4 hse hlen O7 HH3 HK0 R3 K3 c1 c2 c3 c4 z1 z2 z3 z4 x30 x31 x32 x33 x34 x0 x1 x2 x3 x4 u0 u1
  generalize ((((w3.setCell ⟨g, q * 5 + 1, none⟩ (.int .i64 c.sq)).setCell ⟨g, q * 5 + 2, none⟩ (.int .i64 rN.kd)).setCell ⟨g, q * 5 + 3, none⟩ (.int .i64 rN.pl)).setCell ⟨g, q * 5 + 4, none⟩ (.string rN.vl)) = w7 at *
  have hw7 : w.heap.size + 1 < w7.heap.size := (uh R7).1
  have RX := uh R7
  obtain ⟨⟨rz0, rz1, rz2⟩, fz0, fz1, fz2⟩ := Blk.c3 RX
  have HR9 := Hd (((RX.set 0 (.int .i64 rN.kd) (by simp)).set 1 (.int .i64 rN.pl) (by simp)).set 2 (.string rN.vl) (by simp))
  have HT9 := Hd ((((Touch.refl (fun q => q = w.heap.size + 1) w7).setCell ⟨w.heap.size + 1, 0, none⟩ (.int .i64 rN.kd) (fun _ => rfl)).setCell ⟨w.heap.size + 1, 1, none⟩ (.int .i64 rN.pl) (fun _ => rfl)).setCell ⟨w.heap.size + 1, 2, none⟩ (.string rN.vl) (fun _ => rfl))
  clear RX
  go_wp2_with fail
  have R9 := uh HR9
  have z0 := R9.cell 0 rfl
  have z1 := R9.cell 1 rfl
  have z2 := R9.cell 2 rfl
  refine bodyPost_ret (v := .agg #[.int .i64 rN.kd, .int .i64 rN.pl, .string rN.vl]) (by simp [results, Tryz.results71, go_sem, z0, z1, z2]) rfl ?_
  refine ap_tell (uh HU2) ⟨rfl, lv3, tp3, (.slice (some ⟨g, 0, none⟩) ss.length cap), S3, (uh BK7).keep (uh HT9) (fun k e => by rw [e]; exact uh HR7), uh HAV7, ?_⟩
  exact (uh HT7).trans (uh HT9) (fun j hj e => by omega)
end Go.Proofs.YtbchnheinnileaaGreatDoor.Sha
namespace Go.Proofs.YtbchnheinnileaaGreatDoor
set_option maxRecDepth 100000
set_option maxHeartbeats 8000000
open Go.ChangeShapes Go.WideShapes Go.ChangeAt Go.RowKit Go.Deep
open Sha (Fresh own_fresh)
set_option linter.unusedVariables false
set_option linter.unusedSimpArgs false
theorem Strs.touch {T : Nat → Prop} {w w' : World} {v : Value} {l : List ByteArray} (h : Strs w v l) (ht : Touch T w w') (hn : 0 < l.length → ∀ k, v.ownBlock = some k → ¬ T k) : Strs w' v l := by
 obtain ⟨a, cap, hv, hm, hc⟩ := h
 refine ⟨a, cap, hv, hm, ?_⟩
 by_cases hp : l.length = 0
 ·exact .inl hp
 rcases hc with h0 | ⟨b, off, ha, hlt, hc⟩
 ·exact .inl h0
 ·have hb := hn (by omega) b (by rw [hv, ha]; rfl)
  exact .inr ⟨b, off, ha, Nat.lt_of_lt_of_le hlt ht.size, fun i hi => (ht.cell (p := ⟨b, off + i, none⟩) hlt hb).trans (hc i hi)⟩
theorem Sess.touch {T : Nat → Prop} {w w' : World} {v : Value} {l : List Se} (h : Sess w v l) (ht : Touch T w w') (hn : 0 < l.length → ∀ k, v.ownBlock = some k → ¬ T k) : Sess w' v l := by
 obtain ⟨a, cap, hv, hn', hm, hc⟩ := h
 refine ⟨a, cap, hv, hn', hm, ?_⟩
 by_cases hp : l.length = 0
 ·exact .inl hp
 rcases hc with h0 | ⟨b, off, ha, hlt, hc⟩
 ·exact .inl h0
 ·have hb := hn (by omega) b (by rw [hv, ha]; rfl)
  exact .inr ⟨b, off, ha, Nat.lt_of_lt_of_le hlt ht.size, fun i hi => ⟨(ht.cell (p := ⟨b, off + i * 5, none⟩) hlt hb).trans (hc i hi).1, (ht.cell (p := ⟨b, off + i * 5 + 1, none⟩) hlt hb).trans (hc i hi).2.1, (ht.cell (p := ⟨b, off + i * 5 + 2, none⟩) hlt hb).trans (hc i hi).2.2.1, (ht.cell (p := ⟨b, off + i * 5 + 3, none⟩) hlt hb).trans (hc i hi).2.2.2.1, (ht.cell (p := ⟨b, off + i * 5 + 4, none⟩) hlt hb).trans (hc i hi).2.2.2.2⟩⟩
theorem Strs.lowB {w : World} {v : Value} {l : List ByteArray} (h : Strs w v l) (h0 : 0 < l.length) : ∀ k, v.ownBlock = some k → k < w.heap.size := by
 obtain ⟨a, cap, rfl, _, hc⟩ := h
 intro k hk
 rcases hc with h1 | ⟨b, off, rfl, hlt, _⟩
 ·omega
 ·cases hk; exact hlt
theorem Sess.lowB {w : World} {v : Value} {l : List Se} (h : Sess w v l) (h0 : 0 < l.length) : ∀ k, v.ownBlock = some k → k < w.heap.size := by
 obtain ⟨a, cap, rfl, _, _, hc⟩ := h
 intro k hk
 rcases hc with h1 | ⟨b, off, rfl, hlt, _⟩
 ·omega
 ·cases hk; exact hlt
theorem Strs.lenE {w w' : World} {v : Value} {l l' : List ByteArray} (h : Strs w v l) (h' : Strs w' v l') : l.length = l'.length := by
 obtain ⟨a, cap, e, _⟩ := h
 obtain ⟨a', cap', e', _⟩ := h'
 rw [e] at e'
 simp only [Value.slice.injEq] at e'
 exact e'.2.1
theorem Sess.lenE {w w' : World} {v : Value} {l l' : List Se} (h : Sess w v l) (h' : Sess w' v l') : l.length = l'.length := by
 obtain ⟨a, cap, e, _⟩ := h
 obtain ⟨a', cap', e', _⟩ := h'
 rw [e] at e'
 simp only [Value.slice.injEq] at e'
 exact e'.2.1
theorem Strs.fresh {T : Nat → Prop} {w w1 w2 : World} {v0 v : Value} {l0 l : List ByteArray} {H : Nat} (h0 : Strs w v0 l0) (h : Strs w1 v l) (hf : Fresh H v0 v) (ht : Touch T w1 w2) (hT : ∀ k, T k → w.heap.size ≤ k ∧ k < H) : Strs w2 v l := by
 refine h.touch ht (fun hp k hk hTk => ?_)
 have := hT k hTk
 rcases hf with rfl | hf
 ·have := h0.lowB (by rw [h0.lenE h]; exact hp) k hk; omega
 ·have := hf k hk; omega
theorem Sess.fresh {T : Nat → Prop} {w w1 w2 : World} {v0 v : Value} {l0 l : List Se} {H : Nat} (h0 : Sess w v0 l0) (h : Sess w1 v l) (hf : Fresh H v0 v) (ht : Touch T w1 w2) (hT : ∀ k, T k → w.heap.size ≤ k ∧ k < H) : Sess w2 v l := by
 refine h.touch ht (fun hp k hk hTk => ?_)
 have := hT k hTk
 rcases hf with rfl | hf
 ·have := h0.lowB (by rw [h0.lenE h]; exact hp) k hk; omega
 ·have := hf k hk; omega
theorem Sha.Fresh.down {H H' : Nat} {v0 v : Value} (h : Fresh H v0 v) (hH : H' ≤ H) : Fresh H' v0 v := h.imp id (fun h k hk => Nat.le_trans hH (h k hk))
end Go.Proofs.YtbchnheinnileaaGreatDoor
