/- What the proof of the claim needs (joined by program): ApS ApB Cpy. -/
import Derived.Test.YtlbcdngidfjogaaGreatDoorQba09
import Derived.Test.YtlbcdngidfjogaaGreatDoorQba08
import Derived.Test.YtlbcdngidfjogaaGreatDoorQba00
import Derived.Laws.CopyRow
import Derived.Laws.AppendOwn
import Derived.Lib.Overlaps
namespace Go.Proofs.YtlbcdngidfjogaaGreatDoor.Sha
set_option maxRecDepth 100000
set_option maxHeartbeats 8000000
open Go.ChangeShapes Go.WideShapes Go.ChangeAt Go.RowKit Go.Deep
set_option linter.unusedVariables false
set_option linter.unusedSimpArgs false
def ApR (B p : Nat) (lv sv : Value) (S : Nat → Prop) (out : Lst × Re) (w : World) (e : Ending) (w' : World) : Prop :=
 e = .returned (.agg #[.int .i64 out.2.kd, .int .i64 out.2.pl, .string out.2.vl]) ∧ ∃ lv' tp' sv' S', Bk B w' p lv' tp' sv' S' out.1.ls out.1.o out.1.ss ∧ (∀ r, r < w.heap.size → Av p lv sv S r → Av p lv' sv' S' r) ∧ Touch (fun q => ¬ Av p lv sv S q) w w'
theorem ap_tell {B p : Nat} {lv sv : Value} {S : Nat → Prop} {x y : Lst × Re} {w w' : World} {e : Ending} (he : x = y) (h : ApR B p lv sv S y w e w') : ApR B p lv sv S x w e w' := by rw [he]; exact h
theorem set_same {l : List Value} {i : Nat} {v : Value} (h : l[i]? = some v) : l.set i v = l := by
 apply List.ext_getElem?
 intro j
 rw [List.getElem?_set]
 by_cases e : i = j
 ·subst e
  have hl := (List.getElem?_eq_some_iff.1 h).1
  rw [if_pos rfl, if_pos hl, h]
 ·rw [if_neg e]
theorem sesC_set4 (ss : List Se) (q : Nat) (a b : Int) (d : Int) (t : ByteArray) (hq : q < ss.length) : ((((sesC ss).set (q * 5 + 1) (.int .i64 a)).set (q * 5 + 2) (.int .i64 b)).set (q * 5 + 3) (.int .i64 d)).set (q * 5 + 4) (.string t) = sesC (ss.set q ⟨(ss.getD q default).id, a, b, d, t⟩) := by
 have h := sesC_set ss q ⟨(ss.getD q default).id, a, b, d, t⟩ hq
 dsimp only at h
 rw [set_same (sesC_get ss q hq).1] at h
 exact h
theorem Bk.ses {B : Nat} {w w' : World} {p : Nat} {lv : Value} {tp : Option Addr} {g cap : Nat} {S : Nat → Prop} {ls : List ByteArray} {o : Option Tr} {ss ss' : List Se} (h : Bk B w p lv tp (.slice (some ⟨g, 0, none⟩) ss.length cap) S ls o ss) (ht : Touch (fun k => k = g) w w') (hO : OwnSe B w' (.slice (some ⟨g, 0, none⟩) ss.length cap) ss') : Bk B w' p lv tp (.slice (some ⟨g, 0, none⟩) ss.length cap) S ls o ss' := by
 obtain ⟨h1, h2, h3, h4, h5, h6, h7, h8, h9⟩ := h
 have hsz := ht.size
 refine ⟨h1.kept ht (fun e => h8 (by rw [e]; rfl)), h2, h3.kept ht (fun k hk e => h9 k hk (by rw [e]; rfl)), hO, ?_, fun x hx => ⟨(h6 x hx).1, by have := (h6 x hx).2.1; omega, (h6 x hx).2.2⟩, h7, h8, h9⟩
 cases o with
 | none => exact h5
 | some t => obtain ⟨q, e, hq⟩ := h5; exact ⟨q, e, hq.touch ht (fun k hk e2 => (h6 k hk).2.2.2.2 (by rw [e2]; rfl))⟩
theorem serve_any (B p g cap q : Nat) (lv : Value) (tp : Option Addr) (S : Nat → Prop) (ls : List ByteArray) (o : Option Tr) (ss : List Se) (c : Cm) (w : World) (hk : Bk B w p lv tp (.slice (some ⟨g, 0, none⟩) ss.length cap) S ls o ss) (hL : LOK ⟨ls, o, ss⟩) (hc : cmK c = true) (h4 : c.kd ≠ 4) (h5 : c.kd ≠ 5) (hB : B ≤ w.heap.size) (ht : Tab w) (hG1 : 0 < B) (hG2 : 1 < B) (hq : q < ss.length) :
  Calls Tryz.prog 32 #[.pointer (some ⟨p, 0, none⟩), .pointer (some ⟨g, q * 5, none⟩), .agg #[.int .i64 c.kd, .int .i64 c.ss, .int .i64 c.sq, .string c.ky, .string c.vl]] w fun e w' => ApR B p lv (.slice (some ⟨g, 0, none⟩) ss.length cap) S (svOut ⟨ls, o, ss⟩ c q) w e w' := by
 have HU : Hid (svOut ⟨ls, o, ss⟩ c q = if c.sq = (ss.getD q default).sq ∧ (ss.getD q default).kd ≠ 0 then (⟨ls, o, ss⟩, ⟨(ss.getD q default).kd, (ss.getD q default).pl, (ss.getD q default).vl⟩)
  else if c.sq ≤ (ss.getD q default).sq then (⟨ls, o, ss⟩, ⟨3, 0, ⟨#[]⟩⟩)
  else (⟨(chOut ls o c (getV o c.ky)).1, (chOut ls o c (getV o c.ky)).2.1, ss.set q ⟨(ss.getD q default).id, c.sq, (chOut ls o c (getV o c.ky)).2.2.kd, (chOut ls o c (getV o c.ky)).2.2.pl, (chOut ls o c (getV o c.ky)).2.2.vl⟩⟩, (chOut ls o c (getV o c.ky)).2.2)) := Hd rfl
 have HDO := Hd (fun wx (hx : Below w.heap.size w wx) => do_any B p lv (.slice (some ⟨g, 0, none⟩) ss.length cap) tp S ls o ss c wx (hk.below hx) hL hc h4 h5 (by have := hx.size; omega) (ht.below hx) hG1 hG2)
 generalize chOut ls o c (getV o c.ky) = out at *
 obtain ⟨lsN, oN, rN⟩ := out
 dsimp only at HU HDO
 have HBK := Hd hk
 have hav := hk.2.2.2.2.2.2.2.1
 have hgl := (hk.2.2.2.1.lt g rfl).2
 have B0 := Hd ((bal w (.cells #[.int .i64 c.kd, .int .i64 c.ss, .int .i64 c.sq, .string c.ky, .string c.vl] 31)).alloc (by simp) (.cells #[.int .i64 0, .int .i64 0, .string ⟨#[]⟩] 27))
 have C0 := Hd ((Blk.new w #[.int .i64 c.kd, .int .i64 c.ss, .int .i64 c.sq, .string c.ky, .string c.vl] 31 w.heap.size rfl).alloc (.cells #[.int .i64 0, .int .i64 0, .string ⟨#[]⟩] 27))
 have R0 := Hd (Blk.new (w.alloc (.cells #[.int .i64 c.kd, .int .i64 c.ss, .int .i64 c.sq, .string c.ky, .string c.vl] 31)) #[.int .i64 0, .int .i64 0, .string ⟨#[]⟩] 27 (w.heap.size + 1) (by simp))
 have HSC := Hd (fun wx (hx : Bk B wx p lv tp (.slice (some ⟨g, 0, none⟩) ss.length cap) S ls o ss) => OwnSe.cells hx.2.2.2.1 q hq rfl)
 obtain ⟨f, hf⟩ : ∃ f, f = ss.getD q default := ⟨_, rfl⟩
 rw [← hf] at HU HSC
 have HFE := Hd hf
 have HQ := Hd hq
 clear hk hL hc ht hf
 obtain ⟨f0, f1, f2, f3, f4⟩ := f
 dsimp only at HU HSC
 go_enter Tryz.func32, Tryz.ntmps32
 go_upto_region 1 with fail
 generalize (w.alloc (.cells #[.int .i64 c.kd, .int .i64 c.ss, .int .i64 c.sq, .string c.ky, .string c.vl] 31)).alloc (.cells #[.int .i64 0, .int .i64 0, .string ⟨#[]⟩] 27) = w0 at *
 have hw0 : w.heap.size + 1 < w0.heap.size := (uh R0).1
 have BK0 := Hd ((uh HBK).below (uh B0))
 obtain ⟨s0, s1, s2, s3, s4⟩ := uh HSC w0 (uh BK0)
 have x2 := (uh C0).cell 2 rfl
 have hb0 := below_drewN (Below.refl w0.heap.size w0) 1
 have K1 := hbt B0 hb0
 have C1 := Hd ((uh C0).below hb0)
 have R1 := Hd ((uh R0).below hb0)
 have BK1 := Hd ((uh HBK).below (uh K1))
 change Hid (Below w.heap.size w w0.drew) at K1
 change Hid (Blk w0.drew _ _) at C1
 change Hid (Blk w0.drew _ _) at R1
 change Hid (Bk B w0.drew p lv tp (.slice (some ⟨g, 0, none⟩) ss.length cap) S ls o ss) at BK1
 clear hb0
 by_cases heq : c.sq = f1
 ·have b1 : (c.sq == f1) = true := by rw [heq]; simp
  have HEQ := Hd heq
  by_cases hkd : f2 = 0
  ·have b2 : (f2 != 0) = false := by rw [hkd]; rfl
   have b3 : (f2 == 0) = true := by rw [hkd]; rfl
   have HKD := Hd hkd
   have h9 : c.sq ≤ f1 := by omega
   clear heq hkd
   refine wp_region_noPanic ?_
   refine wp_region_held_drew (S := (fun wx => wx.cell? ⟨w.heap.size, 2, none⟩ = some (.int .i64 c.sq) ∧ wx.cell? ⟨g, q * 5 + 1, none⟩ = some (.int .i64 f1) ∧ wx.cell? ⟨g, q * 5 + 2, none⟩ = some (.int .i64 f2))) (by kernel_rfl) ?_ (fun hHeld => ?_)
   ·exact ⟨x2, s1, s2⟩
   refine tkH 0 rfl ?_
   refine tkH 1 rfl ?_
   refine tkH 2 rfl ?_
   refine tkH 3 rfl ?_
   refine tkH 4 rfl ?_
   refine tkH 5 rfl ?_
   refine tkH 6 rfl ?_
   refine tkH 7 rfl ?_
   refine tkH 8 rfl ?_
   refine tkH 9 rfl ?_
   refine tkH 10 rfl ?_
   refine tkH 11 rfl ?_
   refine tkH 12 rfl ?_
   refine tkH 13 rfl ?_
   refine tkH 14 rfl ?_
   refine wpAnyH_done (by kernel_rfl) (NoPanic.normal ?_) _
   have y2 := (uh C1).cell 2 rfl
   obtain ⟨t0, t1, t2, t3, t4⟩ := uh HSC w0.drew (uh BK1)
   clear hHeld
   generalize w0.drew = w1 at *
   have hw1 : w.heap.size + 1 < w1.heap.size := (uh R1).1
   go_upto_region 3 with fail
   refine wp_region_noPanic ?_
   refine wp_region_held_drew (S := (fun wx => wx.cell? ⟨w.heap.size, 2, none⟩ = some (.int .i64 c.sq) ∧ wx.cell? ⟨g, q * 5 + 1, none⟩ = some (.int .i64 f1) ∧ wx.cell? ⟨g, q * 5 + 2, none⟩ = some (.int .i64 f2))) (by kernel_rfl) ?_ (fun hHeld => ?_)
   ·exact ⟨y2, t1, t2⟩
   refine tkH 0 rfl ?_
   refine tkH 1 rfl ?_
   refine tkH 2 rfl ?_
   refine tkH 3 rfl ?_
   refine tkH 4 rfl ?_
   refine tkH 5 rfl ?_
   refine tkH 6 rfl ?_
   refine wpAnyH_done (by kernel_rfl) (NoPanic.normal ?_) _
   clear hHeld
   have hb1 := below_drewN (Below.refl w1.heap.size w1) 1
   have K2 := hbt K1 hb1
   have C2 := Hd ((uh C1).below hb1)
   have R2 := Hd ((uh R1).below hb1)
   have BK2 := Hd ((uh HBK).below (uh K2))
   change Hid (Below w.heap.size w w1.drew) at K2
   change Hid (Blk w1.drew _ _) at C2
   change Hid (Blk w1.drew _ _) at R2
   change Hid (Bk B w1.drew p lv tp (.slice (some ⟨g, 0, none⟩) ss.length cap) S ls o ss) at BK2
   clear hb1 y2 t0 t1 t2 t3 t4
   generalize w1.drew = w2 at *
   have hw2 : w.heap.size + 1 < w2.heap.size := (uh R2).1
   have RX := uh R2
   obtain ⟨⟨rz0, rz1, rz2⟩, fz0, fz1, fz2⟩ := Blk.c3 RX
   have HR9 := Hd (((RX.set 0 (.int .i64 3) (by simp)).set 1 (.int .i64 0) (by simp)).set 2 (.string ⟨#[]⟩) (by simp))
   have HT9 := Hd ((((Touch.refl (fun q => q = w.heap.size + 1) w2).setCell ⟨w.heap.size + 1, 0, none⟩ (.int .i64 3) (fun _ => rfl)).setCell ⟨w.heap.size + 1, 1, none⟩ (.int .i64 0) (fun _ => rfl)).setCell ⟨w.heap.size + 1, 2, none⟩ (.string ⟨#[]⟩) (fun _ => rfl))
   clear RX
   go_wp2_with fail
   have R9 := uh HR9
   have z0 := R9.cell 0 rfl
   have z1 := R9.cell 1 rfl
   have z2 := R9.cell 2 rfl
   refine bodyPost_ret (v := .agg #[.int .i64 3, .int .i64 0, .string ⟨#[]⟩]) (by simp [results, Tryz.results32, go_sem, z0, z1, z2]) rfl ?_
   refine ap_tell (by rw [uh HU, if_neg (fun h => h.2 (uh HKD)), if_pos h9]) ⟨rfl, lv, tp, (.slice (some ⟨g, 0, none⟩) ss.length cap), S, (uh BK2).keep (uh HT9) (fun k e => by rw [e]; exact (uh HBK).av _ (by omega)), fun r _ ha => ha, ?_⟩
   exact (Touch.ofBelow (uh K2)).trans (uh HT9) (fun j hj e => by omega)
  ·have b2 : (f2 != 0) = true := by simp [bne]; exact hkd
   have b3 : (f2 == 0) = false := by rw [beq_eq_false_iff_ne]; exact hkd
   have HKD := Hd hkd
   clear heq hkd
   refine wp_region_noPanic ?_
   refine wp_region_held_drew (S := (fun wx => wx.cell? ⟨w.heap.size, 2, none⟩ = some (.int .i64 c.sq) ∧ wx.cell? ⟨g, q * 5 + 1, none⟩ = some (.int .i64 f1) ∧ wx.cell? ⟨g, q * 5 + 2, none⟩ = some (.int .i64 f2))) (by kernel_rfl) ?_ (fun hHeld => ?_)
   ·exact ⟨x2, s1, s2⟩
   refine tkH 0 rfl ?_
   refine tkH 1 rfl ?_
   refine tkH 2 rfl ?_
   refine tkH 3 rfl ?_
   refine tkH 4 rfl ?_
   refine tkH 5 rfl ?_
   refine tkH 6 rfl ?_
   refine tkH 7 rfl ?_
   refine tkH 8 rfl ?_
   refine tkH 9 rfl ?_
   refine tkH 10 rfl ?_
   refine tkH 11 rfl ?_
   refine tkH 12 rfl ?_
   refine tkH 13 rfl ?_
   refine tkH 14 rfl ?_
   refine wpAnyH_done (by kernel_rfl) (NoPanic.normal ?_) _
   have y2 := (uh C1).cell 2 rfl
   obtain ⟨t0, t1, t2, t3, t4⟩ := uh HSC w0.drew (uh BK1)
   clear hHeld
   generalize w0.drew = w1 at *
   have hw1 : w.heap.size + 1 < w1.heap.size := (uh R1).1
   have RX := uh R1
   obtain ⟨⟨rz0, rz1, rz2⟩, fz0, fz1, fz2⟩ := Blk.c3 RX
   have HR9 := Hd (((RX.set 0 (.int .i64 f2) (by simp)).set 1 (.int .i64 f3) (by simp)).set 2 (.string f4) (by simp))
   have HT9 := Hd ((((Touch.refl (fun q => q = w.heap.size + 1) w1).setCell ⟨w.heap.size + 1, 0, none⟩ (.int .i64 f2) (fun _ => rfl)).setCell ⟨w.heap.size + 1, 1, none⟩ (.int .i64 f3) (fun _ => rfl)).setCell ⟨w.heap.size + 1, 2, none⟩ (.string f4) (fun _ => rfl))
   clear RX
   go_wp2_with fail
   have R9 := uh HR9
   have z0 := R9.cell 0 rfl
   have z1 := R9.cell 1 rfl
   have z2 := R9.cell 2 rfl
   refine bodyPost_ret (v := .agg #[.int .i64 f2, .int .i64 f3, .string f4]) (by simp [results, Tryz.results32, go_sem, z0, z1, z2]) rfl ?_
   refine ap_tell (by rw [uh HU, if_pos ⟨uh HEQ, uh HKD⟩]) ⟨rfl, lv, tp, (.slice (some ⟨g, 0, none⟩) ss.length cap), S, (uh BK1).keep (uh HT9) (fun k e => by rw [e]; exact (uh HBK).av _ (by omega)), fun r _ ha => ha, ?_⟩
   exact (Touch.ofBelow (uh K1)).trans (uh HT9) (fun j hj e => by omega)
 ·have b1 : (c.sq == f1) = false := by rw [beq_eq_false_iff_ne]; exact heq
  have HEQ := Hd heq
  by_cases h9 : c.sq ≤ f1
  ·clear heq
   refine wp_region_noPanic ?_
   refine wp_region_held_drew (S := (fun wx => wx.cell? ⟨w.heap.size, 2, none⟩ = some (.int .i64 c.sq) ∧ wx.cell? ⟨g, q * 5 + 1, none⟩ = some (.int .i64 f1) ∧ wx.cell? ⟨g, q * 5 + 2, none⟩ = some (.int .i64 f2))) (by kernel_rfl) ?_ (fun hHeld => ?_)
   ·exact ⟨x2, s1, s2⟩
   refine tkH 0 rfl ?_
   refine tkH 1 rfl ?_
   refine tkH 2 rfl ?_
   refine tkH 3 rfl ?_
   refine tkH 4 rfl ?_
   refine tkH 5 rfl ?_
   refine tkH 6 rfl ?_
   refine tkH 7 rfl ?_
   refine wpAnyH_take (i := 8) (oi := _) (v := undef) rfl (by kernel_rfl) (by kernel_rfl) (by kernel_rfl) (fun _ _ _ h => h) (Or.inr ⟨by rfl, rfl⟩) (by assumption) ?_
   (try simp only [Act.put, List.getElem_toArray, List.getElem_cons_succ, List.getElem_cons_zero, List.setIfInBounds_toArray, List.set_cons_zero, List.set_cons_succ])
   refine wpAnyH_take (i := 9) (oi := _) (v := undef) rfl (by kernel_rfl) (by kernel_rfl) (by kernel_rfl) (fun _ _ _ h => h) (Or.inr ⟨by rfl, rfl⟩) (by assumption) ?_
   (try simp only [Act.put, List.getElem_toArray, List.getElem_cons_succ, List.getElem_cons_zero, List.setIfInBounds_toArray, List.set_cons_zero, List.set_cons_succ])
   refine wpAnyH_take (i := 10) (oi := _) (v := undef) rfl (by kernel_rfl) (by kernel_rfl) (by kernel_rfl) (fun _ _ _ h => h) (Or.inr ⟨by rfl, rfl⟩) (by assumption) ?_
   (try simp only [Act.put, List.getElem_toArray, List.getElem_cons_succ, List.getElem_cons_zero, List.setIfInBounds_toArray, List.set_cons_zero, List.set_cons_succ])
   refine wpAnyH_take (i := 11) (oi := _) (v := undef) rfl (by kernel_rfl) (by kernel_rfl) (by kernel_rfl) (fun _ _ _ h => h) (Or.inr ⟨by rfl, rfl⟩) (by assumption) ?_
   (try simp only [Act.put, List.getElem_toArray, List.getElem_cons_succ, List.getElem_cons_zero, List.setIfInBounds_toArray, List.set_cons_zero, List.set_cons_succ])
   refine wpAnyH_take (i := 12) (oi := _) (v := undef) rfl (by kernel_rfl) (by kernel_rfl) (by kernel_rfl) (fun _ _ _ h => h) (Or.inr ⟨by rfl, rfl⟩) (by assumption) ?_
   (try simp only [Act.put, List.getElem_toArray, List.getElem_cons_succ, List.getElem_cons_zero, List.setIfInBounds_toArray, List.set_cons_zero, List.set_cons_succ])
   refine wpAnyH_take (i := 13) (oi := _) (v := undef) rfl (by kernel_rfl) (by kernel_rfl) (by kernel_rfl) (fun _ _ _ h => h) (Or.inr ⟨by rfl, rfl⟩) (by assumption) ?_
   (try simp only [Act.put, List.getElem_toArray, List.getElem_cons_succ, List.getElem_cons_zero, List.setIfInBounds_toArray, List.set_cons_zero, List.set_cons_succ])
   refine tkH 14 rfl ?_
   refine wpAnyH_done (by kernel_rfl) (NoPanic.normal ?_) _
   have y2 := (uh C1).cell 2 rfl
   obtain ⟨t0, t1, t2, t3, t4⟩ := uh HSC w0.drew (uh BK1)
   clear hHeld
   generalize w0.drew = w1 at *
   have hw1 : w.heap.size + 1 < w1.heap.size := (uh R1).1
   go_upto_region 3 with fail
   refine wp_region_noPanic ?_
   refine wp_region_held_drew (S := (fun wx => wx.cell? ⟨w.heap.size, 2, none⟩ = some (.int .i64 c.sq) ∧ wx.cell? ⟨g, q * 5 + 1, none⟩ = some (.int .i64 f1) ∧ wx.cell? ⟨g, q * 5 + 2, none⟩ = some (.int .i64 f2))) (by kernel_rfl) ?_ (fun hHeld => ?_)
   ·exact ⟨y2, t1, t2⟩
   refine tkH 0 rfl ?_
   refine tkH 1 rfl ?_
   refine tkH 2 rfl ?_
   refine tkH 3 rfl ?_
   refine tkH 4 rfl ?_
   refine tkH 5 rfl ?_
   refine tkH 6 rfl ?_
   refine wpAnyH_done (by kernel_rfl) (NoPanic.normal ?_) _
   clear hHeld
   have hb1 := below_drewN (Below.refl w1.heap.size w1) 1
   have K2 := hbt K1 hb1
   have C2 := Hd ((uh C1).below hb1)
   have R2 := Hd ((uh R1).below hb1)
   have BK2 := Hd ((uh HBK).below (uh K2))
   change Hid (Below w.heap.size w w1.drew) at K2
   change Hid (Blk w1.drew _ _) at C2
   change Hid (Blk w1.drew _ _) at R2
   change Hid (Bk B w1.drew p lv tp (.slice (some ⟨g, 0, none⟩) ss.length cap) S ls o ss) at BK2
   clear hb1 y2 t0 t1 t2 t3 t4
   generalize w1.drew = w2 at *
   have hw2 : w.heap.size + 1 < w2.heap.size := (uh R2).1
   have RX := uh R2
   obtain ⟨⟨rz0, rz1, rz2⟩, fz0, fz1, fz2⟩ := Blk.c3 RX
   have HR9 := Hd (((RX.set 0 (.int .i64 3) (by simp)).set 1 (.int .i64 0) (by simp)).set 2 (.string ⟨#[]⟩) (by simp))
   have HT9 := Hd ((((Touch.refl (fun q => q = w.heap.size + 1) w2).setCell ⟨w.heap.size + 1, 0, none⟩ (.int .i64 3) (fun _ => rfl)).setCell ⟨w.heap.size + 1, 1, none⟩ (.int .i64 0) (fun _ => rfl)).setCell ⟨w.heap.size + 1, 2, none⟩ (.string ⟨#[]⟩) (fun _ => rfl))
   clear RX
   go_wp2_with fail
   have R9 := uh HR9
   have z0 := R9.cell 0 rfl
   have z1 := R9.cell 1 rfl
   have z2 := R9.cell 2 rfl
   refine bodyPost_ret (v := .agg #[.int .i64 3, .int .i64 0, .string ⟨#[]⟩]) (by simp [results, Tryz.results32, go_sem, z0, z1, z2]) rfl ?_
   refine ap_tell (by rw [uh HU, if_neg (fun h => (uh HEQ) h.1), if_pos h9]) ⟨rfl, lv, tp, (.slice (some ⟨g, 0, none⟩) ss.length cap), S, (uh BK2).keep (uh HT9) (fun k e => by rw [e]; exact (uh HBK).av _ (by omega)), fun r _ ha => ha, ?_⟩
   exact (Touch.ofBelow (uh K2)).trans (uh HT9) (fun j hj e => by omega)
  have HU2 := Hd (show svOut ⟨ls, o, ss⟩ c q = (⟨lsN, oN, ss.set q ⟨f0, c.sq, rN.kd, rN.pl, rN.vl⟩⟩, rN) by rw [uh HU, if_neg (fun h => heq h.1), if_neg h9])
  clear heq HU
  refine wp_region_noPanic ?_
  refine wp_region_held_drew (S := (fun wx => wx.cell? ⟨w.heap.size, 2, none⟩ = some (.int .i64 c.sq) ∧ wx.cell? ⟨g, q * 5 + 1, none⟩ = some (.int .i64 f1) ∧ wx.cell? ⟨g, q * 5 + 2, none⟩ = some (.int .i64 f2))) (by kernel_rfl) ?_ (fun hHeld => ?_)
  ·exact ⟨x2, s1, s2⟩
  refine tkH 0 rfl ?_
  refine tkH 1 rfl ?_
  refine tkH 2 rfl ?_
  refine tkH 3 rfl ?_
  refine tkH 4 rfl ?_
  refine tkH 5 rfl ?_
  refine tkH 6 rfl ?_
  refine tkH 7 rfl ?_
  refine wpAnyH_take (i := 8) (oi := _) (v := undef) rfl (by kernel_rfl) (by kernel_rfl) (by kernel_rfl) (fun _ _ _ h => h) (Or.inr ⟨by rfl, rfl⟩) (by assumption) ?_
  (try simp only [Act.put, List.getElem_toArray, List.getElem_cons_succ, List.getElem_cons_zero, List.setIfInBounds_toArray, List.set_cons_zero, List.set_cons_succ])
  refine wpAnyH_take (i := 9) (oi := _) (v := undef) rfl (by kernel_rfl) (by kernel_rfl) (by kernel_rfl) (fun _ _ _ h => h) (Or.inr ⟨by rfl, rfl⟩) (by assumption) ?_
  (try simp only [Act.put, List.getElem_toArray, List.getElem_cons_succ, List.getElem_cons_zero, List.setIfInBounds_toArray, List.set_cons_zero, List.set_cons_succ])
  refine wpAnyH_take (i := 10) (oi := _) (v := undef) rfl (by kernel_rfl) (by kernel_rfl) (by kernel_rfl) (fun _ _ _ h => h) (Or.inr ⟨by rfl, rfl⟩) (by assumption) ?_
  (try simp only [Act.put, List.getElem_toArray, List.getElem_cons_succ, List.getElem_cons_zero, List.setIfInBounds_toArray, List.set_cons_zero, List.set_cons_succ])
  refine wpAnyH_take (i := 11) (oi := _) (v := undef) rfl (by kernel_rfl) (by kernel_rfl) (by kernel_rfl) (fun _ _ _ h => h) (Or.inr ⟨by rfl, rfl⟩) (by assumption) ?_
  (try simp only [Act.put, List.getElem_toArray, List.getElem_cons_succ, List.getElem_cons_zero, List.setIfInBounds_toArray, List.set_cons_zero, List.set_cons_succ])
  refine wpAnyH_take (i := 12) (oi := _) (v := undef) rfl (by kernel_rfl) (by kernel_rfl) (by kernel_rfl) (fun _ _ _ h => h) (Or.inr ⟨by rfl, rfl⟩) (by assumption) ?_
  (try simp only [Act.put, List.getElem_toArray, List.getElem_cons_succ, List.getElem_cons_zero, List.setIfInBounds_toArray, List.set_cons_zero, List.set_cons_succ])
  refine wpAnyH_take (i := 13) (oi := _) (v := undef) rfl (by kernel_rfl) (by kernel_rfl) (by kernel_rfl) (fun _ _ _ h => h) (Or.inr ⟨by rfl, rfl⟩) (by assumption) ?_
  (try simp only [Act.put, List.getElem_toArray, List.getElem_cons_succ, List.getElem_cons_zero, List.setIfInBounds_toArray, List.set_cons_zero, List.set_cons_succ])
  refine tkH 14 rfl ?_
  refine wpAnyH_done (by kernel_rfl) (NoPanic.normal ?_) _
  have y2 := (uh C1).cell 2 rfl
  obtain ⟨t0, t1, t2, t3, t4⟩ := uh HSC w0.drew (uh BK1)
  clear hHeld
  generalize w0.drew = w1 at *
  have hw1 : w.heap.size + 1 < w1.heap.size := (uh R1).1
  go_upto_region 3 with fail
  refine wp_region_noPanic ?_
  refine wp_region_held_drew (S := (fun wx => wx.cell? ⟨w.heap.size, 2, none⟩ = some (.int .i64 c.sq) ∧ wx.cell? ⟨g, q * 5 + 1, none⟩ = some (.int .i64 f1) ∧ wx.cell? ⟨g, q * 5 + 2, none⟩ = some (.int .i64 f2))) (by kernel_rfl) ?_ (fun hHeld => ?_)
  ·exact ⟨y2, t1, t2⟩
  refine tkH 0 rfl ?_
  refine tkH 1 rfl ?_
  refine tkH 2 rfl ?_
  refine tkH 3 rfl ?_
  refine tkH 4 rfl ?_
  refine tkH 5 rfl ?_
  refine tkH 6 rfl ?_
  refine wpAnyH_done (by kernel_rfl) (NoPanic.normal ?_) _
  clear hHeld
  have hb1 := below_drewN (Below.refl w1.heap.size w1) 1
  have K2 := hbt K1 hb1
  have C2 := Hd ((uh C1).below hb1)
  have R2 := Hd ((uh R1).below hb1)
  have BK2 := Hd ((uh HBK).below (uh K2))
  change Hid (Below w.heap.size w w1.drew) at K2
  change Hid (Blk w1.drew _ _) at C2
  change Hid (Blk w1.drew _ _) at R2
  change Hid (Bk B w1.drew p lv tp (.slice (some ⟨g, 0, none⟩) ss.length cap) S ls o ss) at BK2
  clear hb1 y2 t0 t1 t2 t3 t4
  generalize w1.drew = w2 at *
  have hw2 : w.heap.size + 1 < w2.heap.size := (uh R2).1
  have hb2 := below_drewN (Below.refl w2.heap.size w2) 1
  have K3 := hbt K2 hb2
  have R3 := Hd ((uh R2).below hb2)
  change Hid (Below w.heap.size w w2.drew) at K3
  change Hid (Blk w2.drew _ _) at R3
  have HC := Hd (uh HDO w2.drew (uh K3))
  have hcl : w.heap.size < w2.drew.heap.size := (uh C2).1
  have hrl : w.heap.size + 1 < w2.drew.heap.size := (uh R2).1
  have HAv := Hd (fun r (hr : w.heap.size ≤ r) => (uh HBK).av r hr)
  obtain ⟨x0, x1, x2, x3, x4⟩ := Blk.c5 (uh C2)
  clear HDO hb2 K1 C1 R1 BK1 BK2 s0 s1 s2 s3 s4 B0 C0 R0 BK0
  go_upto_region 5 with fail
  refine wp_region_noPanic ?_
  refine wp_region_held_drew (S := (fun wx => wx.cell? ⟨w.heap.size, 0, none⟩ = some (.int .i64 c.kd) ∧ wx.cell? ⟨w.heap.size, 1, none⟩ = some (.int .i64 c.ss) ∧ wx.cell? ⟨w.heap.size, 2, none⟩ = some (.int .i64 c.sq) ∧ wx.cell? ⟨w.heap.size, 3, none⟩ = some (.string c.ky) ∧ wx.cell? ⟨w.heap.size, 4, none⟩ = some (.string c.vl))) (by kernel_rfl) ?_ (fun hHeld => ?_)
  ·exact ⟨x0, x1, x2, x3, x4⟩
  refine tkH 0 rfl ?_
  refine tkH 1 rfl ?_
  refine tkH 2 rfl ?_
  refine tkH 3 rfl ?_
  refine tkH 4 rfl ?_
  refine tkH 5 rfl ?_
  refine rdy1 6 rfl (fun K hK => ?_)
  go_simp
  refine (uh HC).mono ?_
  rintro e w3 ⟨rfl, lv3, tp3, S3, bk3, av3, t3⟩
  have k0 := fun i => touch_cell t3 w.heap.size i hcl (fun h => h (uh HAv _ (Nat.le_refl _)))
  have hgr : w.heap.size ≠ g ∧ w.heap.size + 1 ≠ g := ⟨by omega, by omega⟩
  have O3 := bk3.2.2.2.1
  obtain ⟨c0, c1, c2, c3, c4⟩ := OwnSe.cells O3 q (uh HQ) rfl
  have z1 := O3.frozenAt (q * 5 + 1)
  have z2 := O3.frozenAt (q * 5 + 2)
  have z3 := O3.frozenAt (q * 5 + 3)
  have z4 := O3.frozenAt (q * 5 + 4)
  have HH3 := Hd (And.intro bk3 (And.intro av3 t3))
  have HK0 := Hd k0
  have x30 := (k0 0).trans x0
  have x31 := (k0 1).trans x1
  have x32 := (k0 2).trans x2
  have x33 := (k0 3).trans x3
  have x34 := (k0 4).trans x4
  rw [← uh HFE] at c1 c2 c3 c4
  dsimp only at c1 c2 c3 c4
  clear bk3 av3 t3 k0 O3 c0 HC
  go_wp2_with fail
  refine outH hK ?_ (fun hHeld => ?_)
  ·exact ⟨x30, x31, x32, x33, x34⟩
  clear hK K
  refine tkH 7 rfl ?_
  refine tkH 8 rfl ?_
  refine rdy1 9 rfl (fun K hK => ?_)
  go_simp
  refine outH hK ?_ (fun hHeld => ?_)
  ·exact ⟨by go_simp, by go_simp, by go_simp, by go_simp, by go_simp⟩
  clear hK K
  refine tkH 10 rfl ?_
  refine tkH 11 rfl ?_
  refine rdy1 12 rfl (fun K hK => ?_)
  go_simp
  refine outH hK ?_ (fun hHeld => ?_)
  ·exact ⟨by go_simp, by go_simp, by go_simp, by go_simp, by go_simp⟩
  clear hK K
  refine wpAnyH_done (by kernel_rfl) (NoPanic.normal ?_) _
  obtain ⟨bk3, av3, t3⟩ := uh HH3
  have T7 := (((((Touch.refl (fun k => k = g) w3).setCell ⟨g, q * 5 + 1, none⟩ (.int .i64 c.sq) (fun _ => rfl)).setCell ⟨g, q * 5 + 2, none⟩ (.int .i64 rN.kd) (fun _ => rfl)).setCell ⟨g, q * 5 + 3, none⟩ (.int .i64 rN.pl) (fun _ => rfl)).setCell ⟨g, q * 5 + 4, none⟩ (.string rN.vl) (fun _ => rfl))
  have o1 := (bk3.2.2.2.1.stored (q * 5 + 1) (.int .i64 c.sq)).1
  have o2 := (o1.stored (q * 5 + 2) (.int .i64 rN.kd)).1
  have o3 := (o2.stored (q * 5 + 3) (.int .i64 rN.pl)).1
  have o4 := (o3.stored (q * 5 + 4) (.string rN.vl)).1
  have hse := sesC_set4 ss q c.sq rN.kd rN.pl rN.vl (uh HQ)
  rw [hse, ← uh HFE] at o4
  dsimp only at o4
  have hlen : (ss.set q ⟨f0, c.sq, rN.kd, rN.pl, rN.vl⟩).length = ss.length := by simp
  have O7 : OwnSe B ((((w3.setCell ⟨g, q * 5 + 1, none⟩ (.int .i64 c.sq)).setCell ⟨g, q * 5 + 2, none⟩ (.int .i64 rN.kd)).setCell ⟨g, q * 5 + 3, none⟩ (.int .i64 rN.pl)).setCell ⟨g, q * 5 + 4, none⟩ (.string rN.vl)) (.slice (some ⟨g, 0, none⟩) ss.length cap) (ss.set q ⟨f0, c.sq, rN.kd, rN.pl, rN.vl⟩) := by unfold OwnSe; rw [hlen]; exact o4
  have BK7 := Hd (bk3.ses T7 O7)
  have R7 := Hd (((uh R3).kept t3 (fun h => h (uh HAv _ (by omega)))).kept T7 (fun e => hgr.2 e))
  have HT7 := Hd (((Touch.ofBelow (T := fun k => ¬ Av p lv (.slice (some ⟨g, 0, none⟩) ss.length cap) S k) (uh K3)).trans t3 (fun _ _ e => e)).trans T7 (fun j _ e h => h.2.2.1 (by rw [e]; rfl)))
  have HAV7 := Hd (fun r (hr : r < w.heap.size) (ha : Av p lv (.slice (some ⟨g, 0, none⟩) ss.length cap) S r) => av3 r (by have := (uh K3).size; omega) ha)
  have HR7 := Hd (av3 _ hrl (uh HAv _ (by omega)))
  obtain ⟨u0, u1, u2, u3, u4⟩ := OwnSe.cells o4 q (by rw [hlen]; exact uh HQ) hlen.symm
  rw [setS_get ss q _ (uh HQ) q, if_pos rfl] at u0 u1 u2 u3 u4
  dsimp only at u0 u1 u2 u3 u4
  clear hHeld bk3 av3 t3 T7 o1 o2 o3 o4 hse hlen O7 HH3 HK0 R3 K3 c1 c2 c3 c4 z1 z2 z3 z4 x30 x31 x32 x33 x34 x0 x1 x2 x3 x4 u0 u1
  generalize ((((w3.setCell ⟨g, q * 5 + 1, none⟩ (.int .i64 c.sq)).setCell ⟨g, q * 5 + 2, none⟩ (.int .i64 rN.kd)).setCell ⟨g, q * 5 + 3, none⟩ (.int .i64 rN.pl)).setCell ⟨g, q * 5 + 4, none⟩ (.string rN.vl)) = w7 at *
  have hw7 : w.heap.size + 1 < w7.heap.size := (uh R7).1
  have RX := uh R7
  obtain ⟨⟨rz0, rz1, rz2⟩, fz0, fz1, fz2⟩ := Blk.c3 RX
  have HR9 := Hd (((RX.set 0 (.int .i64 rN.kd) (by simp)).set 1 (.int .i64 rN.pl) (by simp)).set 2 (.string rN.vl) (by simp))
  have HT9 := Hd ((((Touch.refl (fun q => q = w.heap.size + 1) w7).setCell ⟨w.heap.size + 1, 0, none⟩ (.int .i64 rN.kd) (fun _ => rfl)).setCell ⟨w.heap.size + 1, 1, none⟩ (.int .i64 rN.pl) (fun _ => rfl)).setCell ⟨w.heap.size + 1, 2, none⟩ (.string rN.vl) (fun _ => rfl))
  clear RX
  go_wp2_with fail
  have R9 := uh HR9
  have z0 := R9.cell 0 rfl
  have z1 := R9.cell 1 rfl
  have z2 := R9.cell 2 rfl
  refine bodyPost_ret (v := .agg #[.int .i64 rN.kd, .int .i64 rN.pl, .string rN.vl]) (by simp [results, Tryz.results32, go_sem, z0, z1, z2]) rfl ?_
  refine ap_tell (uh HU2) ⟨rfl, lv3, tp3, (.slice (some ⟨g, 0, none⟩) ss.length cap), S3, (uh BK7).keep (uh HT9) (fun k e => by rw [e]; exact uh HR7), uh HAV7, ?_⟩
  exact (uh HT7).trans (uh HT9) (fun j hj e => by omega)
end Go.Proofs.YtlbcdngidfjogaaGreatDoor.Sha
namespace Go.Proofs.YtlbcdngidfjogaaGreatDoor
set_option maxRecDepth 100000
set_option maxHeartbeats 8000000
open Go.ChangeShapes Go.WideShapes Go.ChangeAt Go.RowKit Go.Deep
set_option linter.unusedVariables false
set_option linter.unusedSimpArgs false
theorem wrapSe2 (n : Int) (h0 : -9223372036854775808 ≤ n) (h1 : n < 9223372036854775808) : IntKind.i64.wrap n = n := by
 simp only [IntKind.wrap, IntKind.bits, IntKind.signed]
 simp
 omega
def cmpV (a b : Int) : Int := if a < b then -1 else if b < a then 1 else 0
theorem isNaN_any (x : Int) (w : World) : Calls Tryz.prog 50 #[.int .i64 x] w fun e w' => e = .returned (.bool false) ∧ w' = w := by
 have b1 : (x == x) = true := by simp
 have b2 : (x != x) = false := by simp
 go_enter Tryz.func50, Tryz.ntmps50
 go_wp2_with fail
 go_ret
 exact ⟨rfl, rfl⟩
theorem compare_any (x y : Int) (w : World) : Calls Tryz.prog 40 #[.int .i64 x, .int .i64 y] w fun e w' => e = .returned (.int .i64 (cmpV x y)) ∧ w' = w := by
 have E : Hid (cmpV x y = if x < y then -1 else if y < x then 1 else 0) := Hd rfl
 generalize cmpV x y = r at *
 have H1 := Hd (fun wx => isNaN_any x wx)
 have H2 := Hd (fun wx => isNaN_any y wx)
 go_enter Tryz.func40, Tryz.ntmps40
 go_wp2_with fail
 refine (uh H1 _).mono ?_
 rintro e w' ⟨rfl, hw'⟩
 have hw2 := hw'.symm
 clear hw'
 subst hw2
 go_wp2_with fail
 refine (uh H2 _).mono ?_
 rintro e w' ⟨rfl, hw'⟩
 have hw2 := hw'.symm
 clear hw'
 subst hw2
 clear H1 H2
 by_cases h1 : x < y
 ·rw [if_pos h1] at E
  go_wp2_with fail
  go_ret
  exact ⟨ret_int (uh E).symm, rfl⟩
 ·rw [if_neg h1] at E
  by_cases h2 : y < x
  ·rw [if_pos h2] at E
   go_wp2_with fail
   go_ret
   exact ⟨ret_int (uh E).symm, rfl⟩
  ·rw [if_neg h2] at E
   go_wp2_with fail
   go_ret
   exact ⟨ret_int (uh E).symm, rfl⟩
theorem session1_any (s : Se) (id : Int) (w : World) : Calls Tryz.prog 39 #[.agg #[.int .i64 s.id, .int .i64 s.sq, .int .i64 s.kd, .int .i64 s.pl, .string s.vl], .int .i64 id] w fun e w' => e = .returned (.int .i64 (cmpV s.id id)) ∧ Below w.heap.size w w' := by
 obtain ⟨f0, f1, f2, f3, f4⟩ := s
 dsimp only
 have H1 := Hd (fun wx => compare_any f0 id wx)
 generalize cmpV f0 id = r at *
 go_enter Tryz.func39, Tryz.ntmps39
 go_wp2_with fail
 refine (uh H1 _).mono ?_
 rintro e w' ⟨rfl, hw'⟩
 have hw2 := hw'.symm
 clear hw'
 subst hw2
 go_wp2_with fail
 go_ret
 exact ⟨rfl, (Below.refl _ _).alloc (Nat.le_refl _) _⟩
theorem bsearch_any (v : Value) (ss : List Se) (id : Int) (w : World) (h : Sess w v ss) (hs : ss.length ≤ 1048576) (hr : RiseS ss) :
  Calls Tryz.prog 38 #[v, .int .i64 id, .func (.func 39) #[] #[]] w fun e w' => e = .returned (.tuple #[.int .i64 (posS ss id), .bool (hasS ss id)]) ∧ Below w.heap.size w w' := by
 have HP := Hd (pos_is (id := id) hr)
 have HR := Hd hr
 obtain ⟨a, cap, rfl, hn, hm, hc⟩ := h
 have HC := Hd hc
 clear hc hn hm hr
 go_enter Tryz.func38, Tryz.ntmps38
 go_wp2_with fail
 go_loopw [9, 10, 11] (fun vi vj _ wr => ∃ i j : Nat, i ≤ j ∧ j ≤ ss.length ∧ vi = .int .i64 i ∧ vj = .int .i64 j ∧ Hid (∀ k, k < i → (ss.getD k default).id < id) ∧ Hid (∀ k, j ≤ k → k < ss.length → id ≤ (ss.getD k default).id) ∧ Below w.heap.size w wr) (fun vi vj _ _ => (intOf vj).toNat - (intOf vi).toNat)
 case atStart => exact ⟨0, ss.length, Nat.zero_le _, Nat.le_refl _, rfl, rfl, Hd (fun k hk => by omega), Hd (fun k h1 h2 => by omega), Below.refl _ _⟩
 case round =>
  obtain ⟨i, j, hij, hj, rfl, rfl, hlo, hhi, hb⟩ := hrel
  by_cases hlt : i < j
  ·have q0 : (i : Int) < (j : Int) := by omega
   have q1 : IntKind.i64.wrap ((i : Int) + (j : Int)) = (i : Int) + (j : Int) := wrapSe2 _ (by omega) (by omega)
   obtain ⟨q, q2, hq1, hq2⟩ : ∃ q : Nat, ((i : Int) + (j : Int)) / 2 = (q : Int) ∧ i ≤ q ∧ q < j := ⟨(i + j) / 2, by omega, by omega, by omega⟩
   obtain ⟨b, off, rfl, hbl, hsrc⟩ : ∃ b off, a = some ⟨b, off, none⟩ ∧ b < w.heap.size ∧ ∀ i, i < ss.length → w.cell? ⟨b, off + i * 5, none⟩ = some (.int .i64 (ss.getD i default).id) ∧ w.cell? ⟨b, off + i * 5 + 1, none⟩ = some (.int .i64 (ss.getD i default).sq) ∧ w.cell? ⟨b, off + i * 5 + 2, none⟩ = some (.int .i64 (ss.getD i default).kd) ∧ w.cell? ⟨b, off + i * 5 + 3, none⟩ = some (.int .i64 (ss.getD i default).pl) ∧ w.cell? ⟨b, off + i * 5 + 4, none⟩ = some (.string (ss.getD i default).vl) := by
    rcases uh HC with h0 | h1
    ·omega
    ·exact h1
   obtain ⟨s0, s1, s2, s3, s4⟩ := hsrc q (by omega)
   have c0 := (hb.cell (p := ⟨b, off + q * 5, none⟩) hbl).trans s0
   have c1 := (hb.cell (p := ⟨b, off + q * 5 + 1, none⟩) hbl).trans s1
   have c2 := (hb.cell (p := ⟨b, off + q * 5 + 2, none⟩) hbl).trans s2
   have c3 := (hb.cell (p := ⟨b, off + q * 5 + 3, none⟩) hbl).trans s3
   have c4 := (hb.cell (p := ⟨b, off + q * 5 + 4, none⟩) hbl).trans s4
   have m0 : (0 : Int) ≤ (q : Int) := by omega
   have m1 : (q : Int) < (ss.length : Int) := by omega
   have HB := Hd hb
   have hbs := hb.size
   have HX := Hd (And.intro hq1 hq2)
   have HRS := HR
   clear hsrc s0 s1 s2 s3 s4 hb hq1 hq2
   have HT := Hd (fun wx => session1_any (ss.getD q default) id wx)
   obtain ⟨f, hf⟩ : ∃ f, f = ss.getD q default := ⟨_, rfl⟩
   have HFe := Hd hf
   rw [← hf] at c0 c1 c2 c3 c4 HT
   clear hf
   obtain ⟨f0, f1, f2, f3, f4⟩ := f
   dsimp only at c0 c1 c2 c3 c4 HT
   have HID := Hd (show (ss.getD q default).id = f0 by rw [← uh HFe])
   go_wp2_with fail
   refine (uh HT wr).mono ?_
   rintro e w2 ⟨rfl, hb2⟩
   have HB2 := Hd ((uh HB).trans (hb2.mono hbs))
   clear hb2 HB HT c0 c1 c2 c3 c4
   by_cases hlo2 : f0 < id
   ·have e1 : cmpV f0 id = -1 := by unfold cmpV; rw [if_pos hlo2]
    rw [e1]
    clear e1
    have q3 : IntKind.i64.wrap ((q : Int) + 1) = (q : Int) + 1 := wrapSe2 _ (by omega) (by omega)
    go_wp2_with fail
    obtain ⟨x1, x2⟩ := uh HX
    refine ⟨⟨q + 1, j, by omega, hj, by push_cast; rfl, rfl, Hd (fun k hk => ?_), hhi, uh HB2⟩, ?_⟩
    ·by_cases e : k = q
     ·rw [e, uh HID]; exact hlo2
     ·have := uh HRS k q (by omega) (by omega)
      rw [uh HID] at this
      omega
    ·simp [intOf]; omega
   ·have e1 : ¬ cmpV f0 id < 0 := by unfold cmpV; rw [if_neg hlo2]; split <;> omega
    generalize cmpV f0 id = cv at *
    go_wp2_with fail
    obtain ⟨x1, x2⟩ := uh HX
    refine ⟨⟨i, q, x1, by omega, rfl, rfl, hlo, Hd (fun k h1 h2 => ?_), uh HB2⟩, ?_⟩
    ·by_cases e : k = q
     ·rw [e, uh HID]; omega
     ·have := uh HRS q k (by omega) h2
      rw [uh HID] at this
      omega
    ·simp [intOf]; omega
  ·obtain rfl : i = j := by omega
   have HPi : Hid (posS ss id = i) := Hd ((uh HP).uniq ⟨hj, uh hlo, uh hhi⟩)
   have HHa : Hid (hasS ss id = decide (i < ss.length ∧ (ss.getD i default).id = id)) := Hd (by unfold hasS; rw [uh HPi])
   have HB := Hd hb
   have hbs := hb.size
   by_cases hin : i < ss.length
   ·obtain ⟨b, off, rfl, hbl, hsrc⟩ : ∃ b off, a = some ⟨b, off, none⟩ ∧ b < w.heap.size ∧ ∀ i, i < ss.length → w.cell? ⟨b, off + i * 5, none⟩ = some (.int .i64 (ss.getD i default).id) ∧ w.cell? ⟨b, off + i * 5 + 1, none⟩ = some (.int .i64 (ss.getD i default).sq) ∧ w.cell? ⟨b, off + i * 5 + 2, none⟩ = some (.int .i64 (ss.getD i default).kd) ∧ w.cell? ⟨b, off + i * 5 + 3, none⟩ = some (.int .i64 (ss.getD i default).pl) ∧ w.cell? ⟨b, off + i * 5 + 4, none⟩ = some (.string (ss.getD i default).vl) := by
     rcases uh HC with h0 | h1
     ·omega
     ·exact h1
    obtain ⟨s0, s1, s2, s3, s4⟩ := hsrc i hin
    have c0 := (hb.cell (p := ⟨b, off + i * 5, none⟩) hbl).trans s0
    have c1 := (hb.cell (p := ⟨b, off + i * 5 + 1, none⟩) hbl).trans s1
    have c2 := (hb.cell (p := ⟨b, off + i * 5 + 2, none⟩) hbl).trans s2
    have c3 := (hb.cell (p := ⟨b, off + i * 5 + 3, none⟩) hbl).trans s3
    have c4 := (hb.cell (p := ⟨b, off + i * 5 + 4, none⟩) hbl).trans s4
    have m0 : (0 : Int) ≤ (i : Int) := by omega
    have m1 : (i : Int) < (ss.length : Int) := by omega
    have HT := Hd (fun wx => session1_any (ss.getD i default) id wx)
    clear hsrc s0 s1 s2 s3 s4 hb hlo hhi HR HP
    generalize ss.getD i default = f at *
    obtain ⟨f0, f1, f2, f3, f4⟩ := f
    dsimp only at c0 c1 c2 c3 c4 HT HHa
    go_wp2_with fail
    refine (uh HT wr).mono ?_
    rintro e w2 ⟨rfl, hb2⟩
    have HB2 := Hd ((uh HB).trans (hb2.mono hbs))
    clear hb2 HB HT c0 c1 c2 c3 c4
    by_cases heq : f0 = id
    ·have e1 : cmpV f0 id = 0 := by unfold cmpV; rw [if_neg (by omega), if_neg (by omega)]
     rw [e1]
     clear e1
     have HH2 : Hid (hasS ss id = true) := Hd (by rw [uh HHa]; simp [hin, heq])
     go_wp2_with fail
     refine bodyPost_ret (v := .tuple #[.int .i64 (i : Int), .bool true]) (by simp [results, Tryz.results38, go_sem]) rfl ?_
     rw [uh HPi, uh HH2]
     exact ⟨rfl, uh HB2⟩
    ·have e1 : (cmpV f0 id == 0) = false := by rw [beq_eq_false_iff_ne]; unfold cmpV; split <;> (try split) <;> omega
     generalize cmpV f0 id = cv at *
     have HH2 : Hid (hasS ss id = false) := Hd (by rw [uh HHa]; simp [heq])
     go_wp2_with fail
     refine bodyPost_ret (v := .tuple #[.int .i64 (i : Int), .bool false]) (by simp [results, Tryz.results38, go_sem]) rfl ?_
     rw [uh HPi, uh HH2]
     exact ⟨rfl, uh HB2⟩
   ·have HH2 : Hid (hasS ss id = false) := Hd (by rw [uh HHa]; simp [hin])
    obtain rfl : i = ss.length := by omega
    clear hb hlo hhi HR HP
    go_wp2_with fail
    refine bodyPost_ret (v := .tuple #[.int .i64 (ss.length : Int), .bool false]) (by simp [results, Tryz.results38, go_sem]) rfl ?_
    rw [uh HPi, uh HH2]
    exact ⟨rfl, uh HB⟩
theorem session_any (p : Nat) (v : Value) (ss : List Se) (id : Int) (w : World) (h : Sess w v ss) (hc : w.cell? ⟨p, 2, none⟩ = some v) (hs : ss.length ≤ 1048576) (hr : RiseS ss) :
  Calls Tryz.prog 29 #[.pointer (some ⟨p, 0, none⟩), .int .i64 id] w fun e w' => e = .returned (.tuple #[.int .i64 (posS ss id), .bool (hasS ss id)]) ∧ Below w.heap.size w w' := by
 have HB := Hd (bsearch_any v ss id w h hs hr)
 generalize posS ss id = q at *
 generalize hasS ss id = bo at *
 clear h hr
 go_enter Tryz.func29, Tryz.ntmps29
 go_wp2_with fail
 refine (uh HB).mono ?_
 rintro e w1 ⟨rfl, hb⟩
 have K := Hd hb
 clear hb HB
 go_wp2_with fail
 refine bodyPost_ret (v := .tuple #[.int .i64 (q : Int), .bool bo]) (by simp [results, Tryz.results29, go_sem]) rfl ?_
 exact ⟨rfl, uh K⟩
end Go.Proofs.YtlbcdngidfjogaaGreatDoor
namespace Go.Proofs.YtlbcdngidfjogaaGreatDoor
set_option maxRecDepth 100000
set_option maxHeartbeats 8000000
open Go.ChangeShapes Go.WideShapes Go.ChangeAt Go.RowKit
set_option linter.unusedVariables false
set_option linter.unusedSimpArgs false
theorem run_copy_rows {P : Program} (w : World) (dT sT ty elem : TypeId) (sz g o dLen dCap : Nat) (a : Addr) (sLen sCap : Nat) (cur : Array Value) (t : TypeId) (cs : List Value)
  (hu : P.underlying dT = some (.slice elem)) (hs : (P.info? elem).map (·.size) = some sz)
  (hg : w.heap[g]? = some (.cells cur t (0, 0))) (hn : cs.length = Nat.min sLen dLen * sz)
  (hsrc : ∀ j v, cs[j]? = some v → w.cell? (a.add j) = some v) (hfit : o + cs.length ≤ cur.size) (h1 : ∀ v ∈ cs, v.oneCell' = true) :
  (Builtin.copy_ #[dT, sT] ty #[.slice (some ⟨g, o, none⟩) dLen dCap, .slice (some a) sLen sCap]).run P w =
   .ok (goInt (Nat.min sLen dLen)) (w.setRow g (cur.toList.take o ++ cs ++ cur.toList.drop (o + cs.length)).toArray) := by
 have hl := run_loadCells_list (P := P) w a cs hsrc
 have hst := run_storeCells_at P g o t cs 0 cur w hg (by simpa using hfit) h1
 cases hq : P.info? elem with
 | none => simp [hq] at hs
 | some i =>
  have hi : i.size = sz := by simpa [hq] using hs
  rw [hn] at hl
  simp [Builtin.copy_, run_underlying hu, Builtin.lenOf, Builtin.firstCells, sizeOf, typeInfo, hq, hi, hl, hst]
theorem wp_copy_rows {P : Program} (w : World) {o : Oper} {a : Act} {K : Act → World → Prop} {Q : Exit → Act → World → Prop} (d s : Operand) (t t' : TypeId)
  (ho : o.op = .call { callee := .builtin .copy, args := #[d, s], argTypes := #[t, t'] }) (v u : Value) (hd : a.eval d = v) (hs : a.eval s = u) {v' : Value} {w' : World}
  (hr : (Builtin.copy_ #[t, t'] o.type #[v, u]).run P w = .ok v' w') (h : K (a.put o.dst v') w') : o.wp P a w K Q := by
 unfold Oper.wp execOp
 simp only [ho, resolve, invoke, builtin, Sem.run_bind, Sem.run_pure, Result.andThen_ok, List.map_toArray, List.map_cons, List.map_nil, hd, hs, hr]
 exact h
theorem wpList_copy_rows {P : Program} (w : World) {ops : Array Oper} {rest : List Oper} {o : Oper} {a : Act} {Q : Exit → Act → World → Prop} (hgd : o.guard = none) (d s : Operand) (t t' : TypeId)
  (ho : o.op = .call { callee := .builtin .copy, args := #[d, s], argTypes := #[t, t'] }) (v u : Value) (hd : a.eval d = v) (hs : a.eval s = u) {v' : Value} {w' : World}
  (hr : (Builtin.copy_ #[t, t'] o.type #[v, u]).run P w = .ok v' w') (h : wpList P ops Q rest (a.put o.dst v') w') : wpList P ops Q (o :: rest) a w :=
 wpList_plain hgd fun _ hK => wp_copy_rows w d s t t' ho v u hd hs hr (hK _ _ h)
theorem step_copy_rows {P : Program} {ops : Array Oper} {o : Oper} {a : Act} {w : World} {K : Act → World → Prop} {Q : Exit → Act → World → Prop} {E : Prop}
  (hg : o.guard = none) (d x : Operand) (dT sT : TypeId) (hop : o.op = Op.call { callee := Callee.builtin Builtin.copy, args := #[d, x], argTypes := #[dT, sT] })
  (v u : Value) (hd : a.eval d = v) (hx : a.eval x = u) {v' : Value} {w' : World} (hr : (Builtin.copy_ #[dT, sT] o.type #[v, u]).run P w = .ok v' w') (hK : K (a.put o.dst v') w') :
  if Region.wanted o (yielded ops a.tmps) = true then Oper.wp P o a w K Q else E := by
 have hw : Region.wanted o (yielded ops a.tmps) = true := by simp [Region.wanted, hg]
 rw [if_pos hw]
 unfold Oper.wp
 simp [execOp, hop, resolve, invoke, builtin, hd, hx, hr, Result.andThen]
 exact hK
end Go.Proofs.YtlbcdngidfjogaaGreatDoor
