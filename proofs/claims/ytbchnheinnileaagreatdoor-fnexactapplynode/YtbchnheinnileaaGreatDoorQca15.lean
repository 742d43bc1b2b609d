/- What the proof of the claim needs (joined by program): ApO. -/
import Derived.Test.YtbchnheinnileaaGreatDoorQca14
import Derived.Test.YtbchnheinnileaaGreatDoorQca01
import Derived.Test.YtbchnheinnileaaGreatDoorQca12
import Derived.Test.YtbchnheinnileaaGreatDoorQca11
import Derived.Test.YtbchnheinnileaaGreatDoorQca10
import Derived.Deep.RegionHeld3
import Derived.Deep.RegionLaw
import Derived.Deep.Cut
namespace Go.Proofs.YtbchnheinnileaaGreatDoor
set_option maxRecDepth 100000
set_option maxHeartbeats 8000000
open Go.ChangeShapes Go.WideShapes Go.ChangeAt Go.RowKit Go.Deep
open Sha (Fresh own_fresh)
set_option linter.unusedVariables false
set_option linter.unusedSimpArgs false
def opN (ss : List Se) (c : Cm) : List Se × Int :=
 if c.kd = 5 then (if hasS ss c.ss then (delS ss (posS ss c.ss), 1) else (ss, 4))
 else if hasS ss c.ss then (ss, 5) else if ss.length = 8 then (ss, 6) else (insS ss (posS ss c.ss) (newS c.ss), 1)
theorem Blk.rw {w : World} {b : Nat} {cs : List Value} (h : Blk w b cs) : ∀ j u, cs[j]? = some u → w.cell? ((⟨b, 0, none⟩ : Addr).add j) = some u := fun j u hj => by rw [Addr.add_lit, Nat.zero_add]; exact h.cell j hj
theorem l09Open_any (ss : List Se) (bk bv : ByteArray) (ba : Int) (la ka sa : Option Addr) (ln lc kn kc sc : Nat) (c : Cm) (w : World) (hS : Sess w (.slice sa ss.length sc) ss) (hr : RiseS ss) (hm : ss.length ≤ 8) :
  Calls Tryz.prog 63 #[.agg #[.slice la ln lc, .string bk, .string bv, .int .i64 ba, .slice ka kn kc, .slice sa ss.length sc], .agg #[.int .i64 c.kd, .int .i64 c.ss, .int .i64 c.sq, .string c.ky, .string c.vl]] w fun e w' => ∃ a n c', e = .returned (.tuple #[.agg #[.slice la ln lc, .string bk, .string bv, .int .i64 ba, .slice ka kn kc, .slice a n c'], .agg #[.int .i64 (opN ss c).2, .int .i64 0, .string ⟨#[]⟩]]) ∧ Sess w' (.slice a n c') (opN ss c).1 ∧ Below w.heap.size w w' ∧ Fresh w.heap.size (.slice sa ss.length sc) (.slice a n c') := by
 obtain ⟨i0, hi, hz0, hz1, hz2⟩ := info_parts infoSe
 have hpos := pos_is (id := c.ss) hr
 have HPos := Hd hpos
 have HU : Hid (opN ss c = if c.kd = 5 then (if hasS ss c.ss then (delS ss (posS ss c.ss), 1) else (ss, 4)) else if hasS ss c.ss then (ss, 5) else if ss.length = 8 then (ss, 6) else (insS ss (posS ss c.ss) (newS c.ss), 1)) := Hd rfl
 have HSI : Hid (seI ss c.ss = if hasS ss c.ss then (posS ss c.ss : Int) else -1) := Hd rfl
 have HHas : Hid (hasS ss c.ss = true → posS ss c.ss < ss.length) := Hd (fun h => (has_iff.1 h).1)
 have hsc : ss.length ≤ sc ∧ sc ≤ maxLen := by
  obtain ⟨a', cap', e, h1, h2, _⟩ := hS
  simp only [Value.slice.injEq] at e
  omega
 have HSE := Hd (fun wx (hx : Sess wx (.slice sa ss.length sc) ss) => l09Session_any _ ss c.ss wx hx (by omega) hr)
 have HSS := Hd hS
 have hple := hpos.le
 have B0 := Hd ((((bal w (.cells #[.slice la ln lc, .string bk, .string bv, .int .i64 ba, .slice ka kn kc, .slice sa ss.length sc] 33)).alloc (by simp) (.cells #[.int .i64 c.kd, .int .i64 c.ss, .int .i64 c.sq, .string c.ky, .string c.vl] 77)).alloc (by simp; omega) (.cells #[.slice none 0 0, .string ⟨#[]⟩, .string ⟨#[]⟩, .int .i64 0, .slice none 0 0, .slice none 0 0] 33)).alloc (by simp; omega) (.cells #[.int .i64 0, .int .i64 0, .string ⟨#[]⟩] 82))
 have X0 := Hd ((((Blk.new w #[.slice la ln lc, .string bk, .string bv, .int .i64 ba, .slice ka kn kc, .slice sa ss.length sc] 33 (w.heap.size) rfl).alloc (.cells #[.int .i64 c.kd, .int .i64 c.ss, .int .i64 c.sq, .string c.ky, .string c.vl] 77)).alloc (.cells #[.slice none 0 0, .string ⟨#[]⟩, .string ⟨#[]⟩, .int .i64 0, .slice none 0 0, .slice none 0 0] 33)).alloc (.cells #[.int .i64 0, .int .i64 0, .string ⟨#[]⟩] 82))
 have C0 := Hd (((Blk.new (w.alloc (.cells #[.slice la ln lc, .string bk, .string bv, .int .i64 ba, .slice ka kn kc, .slice sa ss.length sc] 33)) #[.int .i64 c.kd, .int .i64 c.ss, .int .i64 c.sq, .string c.ky, .string c.vl] 77 (w.heap.size + 1) (by simp)).alloc (.cells #[.slice none 0 0, .string ⟨#[]⟩, .string ⟨#[]⟩, .int .i64 0, .slice none 0 0, .slice none 0 0] 33)).alloc (.cells #[.int .i64 0, .int .i64 0, .string ⟨#[]⟩] 82))
 have O0 := Hd ((Blk.new ((w.alloc (.cells #[.slice la ln lc, .string bk, .string bv, .int .i64 ba, .slice ka kn kc, .slice sa ss.length sc] 33)).alloc (.cells #[.int .i64 c.kd, .int .i64 c.ss, .int .i64 c.sq, .string c.ky, .string c.vl] 77)) #[.slice none 0 0, .string ⟨#[]⟩, .string ⟨#[]⟩, .int .i64 0, .slice none 0 0, .slice none 0 0] 33 (w.heap.size + 1 + 1) (by simp)).alloc (.cells #[.int .i64 0, .int .i64 0, .string ⟨#[]⟩] 82))
 have R0 := Hd (Blk.new (((w.alloc (.cells #[.slice la ln lc, .string bk, .string bv, .int .i64 ba, .slice ka kn kc, .slice sa ss.length sc] 33)).alloc (.cells #[.int .i64 c.kd, .int .i64 c.ss, .int .i64 c.sq, .string c.ky, .string c.vl] 77)).alloc (.cells #[.slice none 0 0, .string ⟨#[]⟩, .string ⟨#[]⟩, .int .i64 0, .slice none 0 0, .slice none 0 0] 33)) #[.int .i64 0, .int .i64 0, .string ⟨#[]⟩] 82 (w.heap.size + 1 + 1 + 1) (by simp))
 clear hS hpos
 generalize hasS ss c.ss = has at *
 generalize posS ss c.ss = q at *
 generalize seI ss c.ss = si at *
 go_enter Tryz.func63, Tryz.ntmps63
 go_upto_region 1 with fail
 generalize (((w.alloc (.cells #[.slice la ln lc, .string bk, .string bv, .int .i64 ba, .slice ka kn kc, .slice sa ss.length sc] 33)).alloc (.cells #[.int .i64 c.kd, .int .i64 c.ss, .int .i64 c.sq, .string c.ky, .string c.vl] 77)).alloc (.cells #[.slice none 0 0, .string ⟨#[]⟩, .string ⟨#[]⟩, .int .i64 0, .slice none 0 0, .slice none 0 0] 33)).alloc (.cells #[.int .i64 0, .int .i64 0, .string ⟨#[]⟩] 82) = w0 at *
 have hw0 : w.heap.size + 1 + 1 + 1 < w0.heap.size := (uh R0).1
 have HS0 := Hd (uh HSE w0 ((uh HSS).below (uh B0)))
 obtain ⟨⟨x0, x1, x2, x3, x4, x5⟩, _⟩ := Blk.c6 (uh X0)
 have k0 := (uh C0).cell 0 rfl
 have k1 := (uh C0).cell 1 rfl
 clear HSE
 go_wp2_with fail
 refine (uh HS0).mono ?_
 rintro e w' ⟨rfl, hw'⟩
 have hw2 := hw'.symm
 clear hw' HS0
 subst hw2
 have bA := bal w0 (.cells #[.slice la ln lc, .string bk, .string bv, .int .i64 ba, .slice ka kn kc, .slice sa ss.length sc] 33)
 have K1 := hbt B0 bA
 have X1 := Hd ((uh X0).below bA)
 have C1 := Hd ((uh C0).below bA)
 have O1 := Hd ((uh O0).below bA)
 have R1 := Hd ((uh R0).below bA)
 have U1 := Hd (Blk.new w0 #[.slice la ln lc, .string bk, .string bv, .int .i64 ba, .slice ka kn kc, .slice sa ss.length sc] 33 w0.heap.size rfl)
 have NZ := Blk.new w0 #[.slice none 0 0, .string ⟨#[]⟩, .string ⟨#[]⟩, .int .i64 0, .slice none 0 0, .slice none 0 0] 33 w0.heap.size rfl
 obtain ⟨⟨zc0, zc1, zc2, zc3, zc4, zc5⟩, zf0, zf1, zf2, zf3, zf4, zf5⟩ := Blk.c6 NZ
 clear bA B0 NZ
 go_upto_region 3 with fail
 clear zc0 zf0 zc1 zf1 zc2 zf2 zc3 zf3 zc4 zf4 zc5 zf5 x0 x1 x2 x3 x4 x5 k0 k1 X0 C0 O0 R0
 generalize w0.alloc (.cells #[.slice la ln lc, .string bk, .string bv, .int .i64 ba, .slice ka kn kc, .slice sa ss.length sc] 33) = w1 at *
 generalize w0.heap.size = ub at *
 have hw1 : w.heap.size + 1 + 1 + 1 < w1.heap.size := (uh R1).1
 have hub : ub < w1.heap.size := (uh U1).1
 obtain ⟨⟨x0, x1, x2, x3, x4, x5⟩, _⟩ := Blk.c6 (uh X1)
 have k0 := (uh C1).cell 0 rfl
 have k1 := (uh C1).cell 1 rfl
 by_cases h5 : c.kd = 5
 ·have b1 : (c.kd == 5) = true := by rw [h5]; rfl
  have H5 := Hd h5
  clear h5
  cases has
  ·obtain rfl : si = -1 := uh HSI
   obtain ⟨⟨ox0, ox1, ox2, ox3, ox4, ox5⟩, of0, of1, of2, of3, of4, of5⟩ := Blk.c6 (uh O1)
   obtain ⟨⟨rx0, rx1, rx2⟩, rf0, rf1, rf2⟩ := Blk.c3 (uh R1)
   obtain ⟨HO9, HR9, HT9⟩ := end63 (uh O1) (uh R1) (by omega) (.slice la ln lc) (.string bk) (.string bv) (.int .i64 ba) (.slice ka kn kc) (.slice sa ss.length sc) (.int .i64 4) (.int .i64 0) (.string ⟨#[]⟩)
   go_wp2_with fail
   obtain ⟨⟨z0, z1, z2, z3, z4, z5⟩, _⟩ := Blk.c6 (uh HO9)
   obtain ⟨⟨y0, y1, y2⟩, _⟩ := Blk.c3 (uh HR9)
   refine bodyPost_ret (v := .tuple #[.agg #[.slice la ln lc, .string bk, .string bv, .int .i64 ba, .slice ka kn kc, .slice sa ss.length sc], .agg #[.int .i64 4, .int .i64 0, .string ⟨#[]⟩]]) (by simp [results, Tryz.results63, go_sem, z0, z1, z2, z3, z4, z5, y0, y1, y2]) rfl ?_
   have K9 := (uh K1).trans ((uh HT9).below (uh K1).size (fun k9 hk9 e => by rcases e with e | e <;> omega))
   rw [uh HU, if_pos (uh H5), if_neg (by simp)]
   exact ⟨sa, ss.length, sc, rfl, (uh HSS).below K9, K9, .inl rfl⟩
  ·obtain rfl : si = (q : Int) := uh HSI
   have hq : q < ss.length := uh HHas (by first | trivial | rfl)
   have HU2 := Hd (show opN ss c = (delS ss q, 1) by rw [uh HU, if_pos (uh H5), if_pos (by first | trivial | rfl)])
   obtain ⟨b, off, rfl⟩ : ∃ b off, sa = some ⟨b, off, none⟩ := by
    obtain ⟨a', cap', e, _, _, hc⟩ := uh HSS
    simp only [Value.slice.injEq] at e
    obtain ⟨rfl, _, rfl⟩ := e
    rcases hc with h0 | ⟨b, off, e, _⟩
    ·omega
    ·exact ⟨b, off, e⟩
   have HS1 := Hd ((uh HSS).below (uh K1))
   have hlb : w.heap.size < w1.heap.size := (uh X1).1
   have q9 : (0 : Int) ≤ (q : Int) := by omega
   have q1 : IntKind.i64.wrap ((q : Int) + 1) = (q : Int) + 1 := wrapSe2 _ (by omega) (by omega)
   have q2 : (q : Int) ≤ (sc : Int) := by omega
   have q3 : (0 : Int) ≤ (q : Int) + 1 := by omega
   have q4 : (q : Int) + 1 ≤ (ss.length : Int) := by omega
   have q5 : ((q : Int) + 1).toNat = q + 1 := by omega
   have q6 : q + 1 ≤ ss.length := by omega
   have q7 : q ≤ sc := by omega
   have q8 : (q : Int) ≤ (q : Int) + 1 := by omega
   by_cases hce : sc = q + 1
   ·subst hce
    go_upto_region 6 with fail
    clear x0 x1 x2 x3 x4 k0 k1
    refine wp_region_noPanic ?_
    refine wp_region_held_drew (S := (fun wx => wx.cell? ⟨w.heap.size, 5, none⟩ = some (.slice (some ⟨b, off, none⟩) ss.length (q + 1)))) (by kernel_rfl) ?_ (fun hHeld => ?_)
    ·exact x5
    refine tkH 1 rfl ?_
    refine tkH 2 rfl ?_
    refine tkH 3 rfl ?_
    refine tkH 4 rfl ?_
    refine tkH 6 rfl ?_
    refine tkH 7 rfl ?_
    refine tkH 8 rfl ?_
    refine tkH 9 rfl ?_
    refine tkH 10 rfl ?_
    have HBq := Hd (below_drewN (Below.refl w1.heap.size w1) 1)
    change Hid (Below w1.heap.size w1 w1.drew) at HBq
    generalize w1.drew = wq at *
    refine rdy1 0 rfl (fun K hK => ?_)
    go_simp
    have HBu1 := Hd ((uh HBq).alloc (uh HBq).size (.cells #[] 103))
    have HOu1 := Hd (show (wq.alloc (.cells #[] 103)).ownsRow w1.heap.size 103 5 (.slice (some ⟨wq.heap.size, 0, none⟩) 0 0) 0 [] from World.ownsRow_made wq #[] 0 (uh HBq).size (by unfold maxLen; omega) rfl)
    have hbX := uh HBu1
    refine outH hK ?_ (fun hHeld => ?_)
    ·exact (hbX.cell (p := ⟨w.heap.size, 5, none⟩) hlb).trans x5
    clear hK K
    clear hbX
    generalize wq.alloc (.cells #[] 103) = wu1 at *
    generalize wq.heap.size = bu1 at *
    refine rdy1 5 rfl (fun K hK => ?_)
    refine step_append_row rfl _ _ _ rfl w1.heap.size 103 i0 _ 5 48 Tryz.underlying31 hi hz0 hz1 hz2 rfl (by omega) _ 0 [] rfl (uh HOu1) _ q (sesC (ss.take q)) rfl (ses_take ((uh HS1).below (uh HBu1)) q (q + 1) (by omega)) (by rw [sesC_len, List.length_take]; omega) (sesC_one _) (by unfold maxLen; omega) (by omega) (uh HBu1).size ?_
    intro a2 c2 wv2 hown2 hgrow2 hat2
    have HBv2 := Hd ((uh HBu1).grown hgrow2 (uh HBu1).size (fun r hr => (World.ownsRow.lt (uh HOu1) r hr).1))
    have HOv2 := Hd hown2
    have hbX := uh HBv2
    clear hown2 hgrow2 hat2
    refine outH hK ?_ (fun hHeld => ?_)
    ·exact (hbX.cell (p := ⟨w.heap.size, 5, none⟩) hlb).trans x5
    clear hK K
    clear hbX
    simp only [Nat.zero_add, List.nil_append] at HOv2 ⊢
    refine rdy1 11 rfl (fun K hK => ?_)
    refine step_append_row rfl _ _ _ rfl w1.heap.size 103 i0 _ 5 48 Tryz.underlying31 hi hz0 hz1 hz2 rfl (by omega) _ q _ rfl (uh HOv2) _ 0 [] rfl ⟨_, _, rfl, .inl rfl⟩ rfl (by simp) (by unfold maxLen; omega) (by omega) (uh HBv2).size ?_
    intro a3 c3 wv3 hown3 hgrow3 hat3
    have HBv3 := Hd ((uh HBv2).grown hgrow3 (uh HBv2).size (fun r hr => (World.ownsRow.lt (uh HOv2) r hr).1))
    have HOv3 := Hd hown3
    have hbX := uh HBv3
    clear hown3 hgrow3 hat3
    refine outH hK ?_ (fun hHeld => ?_)
    ·exact (hbX.cell (p := ⟨w.heap.size, 5, none⟩) hlb).trans x5
    clear hK K
    clear hbX
    refine tkH 12 rfl ?_
    have hln : q + 0 = (delS ss q).length := by rw [delS_len ss q hq]; omega
    have O3 : OwnSe w1.heap.size wv3 (.slice a3 (delS ss q).length c3) (delS ss q) := by
     have h := uh HOv3
     rw [hln] at h
     have hx9 : sesC (delS ss q) = sesC (ss.take q) ++ [] := by
      unfold delS
      rw [show ss.drop (q + 1) = [] from List.drop_eq_nil_of_le (by omega)]
      rw [sesC_app]; rfl
     unfold OwnSe
     rw [hx9]
     exact h
    rw [hln]
    have HLN := Hd hln
    clear hln HOv3 HOv2 HOu1
    generalize (delS ss q).length = n3 at *
    have U3 := (uh U1).below (uh HBv3)
    have u5 := U3.cell 5 rfl
    have g5 := U3.fro 5
    have TS := (Touch.refl (fun k => k = ub) wv3).setCell ⟨ub, 5, none⟩ (.slice a3 n3 c3) (fun _ => rfl)
    have U4 := Hd (U3.set 5 (.slice a3 n3 c3) (by simp))
    have O4 := Hd (((uh O1).below (uh HBv3)).kept TS (fun e => by omega))
    have R4 := Hd (((uh R1).below (uh HBv3)).kept TS (fun e => by omega))
    have hsz := (uh HBv3).size
    have SE4 := Hd (O3.kept TS (fun k hk e => by have := (O3.lt k hk).1; omega))
    have K4 := Hd (((uh K1).trans ((uh HBv3).mono (uh K1).size)).trans (TS.below ((uh K1).trans ((uh HBv3).mono (uh K1).size)).size (fun k hk e => by omega)))
    have k9 := ((uh HBv3).cell (p := ⟨w.heap.size, 5, none⟩) hlb).trans x5
    have hTc := (TS.cell (p := ⟨w.heap.size, 5, none⟩) (by show w.heap.size < _; omega) (by show ¬ w.heap.size = ub; omega)).trans k9
    clear U3 TS O3
    refine rdy1 13 rfl (fun K hK => ?_)
    go_simp
    refine outH hK ?_ (fun hHeld => ?_)
    ·exact hTc
    clear hK K
    refine wpAnyH_done (by kernel_rfl) (NoPanic.normal ?_) _
    clear hTc k9 u5 g5 hHeld
    generalize wv3.setCell ⟨ub, 5, none⟩ (.slice a3 n3 c3) = w4 at *
    have hw4 : w.heap.size + 1 + 1 + 1 < w4.heap.size := (uh R4).1
    obtain ⟨⟨u0, u1, u2, u3, u4, u5⟩, _⟩ := Blk.c6 (uh U4)
    obtain ⟨⟨ox0, ox1, ox2, ox3, ox4, ox5⟩, of0, of1, of2, of3, of4, of5⟩ := Blk.c6 (uh O4)
    obtain ⟨⟨rx0, rx1, rx2⟩, rf0, rf1, rf2⟩ := Blk.c3 (uh R4)
    obtain ⟨HO9, HR9, HT9⟩ := end63 (uh O4) (uh R4) (by omega) (.slice la ln lc) (.string bk) (.string bv) (.int .i64 ba) (.slice ka kn kc) (.slice a3 n3 c3) (.int .i64 1) (.int .i64 0) (.string ⟨#[]⟩)
    go_wp2_with fail
    obtain ⟨⟨z0, z1, z2, z3, z4, z5⟩, _⟩ := Blk.c6 (uh HO9)
    obtain ⟨⟨y0, y1, y2⟩, _⟩ := Blk.c3 (uh HR9)
    refine bodyPost_ret (v := .tuple #[.agg #[.slice la ln lc, .string bk, .string bv, .int .i64 ba, .slice ka kn kc, .slice a3 n3 c3], .agg #[.int .i64 1, .int .i64 0, .string ⟨#[]⟩]]) (by simp [results, Tryz.results63, go_sem, z0, z1, z2, z3, z4, z5, y0, y1, y2]) rfl ?_
    have K9 := (uh K4).trans ((uh HT9).below (uh K4).size (fun k9 hk9 e => by rcases e with e | e <;> omega))
    rw [uh HU2]
    have hse := uh SE4
    exact ⟨a3, n3, c3, rfl, (hse.kept (uh HT9) (fun k hk e => by have := (hse.lt k hk).1; rcases e with e | e <;> omega)).read, K9, own_fresh hse (by omega)⟩
   ·go_upto_region 6 with fail
    clear x0 x1 x2 x3 x4 k0 k1
    refine wp_region_noPanic ?_
    refine wp_region_held_drew (S := (fun wx => wx.cell? ⟨w.heap.size, 5, none⟩ = some (.slice (some ⟨b, off, none⟩) ss.length sc))) (by kernel_rfl) ?_ (fun hHeld => ?_)
    ·exact x5
    refine tkH 1 rfl ?_
    refine tkH 2 rfl ?_
    refine tkH 3 rfl ?_
    refine tkH 4 rfl ?_
    refine tkH 6 rfl ?_
    refine tkH 7 rfl ?_
    refine tkH 8 rfl ?_
    refine tkH 9 rfl ?_
    refine tkH 10 rfl ?_
    have HBq := Hd (below_drewN (Below.refl w1.heap.size w1) 1)
    change Hid (Below w1.heap.size w1 w1.drew) at HBq
    generalize w1.drew = wq at *
    refine rdy1 0 rfl (fun K hK => ?_)
    go_simp
    have HBu1 := Hd ((uh HBq).alloc (uh HBq).size (.cells #[] 103))
    have HOu1 := Hd (show (wq.alloc (.cells #[] 103)).ownsRow w1.heap.size 103 5 (.slice (some ⟨wq.heap.size, 0, none⟩) 0 0) 0 [] from World.ownsRow_made wq #[] 0 (uh HBq).size (by unfold maxLen; omega) rfl)
    have hbX := uh HBu1
    refine outH hK ?_ (fun hHeld => ?_)
    ·exact (hbX.cell (p := ⟨w.heap.size, 5, none⟩) hlb).trans x5
    clear hK K
    clear hbX
    generalize wq.alloc (.cells #[] 103) = wu1 at *
    generalize wq.heap.size = bu1 at *
    refine rdy1 5 rfl (fun K hK => ?_)
    refine step_append_row rfl _ _ _ rfl w1.heap.size 103 i0 _ 5 48 Tryz.underlying31 hi hz0 hz1 hz2 rfl (by omega) _ 0 [] rfl (uh HOu1) _ q (sesC (ss.take q)) rfl (ses_take ((uh HS1).below (uh HBu1)) q sc (by omega)) (by rw [sesC_len, List.length_take]; omega) (sesC_one _) (by unfold maxLen; omega) (by omega) (uh HBu1).size ?_
    intro a2 c2 wv2 hown2 hgrow2 hat2
    have HBv2 := Hd ((uh HBu1).grown hgrow2 (uh HBu1).size (fun r hr => (World.ownsRow.lt (uh HOu1) r hr).1))
    have HOv2 := Hd hown2
    have hbX := uh HBv2
    clear hown2 hgrow2 hat2
    refine outH hK ?_ (fun hHeld => ?_)
    ·exact (hbX.cell (p := ⟨w.heap.size, 5, none⟩) hlb).trans x5
    clear hK K
    clear hbX
    simp only [Nat.zero_add, List.nil_append] at HOv2 ⊢
    refine rdy1 11 rfl (fun K hK => ?_)
    refine step_append_row rfl _ _ _ rfl w1.heap.size 103 i0 _ 5 48 Tryz.underlying31 hi hz0 hz1 hz2 rfl (by omega) _ q _ rfl (uh HOv2) _ (ss.length - (q + 1)) (sesC (ss.drop (q + 1))) rfl (ses_drop ((uh HS1).below (uh HBv2)) (q + 1) (sc - (q + 1)) (off + (q + 1) * 5) (fun h => by omega)) (by rw [sesC_len, List.length_drop]) (sesC_one _) (by unfold maxLen; omega) (by omega) (uh HBv2).size ?_
    intro a3 c3 wv3 hown3 hgrow3 hat3
    have HBv3 := Hd ((uh HBv2).grown hgrow3 (uh HBv2).size (fun r hr => (World.ownsRow.lt (uh HOv2) r hr).1))
    have HOv3 := Hd hown3
    have hbX := uh HBv3
    clear hown3 hgrow3 hat3
    refine outH hK ?_ (fun hHeld => ?_)
    ·exact (hbX.cell (p := ⟨w.heap.size, 5, none⟩) hlb).trans x5
    clear hK K
    clear hbX
    refine tkH 12 rfl ?_
    have hln : q + (ss.length - (q + 1)) = (delS ss q).length := by rw [delS_len ss q hq]; omega
    have O3 : OwnSe w1.heap.size wv3 (.slice a3 (delS ss q).length c3) (delS ss q) := by
     have h := uh HOv3
     rw [hln] at h
     have hx9 : sesC (delS ss q) = sesC (ss.take q) ++ sesC (ss.drop (q + 1)) := by
      unfold delS
      rw [sesC_app]
     unfold OwnSe
     rw [hx9]
     exact h
    rw [hln]
    have HLN := Hd hln
    clear hln HOv3 HOv2 HOu1
    generalize (delS ss q).length = n3 at *
    have U3 := (uh U1).below (uh HBv3)
    have u5 := U3.cell 5 rfl
    have g5 := U3.fro 5
    have TS := (Touch.refl (fun k => k = ub) wv3).setCell ⟨ub, 5, none⟩ (.slice a3 n3 c3) (fun _ => rfl)
    have U4 := Hd (U3.set 5 (.slice a3 n3 c3) (by simp))
    have O4 := Hd (((uh O1).below (uh HBv3)).kept TS (fun e => by omega))
    have R4 := Hd (((uh R1).below (uh HBv3)).kept TS (fun e => by omega))
    have hsz := (uh HBv3).size
    have SE4 := Hd (O3.kept TS (fun k hk e => by have := (O3.lt k hk).1; omega))
    have K4 := Hd (((uh K1).trans ((uh HBv3).mono (uh K1).size)).trans (TS.below ((uh K1).trans ((uh HBv3).mono (uh K1).size)).size (fun k hk e => by omega)))
    have k9 := ((uh HBv3).cell (p := ⟨w.heap.size, 5, none⟩) hlb).trans x5
    have hTc := (TS.cell (p := ⟨w.heap.size, 5, none⟩) (by show w.heap.size < _; omega) (by show ¬ w.heap.size = ub; omega)).trans k9
    clear U3 TS O3
    refine rdy1 13 rfl (fun K hK => ?_)
    go_simp
    refine outH hK ?_ (fun hHeld => ?_)
    ·exact hTc
    clear hK K
    refine wpAnyH_done (by kernel_rfl) (NoPanic.normal ?_) _
    clear hTc k9 u5 g5 hHeld
    generalize wv3.setCell ⟨ub, 5, none⟩ (.slice a3 n3 c3) = w4 at *
    have hw4 : w.heap.size + 1 + 1 + 1 < w4.heap.size := (uh R4).1
    obtain ⟨⟨u0, u1, u2, u3, u4, u5⟩, _⟩ := Blk.c6 (uh U4)
    obtain ⟨⟨ox0, ox1, ox2, ox3, ox4, ox5⟩, of0, of1, of2, of3, of4, of5⟩ := Blk.c6 (uh O4)
    obtain ⟨⟨rx0, rx1, rx2⟩, rf0, rf1, rf2⟩ := Blk.c3 (uh R4)
    obtain ⟨HO9, HR9, HT9⟩ := end63 (uh O4) (uh R4) (by omega) (.slice la ln lc) (.string bk) (.string bv) (.int .i64 ba) (.slice ka kn kc) (.slice a3 n3 c3) (.int .i64 1) (.int .i64 0) (.string ⟨#[]⟩)
    go_wp2_with fail
    obtain ⟨⟨z0, z1, z2, z3, z4, z5⟩, _⟩ := Blk.c6 (uh HO9)
    obtain ⟨⟨y0, y1, y2⟩, _⟩ := Blk.c3 (uh HR9)
    refine bodyPost_ret (v := .tuple #[.agg #[.slice la ln lc, .string bk, .string bv, .int .i64 ba, .slice ka kn kc, .slice a3 n3 c3], .agg #[.int .i64 1, .int .i64 0, .string ⟨#[]⟩]]) (by simp [results, Tryz.results63, go_sem, z0, z1, z2, z3, z4, z5, y0, y1, y2]) rfl ?_
    have K9 := (uh K4).trans ((uh HT9).below (uh K4).size (fun k9 hk9 e => by rcases e with e | e <;> omega))
    rw [uh HU2]
    have hse := uh SE4
    exact ⟨a3, n3, c3, rfl, (hse.kept (uh HT9) (fun k hk e => by have := (hse.lt k hk).1; rcases e with e | e <;> omega)).read, K9, own_fresh hse (by omega)⟩
 have b1 : (c.kd == 5) = false := by rw [beq_eq_false_iff_ne]; exact h5
 have H5 := Hd h5
 clear h5
 cases has
 case true =>
  obtain rfl : si = (q : Int) := uh HSI
  have q9 : (0 : Int) ≤ (q : Int) := by omega
  obtain ⟨⟨ox0, ox1, ox2, ox3, ox4, ox5⟩, of0, of1, of2, of3, of4, of5⟩ := Blk.c6 (uh O1)
  obtain ⟨⟨rx0, rx1, rx2⟩, rf0, rf1, rf2⟩ := Blk.c3 (uh R1)
  obtain ⟨HO9, HR9, HT9⟩ := end63 (uh O1) (uh R1) (by omega) (.slice la ln lc) (.string bk) (.string bv) (.int .i64 ba) (.slice ka kn kc) (.slice sa ss.length sc) (.int .i64 5) (.int .i64 0) (.string ⟨#[]⟩)
  go_wp2_with fail
  obtain ⟨⟨z0, z1, z2, z3, z4, z5⟩, _⟩ := Blk.c6 (uh HO9)
  obtain ⟨⟨y0, y1, y2⟩, _⟩ := Blk.c3 (uh HR9)
  refine bodyPost_ret (v := .tuple #[.agg #[.slice la ln lc, .string bk, .string bv, .int .i64 ba, .slice ka kn kc, .slice sa ss.length sc], .agg #[.int .i64 5, .int .i64 0, .string ⟨#[]⟩]]) (by simp [results, Tryz.results63, go_sem, z0, z1, z2, z3, z4, z5, y0, y1, y2]) rfl ?_
  have K9 := (uh K1).trans ((uh HT9).below (uh K1).size (fun k9 hk9 e => by rcases e with e | e <;> omega))
  rw [uh HU, if_neg (uh H5), if_pos (by first | trivial | rfl)]
  exact ⟨sa, ss.length, sc, rfl, (uh HSS).below K9, K9, .inl rfl⟩
 obtain rfl : si = -1 := uh HSI
 by_cases h8 : ss.length = 8
 ·have b2 : ((ss.length : Int) == 8) = true := by rw [h8]; rfl
  have H8 := Hd h8
  clear h8
  obtain ⟨⟨ox0, ox1, ox2, ox3, ox4, ox5⟩, of0, of1, of2, of3, of4, of5⟩ := Blk.c6 (uh O1)
  obtain ⟨⟨rx0, rx1, rx2⟩, rf0, rf1, rf2⟩ := Blk.c3 (uh R1)
  obtain ⟨HO9, HR9, HT9⟩ := end63 (uh O1) (uh R1) (by omega) (.slice la ln lc) (.string bk) (.string bv) (.int .i64 ba) (.slice ka kn kc) (.slice sa ss.length sc) (.int .i64 6) (.int .i64 0) (.string ⟨#[]⟩)
  go_wp2_with fail
  obtain ⟨⟨z0, z1, z2, z3, z4, z5⟩, _⟩ := Blk.c6 (uh HO9)
  obtain ⟨⟨y0, y1, y2⟩, _⟩ := Blk.c3 (uh HR9)
  refine bodyPost_ret (v := .tuple #[.agg #[.slice la ln lc, .string bk, .string bv, .int .i64 ba, .slice ka kn kc, .slice sa ss.length sc], .agg #[.int .i64 6, .int .i64 0, .string ⟨#[]⟩]]) (by simp [results, Tryz.results63, go_sem, z0, z1, z2, z3, z4, z5, y0, y1, y2]) rfl ?_
  have K9 := (uh K1).trans ((uh HT9).below (uh K1).size (fun k9 hk9 e => by rcases e with e | e <;> omega))
  rw [uh HU, if_neg (uh H5), if_neg (by simp), if_pos (uh H8)]
  exact ⟨sa, ss.length, sc, rfl, (uh HSS).below K9, K9, .inl rfl⟩
 have b2 : ((ss.length : Int) == 8) = false := by rw [beq_eq_false_iff_ne]; omega
 have HU2 := Hd (show opN ss c = (insS ss q (newS c.ss), 1) by rw [uh HU, if_neg (uh H5), if_neg (by simp), if_neg h8])
 have hlb : w.heap.size < w1.heap.size := (uh X1).1
 have hcb : w.heap.size + 1 < w1.heap.size := (uh C1).1
 clear h8
 go_upto_region 13 with fail
 clear x0 x1 x2 x3 x4 k0
 go_loopw [6] (fun i wr => ∃ k : Nat, k ≤ q ∧ i = .int .i64 k ∧ Below w1.heap.size w1 wr) (fun i _ => q - (intOf i).toNat)
 case atStart => exact ⟨0, Nat.zero_le _, rfl, Below.refl _ _⟩
 case round =>
  obtain ⟨k, hk, rfl, hb⟩ := hrel
  have y5 := (hb.cell (p := ⟨w.heap.size, 5, none⟩) hlb).trans x5
  have y1 := (hb.cell (p := ⟨w.heap.size + 1, 1, none⟩) hcb).trans k1
  have HB := Hd hb
  have m0 : (0 : Int) ≤ (k : Int) := by omega
  have m2 : IntKind.i64.wrap ((k : Int) + 1) = (k : Int) + 1 := wrapSe2 _ (by omega) (by omega)
  clear hb
  by_cases hkn : k < ss.length
  ·obtain ⟨b, off, rfl, hbl, hsrc⟩ : ∃ b off, sa = some ⟨b, off, none⟩ ∧ b < w.heap.size ∧ ∀ i, i < ss.length → w.cell? ⟨b, off + i * 5, none⟩ = some (.int .i64 (ss.getD i default).id) := by
    obtain ⟨a', cap', e, _, _, hc⟩ := uh HSS
    simp only [Value.slice.injEq] at e
    obtain ⟨rfl, _, rfl⟩ := e
    rcases hc with h0 | ⟨b, off, e, hb, h1⟩
    ·omega
    ·exact ⟨b, off, e, hb, fun i hi => (h1 i hi).1⟩
   have m1 : (k : Int) < (ss.length : Int) := by omega
   have ysc := (((uh K1).trans ((uh HB).mono (uh K1).size)).cell (p := ⟨b, off + k * 5, none⟩) hbl).trans (hsrc k hkn)
   obtain ⟨f, hf⟩ : ∃ f, f = (ss.getD k default).id := ⟨_, rfl⟩
   rw [← hf] at ysc
   have HF := Hd hf
   clear hf hsrc
   by_cases hlt : f < c.ss
   ·have hkq : k < q := by
     by_cases e : k < q
     ·exact e
     ·have := (uh HPos).hi k (by omega) hkn
      rw [← uh HF] at this
      omega
    go_upto_region 13 with fail
    refine wp_region_noPanic ?_
    refine wp_region_held_drew (S := (fun wx => wx.cell? ⟨w.heap.size, 5, none⟩ = some (.slice (some ⟨b, off, none⟩) ss.length sc) ∧ wx.cell? ⟨w.heap.size + 1, 1, none⟩ = some (.int .i64 c.ss) ∧ wx.cell? ⟨b, off + k * 5, none⟩ = some (.int .i64 f))) (by kernel_rfl) ?_ (fun hHeld => ?_)
    ·exact ⟨y5, y1, ysc⟩
    refine tkH 0 rfl ?_
    refine tkH 1 rfl ?_
    refine tkH 2 rfl ?_
    refine tkH 3 rfl ?_
    refine tkH 4 rfl ?_
    refine tkH 5 rfl ?_
    refine tkH 6 rfl ?_
    refine tkH 7 rfl ?_
    refine tkH 8 rfl ?_
    refine tkH 9 rfl ?_
    refine tkH 10 rfl ?_
    refine tkH 11 rfl ?_
    refine tkH 12 rfl ?_
    refine tkH 13 rfl ?_
    refine tkH 14 rfl ?_
    refine tkH 15 rfl ?_
    refine wpAnyH_done (by kernel_rfl) (NoPanic.normal ?_) _
    go_wp2_with fail
    refine ⟨⟨k + 1, by omega, by push_cast; rfl, below_drewN (uh HB) 1⟩, ?_⟩
    simp [intOf]; omega
   ·have hkq : k = q := by
     by_cases e : k < q
     ·have := (uh HPos).lo k e
      rw [← uh HF] at this
      omega
     ·omega
    have hkq2 := hkq.symm
    clear hkq
    subst hkq2
    go_upto_region 13 with fail
    refine wp_region_noPanic ?_
    refine wp_region_held_drew (S := (fun wx => wx.cell? ⟨w.heap.size, 5, none⟩ = some (.slice (some ⟨b, off, none⟩) ss.length sc) ∧ wx.cell? ⟨w.heap.size + 1, 1, none⟩ = some (.int .i64 c.ss) ∧ wx.cell? ⟨b, off + q * 5, none⟩ = some (.int .i64 f))) (by kernel_rfl) ?_ (fun hHeld => ?_)
    ·exact ⟨y5, y1, ysc⟩
    refine tkH 0 rfl ?_
    refine tkH 1 rfl ?_
    refine tkH 2 rfl ?_
    refine tkH 3 rfl ?_
    refine tkH 4 rfl ?_
    refine tkH 5 rfl ?_
    refine tkH 6 rfl ?_
    refine tkH 7 rfl ?_
    refine tkH 8 rfl ?_
    refine tkH 9 rfl ?_
    refine tkH 10 rfl ?_
    refine tkH 11 rfl ?_
    refine tkH 12 rfl ?_
    refine tkH 13 rfl ?_
    refine tkH 14 rfl ?_
    refine tkH 15 rfl ?_
    refine wpAnyH_done (by kernel_rfl) (NoPanic.normal ?_) _
    have HB5 := Hd (below_drewN (uh HB) 1)
    change Hid (Below w1.heap.size w1 wr.drew) at HB5
    clear y5 y1 ysc hHeld HB
    generalize wr.drew = w5 at *
    have q1 : (q : Int) ≤ (sc : Int) := by omega
    have q2 : (q : Int) ≤ (ss.length : Int) := by omega
    have q3 : ¬ (sc = q) := by omega
    have q4 : q ≤ ss.length := by omega
    have q5 : q ≤ sc := by omega
    have K5 := Hd ((uh K1).trans ((uh HB5).mono (uh K1).size))
    have HS5 := Hd ((uh HSS).below (uh K5))
    have O5 := Hd ((uh O1).below (uh HB5))
    have R5 := Hd ((uh R1).below (uh HB5))
    have U5 := Hd ((uh U1).below (uh HB5))
    have z5 := (uh HB5).cell (p := ⟨w.heap.size, 5, none⟩) hlb
    have z1 := (uh HB5).cell (p := ⟨w.heap.size + 1, 1, none⟩) hcb
    rw [x5] at z5
    rw [k1] at z1
    have hl5 := (uh HB5).size
    clear x5 k1 K1 O1 R1 U1 X1 C1 HB5
    have x5 := z5
    have k1 := z1
    clear z5 z1
    replace hlb : w.heap.size < w5.heap.size := by omega
    replace hcb : w.heap.size + 1 < w5.heap.size := by omega
    replace hub : ub < w5.heap.size := by omega
    go_upto_region 15 with fail
    refine wp_region_noPanic ?_
    refine wp_region_held_drew (S := (fun wx => wx.cell? ⟨w.heap.size, 5, none⟩ = some (.slice (some ⟨b, off, none⟩) ss.length sc) ∧ wx.cell? ⟨w.heap.size + 1, 1, none⟩ = some (.int .i64 c.ss))) (by kernel_rfl) ?_ (fun hHeld => ?_)
    ·exact ⟨x5, k1⟩
    refine tkH 1 rfl ?_
    refine tkH 2 rfl ?_
    refine tkH 3 rfl ?_
    refine tkH 4 rfl ?_
    refine tkH 6 rfl ?_
    refine tkH 7 rfl ?_
    refine tkH 8 rfl ?_
    refine tkH 11 rfl ?_
    refine tkH 12 rfl ?_
    refine tkH 13 rfl ?_
    refine tkH 14 rfl ?_
    have HBq := Hd (below_drewN (Below.refl w5.heap.size w5) 1)
    change Hid (Below w5.heap.size w5 w5.drew) at HBq
    generalize w5.drew = wq at *
    refine rdy2 0 9 rfl rfl (fun K hK => ?_) (fun K hK => ?_)
    ·skip
     go_simp
     have HBu1 := Hd ((uh HBq).alloc (uh HBq).size (.cells #[] 103))
     have HOu1 := Hd (show (wq.alloc (.cells #[] 103)).ownsRow w5.heap.size 103 5 (.slice (some ⟨wq.heap.size, 0, none⟩) 0 0) 0 [] from World.ownsRow_made wq #[] 0 (uh HBq).size (by unfold maxLen; omega) rfl)
     have hbX := uh HBu1
     refine outH hK ?_ (fun hHeld => ?_)
     ·exact ⟨(hbX.cell (p := ⟨w.heap.size, 5, none⟩) hlb).trans x5, (hbX.cell (p := ⟨w.heap.size + 1, 1, none⟩) hcb).trans k1⟩
     clear hK K
     clear hbX
     generalize wq.alloc (.cells #[] 103) = wu1 at *
     generalize wq.heap.size = bu1 at *
     refine rdy2 5 9 rfl rfl (fun K hK => ?_) (fun K hK => ?_)
     ·skip
      refine step_append_row rfl _ _ _ rfl w5.heap.size 103 i0 _ 5 48 Tryz.underlying31 hi hz0 hz1 hz2 rfl (by omega) _ 0 [] rfl (uh HOu1) _ q (sesC (ss.take q)) rfl (ses_take ((uh HS5).below (uh HBu1)) q sc (by omega)) (by rw [sesC_len, List.length_take]; omega) (sesC_one _) (by unfold maxLen; omega) (by omega) (uh HBu1).size ?_
      intro a2 c2 wv2 hown2 hgrow2 hat2
      have HBv2 := Hd ((uh HBu1).grown hgrow2 (uh HBu1).size (fun r hr => (World.ownsRow.lt (uh HOu1) r hr).1))
      have HOv2 := Hd hown2
      have hbX := uh HBv2
      clear hown2 hgrow2 hat2
      refine outH hK ?_ (fun hHeld => ?_)
      ·exact ⟨(hbX.cell (p := ⟨w.heap.size, 5, none⟩) hlb).trans x5, (hbX.cell (p := ⟨w.heap.size + 1, 1, none⟩) hcb).trans k1⟩
      clear hK K
      clear hbX
      simp only [Nat.zero_add, List.nil_append] at HOv2 ⊢
      refine rdy1 9 rfl (fun K hK => ?_)
      go_simp
      have HBu3 := Hd ((uh HBv2).alloc (uh HBv2).size (.cells #[.int .i64 c.ss, .int .i64 0, .int .i64 0, .int .i64 0, .string ⟨#[]⟩] 103))
      have HV3 := Hd (Blk.new wv2 #[.int .i64 c.ss, .int .i64 0, .int .i64 0, .int .i64 0, .string ⟨#[]⟩] 103 wv2.heap.size rfl)
      have HOu3 := Hd (World.ownsRow.alloc (uh HOv2) (.cells #[.int .i64 c.ss, .int .i64 0, .int .i64 0, .int .i64 0, .string ⟨#[]⟩] 103))
      have HLt3 := Hd (fun k hk => (World.ownsRow.lt (uh HOv2) k hk).2)
      have hbX := uh HBu3
      refine outH hK ?_ (fun hHeld => ?_)
      ·exact ⟨(hbX.cell (p := ⟨w.heap.size, 5, none⟩) hlb).trans x5, (hbX.cell (p := ⟨w.heap.size + 1, 1, none⟩) hcb).trans k1⟩
      clear hK K
      clear hbX
      generalize wv2.alloc (.cells #[.int .i64 c.ss, .int .i64 0, .int .i64 0, .int .i64 0, .string ⟨#[]⟩] 103) = wu3 at *
      generalize wv2.heap.size = vb at *
      refine rdy1 10 rfl (fun K hK => ?_)
      refine step_append_row rfl _ _ _ rfl w5.heap.size 103 i0 _ 5 48 Tryz.underlying31 hi hz0 hz1 hz2 rfl (by omega) _ q _ rfl (uh HOu3) _ 1 [.int .i64 c.ss, .int .i64 0, .int .i64 0, .int .i64 0, .string ⟨#[]⟩] rfl ⟨_, _, rfl, .inr ⟨_, rfl, Blk.rw (uh HV3)⟩⟩ rfl (by simp [Value.oneCell']) (by unfold maxLen; omega) (by omega) (uh HBu3).size ?_
      intro a5 c5 wv5 hown5 hgrow5 hat5
      have HBv5 := Hd ((uh HBu3).grown hgrow5 (uh HBu3).size (fun r hr => (World.ownsRow.lt (uh HOu3) r hr).1))
      have HOv5 := Hd hown5
      have hbX := uh HBv5
      clear hown5 hgrow5 hat5
      refine outH hK ?_ (fun hHeld => ?_)
      ·exact ⟨(hbX.cell (p := ⟨w.heap.size, 5, none⟩) hlb).trans x5, (hbX.cell (p := ⟨w.heap.size + 1, 1, none⟩) hcb).trans k1⟩
      clear hK K
      clear hbX
      refine rdy1 15 rfl (fun K hK => ?_)
      refine step_append_row rfl _ _ _ rfl w5.heap.size 103 i0 _ 5 48 Tryz.underlying31 hi hz0 hz1 hz2 rfl (by omega) _ (q + 1) _ rfl (uh HOv5) _ (ss.length - q) (sesC (ss.drop q)) rfl (ses_drop ((uh HS5).below (uh HBv5)) q (sc - q) (off + q * 5) (fun h => rfl)) (by rw [sesC_len, List.length_drop]) (sesC_one _) (by unfold maxLen; omega) (by omega) (uh HBv5).size ?_
      intro a3 c3 wv3 hown3 hgrow3 hat3
      have HBv3 := Hd ((uh HBv5).grown hgrow3 (uh HBv5).size (fun r hr => (World.ownsRow.lt (uh HOv5) r hr).1))
      have HOv3 := Hd hown3
      have hbX := uh HBv3
      clear hown3 hgrow3 hat3
      refine outH hK ?_ (fun hHeld => ?_)
      ·exact ⟨(hbX.cell (p := ⟨w.heap.size, 5, none⟩) hlb).trans x5, (hbX.cell (p := ⟨w.heap.size + 1, 1, none⟩) hcb).trans k1⟩
      clear hK K
      clear hbX
      refine tkH 16 rfl ?_
      have hln : q + 1 + (ss.length - q) = (insS ss q (newS c.ss)).length := by rw [insS_len _ _ _ hple]; try omega
      have O3 : OwnSe w5.heap.size wv3 (.slice a3 (insS ss q (newS c.ss)).length c3) (insS ss q (newS c.ss)) := by
       have h := uh HOv3
       rw [hln] at h
       have hx9 : sesC (insS ss q (newS c.ss)) = sesC (ss.take q) ++ [.int .i64 c.ss, .int .i64 0, .int .i64 0, .int .i64 0, .string ⟨#[]⟩] ++ sesC (ss.drop q) := by
        rw [sesC_ins, ← sesC_take, ← sesC_drop, ← List.append_assoc]
        rfl
       unfold OwnSe
       rw [hx9]
       exact h
      rw [hln]
      clear hln HOv3 HOv5 HOu3
      generalize (insS ss q (newS c.ss)).length = n3 at *
      have U3 := (uh U5).below (uh HBv3)
      have u5 := U3.cell 5 rfl
      have g5 := U3.fro 5
      have TS := (Touch.refl (fun k => k = ub) wv3).setCell ⟨ub, 5, none⟩ (.slice a3 n3 c3) (fun _ => rfl)
      have U4 := Hd (U3.set 5 (.slice a3 n3 c3) (by simp))
      have O4 := Hd (((uh O5).below (uh HBv3)).kept TS (fun e => by omega))
      have R4 := Hd (((uh R5).below (uh HBv3)).kept TS (fun e => by omega))
      have hsz := (uh HBv3).size
      have SE4 := Hd (O3.kept TS (fun k hk e => by have := (O3.lt k hk).1; omega))
      have K4 := Hd (((uh K5).trans ((uh HBv3).mono (uh K5).size)).trans (TS.below ((uh K5).trans ((uh HBv3).mono (uh K5).size)).size (fun k hk e => by omega)))
      have k9 := ((uh HBv3).cell (p := ⟨w.heap.size, 5, none⟩) hlb).trans x5
      have k8 := ((uh HBv3).cell (p := ⟨w.heap.size + 1, 1, none⟩) hcb).trans k1
      have hTc := And.intro ((TS.cell (p := ⟨w.heap.size, 5, none⟩) (by show w.heap.size < _; omega) (by show ¬ w.heap.size = ub; omega)).trans k9) ((TS.cell (p := ⟨w.heap.size + 1, 1, none⟩) (by show w.heap.size + 1 < _; omega) (by show ¬ w.heap.size + 1 = ub; omega)).trans k8)
      clear U3 TS O3
      refine rdy1 17 rfl (fun K hK => ?_)
      go_simp
      refine outH hK ?_ (fun hHeld => ?_)
      ·exact hTc
      clear hK K
      refine wpAnyH_done (by kernel_rfl) (NoPanic.normal ?_) _
      clear hTc k9 k8 u5 g5 hHeld
      generalize wv3.setCell ⟨ub, 5, none⟩ (.slice a3 n3 c3) = w4 at *
      have hw4 : w.heap.size + 1 + 1 + 1 < w4.heap.size := (uh R4).1
      obtain ⟨⟨u0, u1, u2, u3, u4, u5⟩, _⟩ := Blk.c6 (uh U4)
      obtain ⟨⟨ox0, ox1, ox2, ox3, ox4, ox5⟩, of0, of1, of2, of3, of4, of5⟩ := Blk.c6 (uh O4)
      obtain ⟨⟨rx0, rx1, rx2⟩, rf0, rf1, rf2⟩ := Blk.c3 (uh R4)
      obtain ⟨HO9, HR9, HT9⟩ := end63 (uh O4) (uh R4) (by omega) (.slice la ln lc) (.string bk) (.string bv) (.int .i64 ba) (.slice ka kn kc) (.slice a3 n3 c3) (.int .i64 1) (.int .i64 0) (.string ⟨#[]⟩)
      go_wp2_with fail
      obtain ⟨⟨z0, z1, z2, z3, z4, z5⟩, _⟩ := Blk.c6 (uh HO9)
      obtain ⟨⟨y0, y1, y2⟩, _⟩ := Blk.c3 (uh HR9)
      refine bodyPost_ret (v := .tuple #[.agg #[.slice la ln lc, .string bk, .string bv, .int .i64 ba, .slice ka kn kc, .slice a3 n3 c3], .agg #[.int .i64 1, .int .i64 0, .string ⟨#[]⟩]]) (by simp [results, Tryz.results63, go_sem, z0, z1, z2, z3, z4, z5, y0, y1, y2]) rfl ?_
      have K9 := (uh K4).trans ((uh HT9).below (uh K4).size (fun k9 hk9 e => by rcases e with e | e <;> omega))
      rw [uh HU2]
      have hse := uh SE4
      exact ⟨a3, n3, c3, rfl, (hse.kept (uh HT9) (fun k hk e => by have := (hse.lt k hk).1; rcases e with e | e <;> omega)).read, K9, own_fresh hse (by omega)⟩
     ·skip
      go_simp
      have HBu3 := Hd ((uh HBu1).alloc (uh HBu1).size (.cells #[.int .i64 c.ss, .int .i64 0, .int .i64 0, .int .i64 0, .string ⟨#[]⟩] 103))
      have HV3 := Hd (Blk.new wu1 #[.int .i64 c.ss, .int .i64 0, .int .i64 0, .int .i64 0, .string ⟨#[]⟩] 103 wu1.heap.size rfl)
      have HOu3 := Hd (World.ownsRow.alloc (uh HOu1) (.cells #[.int .i64 c.ss, .int .i64 0, .int .i64 0, .int .i64 0, .string ⟨#[]⟩] 103))
      have HLt3 := Hd (fun k hk => (World.ownsRow.lt (uh HOu1) k hk).2)
      have hbX := uh HBu3
      refine outH hK ?_ (fun hHeld => ?_)
      ·exact ⟨(hbX.cell (p := ⟨w.heap.size, 5, none⟩) hlb).trans x5, (hbX.cell (p := ⟨w.heap.size + 1, 1, none⟩) hcb).trans k1⟩
      clear hK K
      clear hbX
      generalize wu1.alloc (.cells #[.int .i64 c.ss, .int .i64 0, .int .i64 0, .int .i64 0, .string ⟨#[]⟩] 103) = wu3 at *
      generalize wu1.heap.size = vb at *
      refine rdy1 5 rfl (fun K hK => ?_)
      refine step_append_row rfl _ _ _ rfl w5.heap.size 103 i0 _ 5 48 Tryz.underlying31 hi hz0 hz1 hz2 rfl (by omega) _ 0 [] rfl (uh HOu3) _ q (sesC (ss.take q)) rfl (ses_take ((uh HS5).below (uh HBu3)) q sc (by omega)) (by rw [sesC_len, List.length_take]; omega) (sesC_one _) (by unfold maxLen; omega) (by omega) (uh HBu3).size ?_
      intro a2 c2 wv2 hown2 hgrow2 hat2
      have HBv2 := Hd ((uh HBu3).grown hgrow2 (uh HBu3).size (fun r hr => (World.ownsRow.lt (uh HOu3) r hr).1))
      have HOv2 := Hd hown2
      have hbX := uh HBv2
      have HV4 := Hd ((uh HV3).kept ((Touch.refl (fun k => (Value.slice (some ⟨bu1, 0, none⟩) 0 0).ownBlock = some k) wu3).grown hgrow2 (fun k e _ => e)) (fun e => by have := uh HLt3 vb e; omega))
      clear hown2 hgrow2 hat2
      refine outH hK ?_ (fun hHeld => ?_)
      ·exact ⟨(hbX.cell (p := ⟨w.heap.size, 5, none⟩) hlb).trans x5, (hbX.cell (p := ⟨w.heap.size + 1, 1, none⟩) hcb).trans k1⟩
      clear hK K
      clear hbX
      simp only [Nat.zero_add, List.nil_append] at HOv2 ⊢
      refine rdy1 10 rfl (fun K hK => ?_)
      refine step_append_row rfl _ _ _ rfl w5.heap.size 103 i0 _ 5 48 Tryz.underlying31 hi hz0 hz1 hz2 rfl (by omega) _ q _ rfl (uh HOv2) _ 1 [.int .i64 c.ss, .int .i64 0, .int .i64 0, .int .i64 0, .string ⟨#[]⟩] rfl ⟨_, _, rfl, .inr ⟨_, rfl, Blk.rw (uh HV4)⟩⟩ rfl (by simp [Value.oneCell']) (by unfold maxLen; omega) (by omega) (uh HBv2).size ?_
      intro a5 c5 wv5 hown5 hgrow5 hat5
      have HBv5 := Hd ((uh HBv2).grown hgrow5 (uh HBv2).size (fun r hr => (World.ownsRow.lt (uh HOv2) r hr).1))
      have HOv5 := Hd hown5
      have hbX := uh HBv5
      clear hown5 hgrow5 hat5
      refine outH hK ?_ (fun hHeld => ?_)
      ·exact ⟨(hbX.cell (p := ⟨w.heap.size, 5, none⟩) hlb).trans x5, (hbX.cell (p := ⟨w.heap.size + 1, 1, none⟩) hcb).trans k1⟩
      clear hK K
      clear hbX
      refine rdy1 15 rfl (fun K hK => ?_)
      refine step_append_row rfl _ _ _ rfl w5.heap.size 103 i0 _ 5 48 Tryz.underlying31 hi hz0 hz1 hz2 rfl (by omega) _ (q + 1) _ rfl (uh HOv5) _ (ss.length - q) (sesC (ss.drop q)) rfl (ses_drop ((uh HS5).below (uh HBv5)) q (sc - q) (off + q * 5) (fun h => rfl)) (by rw [sesC_len, List.length_drop]) (sesC_one _) (by unfold maxLen; omega) (by omega) (uh HBv5).size ?_
      intro a3 c3 wv3 hown3 hgrow3 hat3
      have HBv3 := Hd ((uh HBv5).grown hgrow3 (uh HBv5).size (fun r hr => (World.ownsRow.lt (uh HOv5) r hr).1))
      have HOv3 := Hd hown3
      have hbX := uh HBv3
      clear hown3 hgrow3 hat3
      refine outH hK ?_ (fun hHeld => ?_)
      ·exact ⟨(hbX.cell (p := ⟨w.heap.size, 5, none⟩) hlb).trans x5, (hbX.cell (p := ⟨w.heap.size + 1, 1, none⟩) hcb).trans k1⟩
      clear hK K
      clear hbX
      refine tkH 16 rfl ?_
      have hln : q + 1 + (ss.length - q) = (insS ss q (newS c.ss)).length := by rw [insS_len _ _ _ hple]; try omega
      have O3 : OwnSe w5.heap.size wv3 (.slice a3 (insS ss q (newS c.ss)).length c3) (insS ss q (newS c.ss)) := by
       have h := uh HOv3
       rw [hln] at h
       have hx9 : sesC (insS ss q (newS c.ss)) = sesC (ss.take q) ++ [.int .i64 c.ss, .int .i64 0, .int .i64 0, .int .i64 0, .string ⟨#[]⟩] ++ sesC (ss.drop q) := by
        rw [sesC_ins, ← sesC_take, ← sesC_drop, ← List.append_assoc]
        rfl
       unfold OwnSe
       rw [hx9]
       exact h
      rw [hln]
      clear hln HOv3 HOv5 HOv2
      generalize (insS ss q (newS c.ss)).length = n3 at *
      have U3 := (uh U5).below (uh HBv3)
      have u5 := U3.cell 5 rfl
      have g5 := U3.fro 5
      have TS := (Touch.refl (fun k => k = ub) wv3).setCell ⟨ub, 5, none⟩ (.slice a3 n3 c3) (fun _ => rfl)
      have U4 := Hd (U3.set 5 (.slice a3 n3 c3) (by simp))
      have O4 := Hd (((uh O5).below (uh HBv3)).kept TS (fun e => by omega))
      have R4 := Hd (((uh R5).below (uh HBv3)).kept TS (fun e => by omega))
      have hsz := (uh HBv3).size
      have SE4 := Hd (O3.kept TS (fun k hk e => by have := (O3.lt k hk).1; omega))
      have K4 := Hd (((uh K5).trans ((uh HBv3).mono (uh K5).size)).trans (TS.below ((uh K5).trans ((uh HBv3).mono (uh K5).size)).size (fun k hk e => by omega)))
      have k9 := ((uh HBv3).cell (p := ⟨w.heap.size, 5, none⟩) hlb).trans x5
      have k8 := ((uh HBv3).cell (p := ⟨w.heap.size + 1, 1, none⟩) hcb).trans k1
      have hTc := And.intro ((TS.cell (p := ⟨w.heap.size, 5, none⟩) (by show w.heap.size < _; omega) (by show ¬ w.heap.size = ub; omega)).trans k9) ((TS.cell (p := ⟨w.heap.size + 1, 1, none⟩) (by show w.heap.size + 1 < _; omega) (by show ¬ w.heap.size + 1 = ub; omega)).trans k8)
      clear U3 TS O3
      refine rdy1 17 rfl (fun K hK => ?_)
      go_simp
      refine outH hK ?_ (fun hHeld => ?_)
      ·exact hTc
      clear hK K
      refine wpAnyH_done (by kernel_rfl) (NoPanic.normal ?_) _
      clear hTc k9 k8 u5 g5 hHeld
      generalize wv3.setCell ⟨ub, 5, none⟩ (.slice a3 n3 c3) = w4 at *
      have hw4 : w.heap.size + 1 + 1 + 1 < w4.heap.size := (uh R4).1
      obtain ⟨⟨u0, u1, u2, u3, u4, u5⟩, _⟩ := Blk.c6 (uh U4)
      obtain ⟨⟨ox0, ox1, ox2, ox3, ox4, ox5⟩, of0, of1, of2, of3, of4, of5⟩ := Blk.c6 (uh O4)
      obtain ⟨⟨rx0, rx1, rx2⟩, rf0, rf1, rf2⟩ := Blk.c3 (uh R4)
      obtain ⟨HO9, HR9, HT9⟩ := end63 (uh O4) (uh R4) (by omega) (.slice la ln lc) (.string bk) (.string bv) (.int .i64 ba) (.slice ka kn kc) (.slice a3 n3 c3) (.int .i64 1) (.int .i64 0) (.string ⟨#[]⟩)
      go_wp2_with fail
      obtain ⟨⟨z0, z1, z2, z3, z4, z5⟩, _⟩ := Blk.c6 (uh HO9)
      obtain ⟨⟨y0, y1, y2⟩, _⟩ := Blk.c3 (uh HR9)
      refine bodyPost_ret (v := .tuple #[.agg #[.slice la ln lc, .string bk, .string bv, .int .i64 ba, .slice ka kn kc, .slice a3 n3 c3], .agg #[.int .i64 1, .int .i64 0, .string ⟨#[]⟩]]) (by simp [results, Tryz.results63, go_sem, z0, z1, z2, z3, z4, z5, y0, y1, y2]) rfl ?_
      have K9 := (uh K4).trans ((uh HT9).below (uh K4).size (fun k9 hk9 e => by rcases e with e | e <;> omega))
      rw [uh HU2]
      have hse := uh SE4
      exact ⟨a3, n3, c3, rfl, (hse.kept (uh HT9) (fun k hk e => by have := (hse.lt k hk).1; rcases e with e | e <;> omega)).read, K9, own_fresh hse (by omega)⟩
    ·skip
     go_simp
     have HBu3 := Hd ((uh HBq).alloc (uh HBq).size (.cells #[.int .i64 c.ss, .int .i64 0, .int .i64 0, .int .i64 0, .string ⟨#[]⟩] 103))
     have HV3 := Hd (Blk.new wq #[.int .i64 c.ss, .int .i64 0, .int .i64 0, .int .i64 0, .string ⟨#[]⟩] 103 wq.heap.size rfl)
     have hbX := uh HBu3
     refine outH hK ?_ (fun hHeld => ?_)
     ·exact ⟨(hbX.cell (p := ⟨w.heap.size, 5, none⟩) hlb).trans x5, (hbX.cell (p := ⟨w.heap.size + 1, 1, none⟩) hcb).trans k1⟩
     clear hK K
     clear hbX
     generalize wq.alloc (.cells #[.int .i64 c.ss, .int .i64 0, .int .i64 0, .int .i64 0, .string ⟨#[]⟩] 103) = wu3 at *
     generalize wq.heap.size = vb at *
     refine rdy1 0 rfl (fun K hK => ?_)
     go_simp
     have HBu1 := Hd ((uh HBu3).alloc (uh HBu3).size (.cells #[] 103))
     have HOu1 := Hd (show (wu3.alloc (.cells #[] 103)).ownsRow w5.heap.size 103 5 (.slice (some ⟨wu3.heap.size, 0, none⟩) 0 0) 0 [] from World.ownsRow_made wu3 #[] 0 (uh HBu3).size (by unfold maxLen; omega) rfl)
     have hbX := uh HBu1
     refine outH hK ?_ (fun hHeld => ?_)
     ·exact ⟨(hbX.cell (p := ⟨w.heap.size, 5, none⟩) hlb).trans x5, (hbX.cell (p := ⟨w.heap.size + 1, 1, none⟩) hcb).trans k1⟩
     clear hK K
     clear hbX
     have hbA := bal wu3 (.cells #[] 103)
     generalize wu3.alloc (.cells #[] 103) = wu1 at *
     have hbu : wu3.heap.size = wu3.heap.size := rfl
     obtain ⟨bu1, hbu1⟩ : ∃ bu1, bu1 = wu3.heap.size := ⟨_, rfl⟩
     rw [← hbu1] at HOu1 ⊢
     refine rdy1 5 rfl (fun K hK => ?_)
     refine step_append_row rfl _ _ _ rfl w5.heap.size 103 i0 _ 5 48 Tryz.underlying31 hi hz0 hz1 hz2 rfl (by omega) _ 0 [] rfl (uh HOu1) _ q (sesC (ss.take q)) rfl (ses_take ((uh HS5).below (uh HBu1)) q sc (by omega)) (by rw [sesC_len, List.length_take]; omega) (sesC_one _) (by unfold maxLen; omega) (by omega) (uh HBu1).size ?_
     intro a2 c2 wv2 hown2 hgrow2 hat2
     have HBv2 := Hd ((uh HBu1).grown hgrow2 (uh HBu1).size (fun r hr => (World.ownsRow.lt (uh HOu1) r hr).1))
     have HOv2 := Hd hown2
     have hbX := uh HBv2
     have HV4 := Hd (((uh HV3).below hbA).kept ((Touch.refl (fun k => (Value.slice (some ⟨bu1, 0, none⟩) 0 0).ownBlock = some k) wu1).grown hgrow2 (fun k e _ => e)) (fun e => by simp only [Value.ownBlock, Option.some.injEq] at e; have := (uh HV3).1; omega))
     clear hown2 hgrow2 hat2
     refine outH hK ?_ (fun hHeld => ?_)
     ·exact ⟨(hbX.cell (p := ⟨w.heap.size, 5, none⟩) hlb).trans x5, (hbX.cell (p := ⟨w.heap.size + 1, 1, none⟩) hcb).trans k1⟩
     clear hK K
     clear hbX
     simp only [Nat.zero_add, List.nil_append] at HOv2 ⊢
     refine rdy1 10 rfl (fun K hK => ?_)
     refine step_append_row rfl _ _ _ rfl w5.heap.size 103 i0 _ 5 48 Tryz.underlying31 hi hz0 hz1 hz2 rfl (by omega) _ q _ rfl (uh HOv2) _ 1 [.int .i64 c.ss, .int .i64 0, .int .i64 0, .int .i64 0, .string ⟨#[]⟩] rfl ⟨_, _, rfl, .inr ⟨_, rfl, Blk.rw (uh HV4)⟩⟩ rfl (by simp [Value.oneCell']) (by unfold maxLen; omega) (by omega) (uh HBv2).size ?_
     intro a5 c5 wv5 hown5 hgrow5 hat5
     have HBv5 := Hd ((uh HBv2).grown hgrow5 (uh HBv2).size (fun r hr => (World.ownsRow.lt (uh HOv2) r hr).1))
     have HOv5 := Hd hown5
     have hbX := uh HBv5
     clear hown5 hgrow5 hat5
     refine outH hK ?_ (fun hHeld => ?_)
     ·exact ⟨(hbX.cell (p := ⟨w.heap.size, 5, none⟩) hlb).trans x5, (hbX.cell (p := ⟨w.heap.size + 1, 1, none⟩) hcb).trans k1⟩
     clear hK K
     clear hbX
     refine rdy1 15 rfl (fun K hK => ?_)
     refine step_append_row rfl _ _ _ rfl w5.heap.size 103 i0 _ 5 48 Tryz.underlying31 hi hz0 hz1 hz2 rfl (by omega) _ (q + 1) _ rfl (uh HOv5) _ (ss.length - q) (sesC (ss.drop q)) rfl (ses_drop ((uh HS5).below (uh HBv5)) q (sc - q) (off + q * 5) (fun h => rfl)) (by rw [sesC_len, List.length_drop]) (sesC_one _) (by unfold maxLen; omega) (by omega) (uh HBv5).size ?_
     intro a3 c3 wv3 hown3 hgrow3 hat3
     have HBv3 := Hd ((uh HBv5).grown hgrow3 (uh HBv5).size (fun r hr => (World.ownsRow.lt (uh HOv5) r hr).1))
     have HOv3 := Hd hown3
     have hbX := uh HBv3
     clear hown3 hgrow3 hat3
     refine outH hK ?_ (fun hHeld => ?_)
     ·exact ⟨(hbX.cell (p := ⟨w.heap.size, 5, none⟩) hlb).trans x5, (hbX.cell (p := ⟨w.heap.size + 1, 1, none⟩) hcb).trans k1⟩
     clear hK K
     clear hbX
     refine tkH 16 rfl ?_
     have hln : q + 1 + (ss.length - q) = (insS ss q (newS c.ss)).length := by rw [insS_len _ _ _ hple]; try omega
     have O3 : OwnSe w5.heap.size wv3 (.slice a3 (insS ss q (newS c.ss)).length c3) (insS ss q (newS c.ss)) := by
      have h := uh HOv3
      rw [hln] at h
      have hx9 : sesC (insS ss q (newS c.ss)) = sesC (ss.take q) ++ [.int .i64 c.ss, .int .i64 0, .int .i64 0, .int .i64 0, .string ⟨#[]⟩] ++ sesC (ss.drop q) := by
       rw [sesC_ins, ← sesC_take, ← sesC_drop, ← List.append_assoc]
       rfl
      unfold OwnSe
      rw [hx9]
      exact h
     rw [hln]
     clear hln HOv3 HOv5 HOv2
     generalize (insS ss q (newS c.ss)).length = n3 at *
     have U3 := (uh U5).below (uh HBv3)
     have u5 := U3.cell 5 rfl
     have g5 := U3.fro 5
     have TS := (Touch.refl (fun k => k = ub) wv3).setCell ⟨ub, 5, none⟩ (.slice a3 n3 c3) (fun _ => rfl)
     have U4 := Hd (U3.set 5 (.slice a3 n3 c3) (by simp))
     have O4 := Hd (((uh O5).below (uh HBv3)).kept TS (fun e => by omega))
     have R4 := Hd (((uh R5).below (uh HBv3)).kept TS (fun e => by omega))
     have hsz := (uh HBv3).size
     have SE4 := Hd (O3.kept TS (fun k hk e => by have := (O3.lt k hk).1; omega))
     have K4 := Hd (((uh K5).trans ((uh HBv3).mono (uh K5).size)).trans (TS.below ((uh K5).trans ((uh HBv3).mono (uh K5).size)).size (fun k hk e => by omega)))
     have k9 := ((uh HBv3).cell (p := ⟨w.heap.size, 5, none⟩) hlb).trans x5
     have k8 := ((uh HBv3).cell (p := ⟨w.heap.size + 1, 1, none⟩) hcb).trans k1
     have hTc := And.intro ((TS.cell (p := ⟨w.heap.size, 5, none⟩) (by show w.heap.size < _; omega) (by show ¬ w.heap.size = ub; omega)).trans k9) ((TS.cell (p := ⟨w.heap.size + 1, 1, none⟩) (by show w.heap.size + 1 < _; omega) (by show ¬ w.heap.size + 1 = ub; omega)).trans k8)
     clear U3 TS O3
     refine rdy1 17 rfl (fun K hK => ?_)
     go_simp
     refine outH hK ?_ (fun hHeld => ?_)
     ·exact hTc
     clear hK K
     refine wpAnyH_done (by kernel_rfl) (NoPanic.normal ?_) _
     clear hTc k9 k8 u5 g5 hHeld
     generalize wv3.setCell ⟨ub, 5, none⟩ (.slice a3 n3 c3) = w4 at *
     have hw4 : w.heap.size + 1 + 1 + 1 < w4.heap.size := (uh R4).1
     obtain ⟨⟨u0, u1, u2, u3, u4, u5⟩, _⟩ := Blk.c6 (uh U4)
     obtain ⟨⟨ox0, ox1, ox2, ox3, ox4, ox5⟩, of0, of1, of2, of3, of4, of5⟩ := Blk.c6 (uh O4)
     obtain ⟨⟨rx0, rx1, rx2⟩, rf0, rf1, rf2⟩ := Blk.c3 (uh R4)
     obtain ⟨HO9, HR9, HT9⟩ := end63 (uh O4) (uh R4) (by omega) (.slice la ln lc) (.string bk) (.string bv) (.int .i64 ba) (.slice ka kn kc) (.slice a3 n3 c3) (.int .i64 1) (.int .i64 0) (.string ⟨#[]⟩)
     go_wp2_with fail
     obtain ⟨⟨z0, z1, z2, z3, z4, z5⟩, _⟩ := Blk.c6 (uh HO9)
     obtain ⟨⟨y0, y1, y2⟩, _⟩ := Blk.c3 (uh HR9)
     refine bodyPost_ret (v := .tuple #[.agg #[.slice la ln lc, .string bk, .string bv, .int .i64 ba, .slice ka kn kc, .slice a3 n3 c3], .agg #[.int .i64 1, .int .i64 0, .string ⟨#[]⟩]]) (by simp [results, Tryz.results63, go_sem, z0, z1, z2, z3, z4, z5, y0, y1, y2]) rfl ?_
     have K9 := (uh K4).trans ((uh HT9).below (uh K4).size (fun k9 hk9 e => by rcases e with e | e <;> omega))
     rw [uh HU2]
     have hse := uh SE4
     exact ⟨a3, n3, c3, rfl, (hse.kept (uh HT9) (fun k hk e => by have := (hse.lt k hk).1; rcases e with e | e <;> omega)).read, K9, own_fresh hse (by omega)⟩
  ·have hqn : ss.length = q := by omega
   have hkq2 : q = k := by omega
   subst hkq2
   subst hqn
   have m1 : ¬ (ss.length : Int) < (ss.length : Int) := by omega
   go_upto_region 13 with fail
   refine wp_region_noPanic ?_
   refine wp_region_held_drew (S := (fun wx => wx.cell? ⟨w.heap.size, 5, none⟩ = some (.slice sa ss.length sc))) (by kernel_rfl) ?_ (fun hHeld => ?_)
   ·exact y5
   refine tkH 0 rfl ?_
   refine tkH 1 rfl ?_
   refine tkH 2 rfl ?_
   refine tkH 3 rfl ?_
   refine tkH 4 rfl ?_
   refine tkH 5 rfl ?_
   refine wpAnyH_take (i := 6) (oi := _) (v := undef) rfl (by kernel_rfl) (by kernel_rfl) (by kernel_rfl) (fun _ _ _ h => h) (Or.inr ⟨by rfl, rfl⟩) (by assumption) ?_
   (try simp only [Act.put, List.getElem_toArray, List.getElem_cons_succ, List.getElem_cons_zero, List.setIfInBounds_toArray, List.set_cons_zero, List.set_cons_succ])
   refine wpAnyH_take (i := 7) (oi := _) (v := undef) rfl (by kernel_rfl) (by kernel_rfl) (by kernel_rfl) (fun _ _ _ h => h) (Or.inr ⟨by rfl, rfl⟩) (by assumption) ?_
   (try simp only [Act.put, List.getElem_toArray, List.getElem_cons_succ, List.getElem_cons_zero, List.setIfInBounds_toArray, List.set_cons_zero, List.set_cons_succ])
   refine wpAnyH_take (i := 8) (oi := _) (v := undef) rfl (by kernel_rfl) (by kernel_rfl) (by kernel_rfl) (fun _ _ _ h => h) (Or.inr ⟨by rfl, rfl⟩) (by assumption) ?_
   (try simp only [Act.put, List.getElem_toArray, List.getElem_cons_succ, List.getElem_cons_zero, List.setIfInBounds_toArray, List.set_cons_zero, List.set_cons_succ])
   refine wpAnyH_take (i := 9) (oi := _) (v := undef) rfl (by kernel_rfl) (by kernel_rfl) (by kernel_rfl) (fun _ _ _ h => h) (Or.inr ⟨by rfl, rfl⟩) (by assumption) ?_
   (try simp only [Act.put, List.getElem_toArray, List.getElem_cons_succ, List.getElem_cons_zero, List.setIfInBounds_toArray, List.set_cons_zero, List.set_cons_succ])
   refine wpAnyH_take (i := 10) (oi := _) (v := undef) rfl (by kernel_rfl) (by kernel_rfl) (by kernel_rfl) (fun _ _ _ h => h) (Or.inr ⟨by rfl, rfl⟩) (by assumption) ?_
   (try simp only [Act.put, List.getElem_toArray, List.getElem_cons_succ, List.getElem_cons_zero, List.setIfInBounds_toArray, List.set_cons_zero, List.set_cons_succ])
   refine wpAnyH_take (i := 11) (oi := _) (v := undef) rfl (by kernel_rfl) (by kernel_rfl) (by kernel_rfl) (fun _ _ _ h => h) (Or.inr ⟨by rfl, rfl⟩) (by assumption) ?_
   (try simp only [Act.put, List.getElem_toArray, List.getElem_cons_succ, List.getElem_cons_zero, List.setIfInBounds_toArray, List.set_cons_zero, List.set_cons_succ])
   refine wpAnyH_take (i := 12) (oi := _) (v := undef) rfl (by kernel_rfl) (by kernel_rfl) (by kernel_rfl) (fun _ _ _ h => h) (Or.inr ⟨by rfl, rfl⟩) (by assumption) ?_
   (try simp only [Act.put, List.getElem_toArray, List.getElem_cons_succ, List.getElem_cons_zero, List.setIfInBounds_toArray, List.set_cons_zero, List.set_cons_succ])
   refine wpAnyH_take (i := 13) (oi := _) (v := undef) rfl (by kernel_rfl) (by kernel_rfl) (by kernel_rfl) (fun _ _ _ h => h) (Or.inr ⟨by rfl, rfl⟩) (by assumption) ?_
   (try simp only [Act.put, List.getElem_toArray, List.getElem_cons_succ, List.getElem_cons_zero, List.setIfInBounds_toArray, List.set_cons_zero, List.set_cons_succ])
   refine wpAnyH_take (i := 14) (oi := _) (v := undef) rfl (by kernel_rfl) (by kernel_rfl) (by kernel_rfl) (fun _ _ _ h => h) (Or.inr ⟨by rfl, rfl⟩) (by assumption) ?_
   (try simp only [Act.put, List.getElem_toArray, List.getElem_cons_succ, List.getElem_cons_zero, List.setIfInBounds_toArray, List.set_cons_zero, List.set_cons_succ])
   refine tkH 15 rfl ?_
   refine wpAnyH_done (by kernel_rfl) (NoPanic.normal ?_) _
   have HB5 := Hd (below_drewN (uh HB) 1)
   change Hid (Below w1.heap.size w1 wr.drew) at HB5
   clear y5 y1 hHeld HB
   generalize wr.drew = w5 at *
   by_cases hce : sc = ss.length
   ·subst hce
    have K5 := Hd ((uh K1).trans ((uh HB5).mono (uh K1).size))
    have HS5 := Hd ((uh HSS).below (uh K5))
    have O5 := Hd ((uh O1).below (uh HB5))
    have R5 := Hd ((uh R1).below (uh HB5))
    have U5 := Hd ((uh U1).below (uh HB5))
    have z5 := (uh HB5).cell (p := ⟨w.heap.size, 5, none⟩) hlb
    have z1 := (uh HB5).cell (p := ⟨w.heap.size + 1, 1, none⟩) hcb
    rw [x5] at z5
    rw [k1] at z1
    have hl5 := (uh HB5).size
    clear x5 k1 K1 O1 R1 U1 X1 C1 HB5
    have x5 := z5
    have k1 := z1
    clear z5 z1
    replace hlb : w.heap.size < w5.heap.size := by omega
    replace hcb : w.heap.size + 1 < w5.heap.size := by omega
    replace hub : ub < w5.heap.size := by omega
    go_upto_region 15 with fail
    refine wp_region_noPanic ?_
    refine wp_region_held_drew (S := (fun wx => wx.cell? ⟨w.heap.size, 5, none⟩ = some (.slice sa ss.length ss.length) ∧ wx.cell? ⟨w.heap.size + 1, 1, none⟩ = some (.int .i64 c.ss))) (by kernel_rfl) ?_ (fun hHeld => ?_)
    ·exact ⟨x5, k1⟩
    refine tkH 1 rfl ?_
    refine tkH 2 rfl ?_
    refine tkH 3 rfl ?_
    refine tkH 4 rfl ?_
    refine tkH 6 rfl ?_
    refine tkH 7 rfl ?_
    refine tkH 8 rfl ?_
    refine tkH 11 rfl ?_
    refine tkH 12 rfl ?_
    refine tkH 13 rfl ?_
    refine tkH 14 rfl ?_
    have HBq := Hd (below_drewN (Below.refl w5.heap.size w5) 1)
    change Hid (Below w5.heap.size w5 w5.drew) at HBq
    generalize w5.drew = wq at *
    refine rdy2 0 9 rfl rfl (fun K hK => ?_) (fun K hK => ?_)
    ·skip
     go_simp
     have HBu1 := Hd ((uh HBq).alloc (uh HBq).size (.cells #[] 103))
     have HOu1 := Hd (show (wq.alloc (.cells #[] 103)).ownsRow w5.heap.size 103 5 (.slice (some ⟨wq.heap.size, 0, none⟩) 0 0) 0 [] from World.ownsRow_made wq #[] 0 (uh HBq).size (by unfold maxLen; omega) rfl)
     have hbX := uh HBu1
     refine outH hK ?_ (fun hHeld => ?_)
     ·exact ⟨(hbX.cell (p := ⟨w.heap.size, 5, none⟩) hlb).trans x5, (hbX.cell (p := ⟨w.heap.size + 1, 1, none⟩) hcb).trans k1⟩
     clear hK K
     clear hbX
     generalize wq.alloc (.cells #[] 103) = wu1 at *
     generalize wq.heap.size = bu1 at *
     refine rdy2 5 9 rfl rfl (fun K hK => ?_) (fun K hK => ?_)
     ·skip
      refine step_append_row rfl _ _ _ rfl w5.heap.size 103 i0 _ 5 48 Tryz.underlying31 hi hz0 hz1 hz2 rfl (by omega) _ 0 [] rfl (uh HOu1) _ ss.length (sesC (ss.take ss.length)) rfl (ses_take ((uh HS5).below (uh HBu1)) ss.length ss.length (by omega)) (by rw [sesC_len, List.length_take]; omega) (sesC_one _) (by unfold maxLen; omega) (by omega) (uh HBu1).size ?_
      intro a2 c2 wv2 hown2 hgrow2 hat2
      have HBv2 := Hd ((uh HBu1).grown hgrow2 (uh HBu1).size (fun r hr => (World.ownsRow.lt (uh HOu1) r hr).1))
      have HOv2 := Hd hown2
      have hbX := uh HBv2
      clear hown2 hgrow2 hat2
      refine outH hK ?_ (fun hHeld => ?_)
      ·exact ⟨(hbX.cell (p := ⟨w.heap.size, 5, none⟩) hlb).trans x5, (hbX.cell (p := ⟨w.heap.size + 1, 1, none⟩) hcb).trans k1⟩
      clear hK K
      clear hbX
      simp only [Nat.zero_add, List.nil_append] at HOv2 ⊢
      refine rdy1 9 rfl (fun K hK => ?_)
      go_simp
      have HBu3 := Hd ((uh HBv2).alloc (uh HBv2).size (.cells #[.int .i64 c.ss, .int .i64 0, .int .i64 0, .int .i64 0, .string ⟨#[]⟩] 103))
      have HV3 := Hd (Blk.new wv2 #[.int .i64 c.ss, .int .i64 0, .int .i64 0, .int .i64 0, .string ⟨#[]⟩] 103 wv2.heap.size rfl)
      have HOu3 := Hd (World.ownsRow.alloc (uh HOv2) (.cells #[.int .i64 c.ss, .int .i64 0, .int .i64 0, .int .i64 0, .string ⟨#[]⟩] 103))
      have HLt3 := Hd (fun k hk => (World.ownsRow.lt (uh HOv2) k hk).2)
      have hbX := uh HBu3
      refine outH hK ?_ (fun hHeld => ?_)
      ·exact ⟨(hbX.cell (p := ⟨w.heap.size, 5, none⟩) hlb).trans x5, (hbX.cell (p := ⟨w.heap.size + 1, 1, none⟩) hcb).trans k1⟩
      clear hK K
      clear hbX
      generalize wv2.alloc (.cells #[.int .i64 c.ss, .int .i64 0, .int .i64 0, .int .i64 0, .string ⟨#[]⟩] 103) = wu3 at *
      generalize wv2.heap.size = vb at *
      refine rdy1 10 rfl (fun K hK => ?_)
      refine step_append_row rfl _ _ _ rfl w5.heap.size 103 i0 _ 5 48 Tryz.underlying31 hi hz0 hz1 hz2 rfl (by omega) _ ss.length _ rfl (uh HOu3) _ 1 [.int .i64 c.ss, .int .i64 0, .int .i64 0, .int .i64 0, .string ⟨#[]⟩] rfl ⟨_, _, rfl, .inr ⟨_, rfl, Blk.rw (uh HV3)⟩⟩ rfl (by simp [Value.oneCell']) (by unfold maxLen; omega) (by omega) (uh HBu3).size ?_
      intro a5 c5 wv5 hown5 hgrow5 hat5
      have HBv5 := Hd ((uh HBu3).grown hgrow5 (uh HBu3).size (fun r hr => (World.ownsRow.lt (uh HOu3) r hr).1))
      have HOv5 := Hd hown5
      have hbX := uh HBv5
      clear hown5 hgrow5 hat5
      refine outH hK ?_ (fun hHeld => ?_)
      ·exact ⟨(hbX.cell (p := ⟨w.heap.size, 5, none⟩) hlb).trans x5, (hbX.cell (p := ⟨w.heap.size + 1, 1, none⟩) hcb).trans k1⟩
      clear hK K
      clear hbX
      refine rdy1 15 rfl (fun K hK => ?_)
      refine step_append_row rfl _ _ _ rfl w5.heap.size 103 i0 _ 5 48 Tryz.underlying31 hi hz0 hz1 hz2 rfl (by omega) _ (ss.length + 1) _ rfl (uh HOv5) _ 0 [] rfl ⟨_, _, rfl, .inl rfl⟩ rfl (by simp) (by unfold maxLen; omega) (by omega) (uh HBv5).size ?_
      intro a3 c3 wv3 hown3 hgrow3 hat3
      have HBv3 := Hd ((uh HBv5).grown hgrow3 (uh HBv5).size (fun r hr => (World.ownsRow.lt (uh HOv5) r hr).1))
      have HOv3 := Hd hown3
      have hbX := uh HBv3
      clear hown3 hgrow3 hat3
      refine outH hK ?_ (fun hHeld => ?_)
      ·exact ⟨(hbX.cell (p := ⟨w.heap.size, 5, none⟩) hlb).trans x5, (hbX.cell (p := ⟨w.heap.size + 1, 1, none⟩) hcb).trans k1⟩
      clear hK K
      clear hbX
      refine tkH 16 rfl ?_
      have hln : ss.length + 1 + 0 = (insS ss ss.length (newS c.ss)).length := by rw [insS_len _ _ _ hple]; try omega
      have O3 : OwnSe w5.heap.size wv3 (.slice a3 (insS ss ss.length (newS c.ss)).length c3) (insS ss ss.length (newS c.ss)) := by
       have h := uh HOv3
       rw [hln] at h
       have hx9 : sesC (insS ss ss.length (newS c.ss)) = sesC (ss.take ss.length) ++ [.int .i64 c.ss, .int .i64 0, .int .i64 0, .int .i64 0, .string ⟨#[]⟩] ++ [] := by
        rw [sesC_ins, ← sesC_take, ← sesC_drop, show ss.drop ss.length = [] from List.drop_eq_nil_of_le (by omega), ← List.append_assoc]
        rfl
       unfold OwnSe
       rw [hx9]
       exact h
      rw [hln]
      clear hln HOv3 HOv5 HOu3
      generalize (insS ss ss.length (newS c.ss)).length = n3 at *
      have U3 := (uh U5).below (uh HBv3)
      have u5 := U3.cell 5 rfl
      have g5 := U3.fro 5
      have TS := (Touch.refl (fun k => k = ub) wv3).setCell ⟨ub, 5, none⟩ (.slice a3 n3 c3) (fun _ => rfl)
      have U4 := Hd (U3.set 5 (.slice a3 n3 c3) (by simp))
      have O4 := Hd (((uh O5).below (uh HBv3)).kept TS (fun e => by omega))
      have R4 := Hd (((uh R5).below (uh HBv3)).kept TS (fun e => by omega))
      have hsz := (uh HBv3).size
      have SE4 := Hd (O3.kept TS (fun k hk e => by have := (O3.lt k hk).1; omega))
      have K4 := Hd (((uh K5).trans ((uh HBv3).mono (uh K5).size)).trans (TS.below ((uh K5).trans ((uh HBv3).mono (uh K5).size)).size (fun k hk e => by omega)))
      have k9 := ((uh HBv3).cell (p := ⟨w.heap.size, 5, none⟩) hlb).trans x5
      have k8 := ((uh HBv3).cell (p := ⟨w.heap.size + 1, 1, none⟩) hcb).trans k1
      have hTc := And.intro ((TS.cell (p := ⟨w.heap.size, 5, none⟩) (by show w.heap.size < _; omega) (by show ¬ w.heap.size = ub; omega)).trans k9) ((TS.cell (p := ⟨w.heap.size + 1, 1, none⟩) (by show w.heap.size + 1 < _; omega) (by show ¬ w.heap.size + 1 = ub; omega)).trans k8)
      clear U3 TS O3
      refine rdy1 17 rfl (fun K hK => ?_)
      go_simp
      refine outH hK ?_ (fun hHeld => ?_)
      ·exact hTc
      clear hK K
      refine wpAnyH_done (by kernel_rfl) (NoPanic.normal ?_) _
      clear hTc k9 k8 u5 g5 hHeld
      generalize wv3.setCell ⟨ub, 5, none⟩ (.slice a3 n3 c3) = w4 at *
      have hw4 : w.heap.size + 1 + 1 + 1 < w4.heap.size := (uh R4).1
      obtain ⟨⟨u0, u1, u2, u3, u4, u5⟩, _⟩ := Blk.c6 (uh U4)
      obtain ⟨⟨ox0, ox1, ox2, ox3, ox4, ox5⟩, of0, of1, of2, of3, of4, of5⟩ := Blk.c6 (uh O4)
      obtain ⟨⟨rx0, rx1, rx2⟩, rf0, rf1, rf2⟩ := Blk.c3 (uh R4)
      obtain ⟨HO9, HR9, HT9⟩ := end63 (uh O4) (uh R4) (by omega) (.slice la ln lc) (.string bk) (.string bv) (.int .i64 ba) (.slice ka kn kc) (.slice a3 n3 c3) (.int .i64 1) (.int .i64 0) (.string ⟨#[]⟩)
      go_wp2_with fail
      obtain ⟨⟨z0, z1, z2, z3, z4, z5⟩, _⟩ := Blk.c6 (uh HO9)
      obtain ⟨⟨y0, y1, y2⟩, _⟩ := Blk.c3 (uh HR9)
      refine bodyPost_ret (v := .tuple #[.agg #[.slice la ln lc, .string bk, .string bv, .int .i64 ba, .slice ka kn kc, .slice a3 n3 c3], .agg #[.int .i64 1, .int .i64 0, .string ⟨#[]⟩]]) (by simp [results, Tryz.results63, go_sem, z0, z1, z2, z3, z4, z5, y0, y1, y2]) rfl ?_
      have K9 := (uh K4).trans ((uh HT9).below (uh K4).size (fun k9 hk9 e => by rcases e with e | e <;> omega))
      rw [uh HU2]
      have hse := uh SE4
      exact ⟨a3, n3, c3, rfl, (hse.kept (uh HT9) (fun k hk e => by have := (hse.lt k hk).1; rcases e with e | e <;> omega)).read, K9, own_fresh hse (by omega)⟩
     ·skip
      go_simp
      have HBu3 := Hd ((uh HBu1).alloc (uh HBu1).size (.cells #[.int .i64 c.ss, .int .i64 0, .int .i64 0, .int .i64 0, .string ⟨#[]⟩] 103))
      have HV3 := Hd (Blk.new wu1 #[.int .i64 c.ss, .int .i64 0, .int .i64 0, .int .i64 0, .string ⟨#[]⟩] 103 wu1.heap.size rfl)
      have HOu3 := Hd (World.ownsRow.alloc (uh HOu1) (.cells #[.int .i64 c.ss, .int .i64 0, .int .i64 0, .int .i64 0, .string ⟨#[]⟩] 103))
      have HLt3 := Hd (fun k hk => (World.ownsRow.lt (uh HOu1) k hk).2)
      have hbX := uh HBu3
      refine outH hK ?_ (fun hHeld => ?_)
      ·exact ⟨(hbX.cell (p := ⟨w.heap.size, 5, none⟩) hlb).trans x5, (hbX.cell (p := ⟨w.heap.size + 1, 1, none⟩) hcb).trans k1⟩
      clear hK K
      clear hbX
      generalize wu1.alloc (.cells #[.int .i64 c.ss, .int .i64 0, .int .i64 0, .int .i64 0, .string ⟨#[]⟩] 103) = wu3 at *
      generalize wu1.heap.size = vb at *
      refine rdy1 5 rfl (fun K hK => ?_)
      refine step_append_row rfl _ _ _ rfl w5.heap.size 103 i0 _ 5 48 Tryz.underlying31 hi hz0 hz1 hz2 rfl (by omega) _ 0 [] rfl (uh HOu3) _ ss.length (sesC (ss.take ss.length)) rfl (ses_take ((uh HS5).below (uh HBu3)) ss.length ss.length (by omega)) (by rw [sesC_len, List.length_take]; omega) (sesC_one _) (by unfold maxLen; omega) (by omega) (uh HBu3).size ?_
      intro a2 c2 wv2 hown2 hgrow2 hat2
      have HBv2 := Hd ((uh HBu3).grown hgrow2 (uh HBu3).size (fun r hr => (World.ownsRow.lt (uh HOu3) r hr).1))
      have HOv2 := Hd hown2
      have hbX := uh HBv2
      have HV4 := Hd ((uh HV3).kept ((Touch.refl (fun k => (Value.slice (some ⟨bu1, 0, none⟩) 0 0).ownBlock = some k) wu3).grown hgrow2 (fun k e _ => e)) (fun e => by have := uh HLt3 vb e; omega))
      clear hown2 hgrow2 hat2
      refine outH hK ?_ (fun hHeld => ?_)
      ·exact ⟨(hbX.cell (p := ⟨w.heap.size, 5, none⟩) hlb).trans x5, (hbX.cell (p := ⟨w.heap.size + 1, 1, none⟩) hcb).trans k1⟩
      clear hK K
      clear hbX
      simp only [Nat.zero_add, List.nil_append] at HOv2 ⊢
      refine rdy1 10 rfl (fun K hK => ?_)
      refine step_append_row rfl _ _ _ rfl w5.heap.size 103 i0 _ 5 48 Tryz.underlying31 hi hz0 hz1 hz2 rfl (by omega) _ ss.length _ rfl (uh HOv2) _ 1 [.int .i64 c.ss, .int .i64 0, .int .i64 0, .int .i64 0, .string ⟨#[]⟩] rfl ⟨_, _, rfl, .inr ⟨_, rfl, Blk.rw (uh HV4)⟩⟩ rfl (by simp [Value.oneCell']) (by unfold maxLen; omega) (by omega) (uh HBv2).size ?_
      intro a5 c5 wv5 hown5 hgrow5 hat5
      have HBv5 := Hd ((uh HBv2).grown hgrow5 (uh HBv2).size (fun r hr => (World.ownsRow.lt (uh HOv2) r hr).1))
      have HOv5 := Hd hown5
      have hbX := uh HBv5
      clear hown5 hgrow5 hat5
      refine outH hK ?_ (fun hHeld => ?_)
      ·exact ⟨(hbX.cell (p := ⟨w.heap.size, 5, none⟩) hlb).trans x5, (hbX.cell (p := ⟨w.heap.size + 1, 1, none⟩) hcb).trans k1⟩
      clear hK K
      clear hbX
      refine rdy1 15 rfl (fun K hK => ?_)
      refine step_append_row rfl _ _ _ rfl w5.heap.size 103 i0 _ 5 48 Tryz.underlying31 hi hz0 hz1 hz2 rfl (by omega) _ (ss.length + 1) _ rfl (uh HOv5) _ 0 [] rfl ⟨_, _, rfl, .inl rfl⟩ rfl (by simp) (by unfold maxLen; omega) (by omega) (uh HBv5).size ?_
      intro a3 c3 wv3 hown3 hgrow3 hat3
      have HBv3 := Hd ((uh HBv5).grown hgrow3 (uh HBv5).size (fun r hr => (World.ownsRow.lt (uh HOv5) r hr).1))
      have HOv3 := Hd hown3
      have hbX := uh HBv3
      clear hown3 hgrow3 hat3
      refine outH hK ?_ (fun hHeld => ?_)
      ·exact ⟨(hbX.cell (p := ⟨w.heap.size, 5, none⟩) hlb).trans x5, (hbX.cell (p := ⟨w.heap.size + 1, 1, none⟩) hcb).trans k1⟩
      clear hK K
      clear hbX
      refine tkH 16 rfl ?_
      have hln : ss.length + 1 + 0 = (insS ss ss.length (newS c.ss)).length := by rw [insS_len _ _ _ hple]; try omega
      have O3 : OwnSe w5.heap.size wv3 (.slice a3 (insS ss ss.length (newS c.ss)).length c3) (insS ss ss.length (newS c.ss)) := by
       have h := uh HOv3
       rw [hln] at h
       have hx9 : sesC (insS ss ss.length (newS c.ss)) = sesC (ss.take ss.length) ++ [.int .i64 c.ss, .int .i64 0, .int .i64 0, .int .i64 0, .string ⟨#[]⟩] ++ [] := by
        rw [sesC_ins, ← sesC_take, ← sesC_drop, show ss.drop ss.length = [] from List.drop_eq_nil_of_le (by omega), ← List.append_assoc]
        rfl
       unfold OwnSe
       rw [hx9]
       exact h
      rw [hln]
      clear hln HOv3 HOv5 HOv2
      generalize (insS ss ss.length (newS c.ss)).length = n3 at *
      have U3 := (uh U5).below (uh HBv3)
      have u5 := U3.cell 5 rfl
      have g5 := U3.fro 5
      have TS := (Touch.refl (fun k => k = ub) wv3).setCell ⟨ub, 5, none⟩ (.slice a3 n3 c3) (fun _ => rfl)
      have U4 := Hd (U3.set 5 (.slice a3 n3 c3) (by simp))
      have O4 := Hd (((uh O5).below (uh HBv3)).kept TS (fun e => by omega))
      have R4 := Hd (((uh R5).below (uh HBv3)).kept TS (fun e => by omega))
      have hsz := (uh HBv3).size
      have SE4 := Hd (O3.kept TS (fun k hk e => by have := (O3.lt k hk).1; omega))
      have K4 := Hd (((uh K5).trans ((uh HBv3).mono (uh K5).size)).trans (TS.below ((uh K5).trans ((uh HBv3).mono (uh K5).size)).size (fun k hk e => by omega)))
      have k9 := ((uh HBv3).cell (p := ⟨w.heap.size, 5, none⟩) hlb).trans x5
      have k8 := ((uh HBv3).cell (p := ⟨w.heap.size + 1, 1, none⟩) hcb).trans k1
      have hTc := And.intro ((TS.cell (p := ⟨w.heap.size, 5, none⟩) (by show w.heap.size < _; omega) (by show ¬ w.heap.size = ub; omega)).trans k9) ((TS.cell (p := ⟨w.heap.size + 1, 1, none⟩) (by show w.heap.size + 1 < _; omega) (by show ¬ w.heap.size + 1 = ub; omega)).trans k8)
      clear U3 TS O3
      refine rdy1 17 rfl (fun K hK => ?_)
      go_simp
      refine outH hK ?_ (fun hHeld => ?_)
      ·exact hTc
      clear hK K
      refine wpAnyH_done (by kernel_rfl) (NoPanic.normal ?_) _
      clear hTc k9 k8 u5 g5 hHeld
      generalize wv3.setCell ⟨ub, 5, none⟩ (.slice a3 n3 c3) = w4 at *
      have hw4 : w.heap.size + 1 + 1 + 1 < w4.heap.size := (uh R4).1
      obtain ⟨⟨u0, u1, u2, u3, u4, u5⟩, _⟩ := Blk.c6 (uh U4)
      obtain ⟨⟨ox0, ox1, ox2, ox3, ox4, ox5⟩, of0, of1, of2, of3, of4, of5⟩ := Blk.c6 (uh O4)
      obtain ⟨⟨rx0, rx1, rx2⟩, rf0, rf1, rf2⟩ := Blk.c3 (uh R4)
      obtain ⟨HO9, HR9, HT9⟩ := end63 (uh O4) (uh R4) (by omega) (.slice la ln lc) (.string bk) (.string bv) (.int .i64 ba) (.slice ka kn kc) (.slice a3 n3 c3) (.int .i64 1) (.int .i64 0) (.string ⟨#[]⟩)
      go_wp2_with fail
      obtain ⟨⟨z0, z1, z2, z3, z4, z5⟩, _⟩ := Blk.c6 (uh HO9)
      obtain ⟨⟨y0, y1, y2⟩, _⟩ := Blk.c3 (uh HR9)
      refine bodyPost_ret (v := .tuple #[.agg #[.slice la ln lc, .string bk, .string bv, .int .i64 ba, .slice ka kn kc, .slice a3 n3 c3], .agg #[.int .i64 1, .int .i64 0, .string ⟨#[]⟩]]) (by simp [results, Tryz.results63, go_sem, z0, z1, z2, z3, z4, z5, y0, y1, y2]) rfl ?_
      have K9 := (uh K4).trans ((uh HT9).below (uh K4).size (fun k9 hk9 e => by rcases e with e | e <;> omega))
      rw [uh HU2]
      have hse := uh SE4
      exact ⟨a3, n3, c3, rfl, (hse.kept (uh HT9) (fun k hk e => by have := (hse.lt k hk).1; rcases e with e | e <;> omega)).read, K9, own_fresh hse (by omega)⟩
    ·skip
     go_simp
     have HBu3 := Hd ((uh HBq).alloc (uh HBq).size (.cells #[.int .i64 c.ss, .int .i64 0, .int .i64 0, .int .i64 0, .string ⟨#[]⟩] 103))
     have HV3 := Hd (Blk.new wq #[.int .i64 c.ss, .int .i64 0, .int .i64 0, .int .i64 0, .string ⟨#[]⟩] 103 wq.heap.size rfl)
     have hbX := uh HBu3
     refine outH hK ?_ (fun hHeld => ?_)
     ·exact ⟨(hbX.cell (p := ⟨w.heap.size, 5, none⟩) hlb).trans x5, (hbX.cell (p := ⟨w.heap.size + 1, 1, none⟩) hcb).trans k1⟩
     clear hK K
     clear hbX
     generalize wq.alloc (.cells #[.int .i64 c.ss, .int .i64 0, .int .i64 0, .int .i64 0, .string ⟨#[]⟩] 103) = wu3 at *
     generalize wq.heap.size = vb at *
     refine rdy1 0 rfl (fun K hK => ?_)
     go_simp
     have HBu1 := Hd ((uh HBu3).alloc (uh HBu3).size (.cells #[] 103))
     have HOu1 := Hd (show (wu3.alloc (.cells #[] 103)).ownsRow w5.heap.size 103 5 (.slice (some ⟨wu3.heap.size, 0, none⟩) 0 0) 0 [] from World.ownsRow_made wu3 #[] 0 (uh HBu3).size (by unfold maxLen; omega) rfl)
     have hbX := uh HBu1
     refine outH hK ?_ (fun hHeld => ?_)
     ·exact ⟨(hbX.cell (p := ⟨w.heap.size, 5, none⟩) hlb).trans x5, (hbX.cell (p := ⟨w.heap.size + 1, 1, none⟩) hcb).trans k1⟩
     clear hK K
     clear hbX
     have hbA := bal wu3 (.cells #[] 103)
     generalize wu3.alloc (.cells #[] 103) = wu1 at *
     have hbu : wu3.heap.size = wu3.heap.size := rfl
     obtain ⟨bu1, hbu1⟩ : ∃ bu1, bu1 = wu3.heap.size := ⟨_, rfl⟩
     rw [← hbu1] at HOu1 ⊢
     refine rdy1 5 rfl (fun K hK => ?_)
     refine step_append_row rfl _ _ _ rfl w5.heap.size 103 i0 _ 5 48 Tryz.underlying31 hi hz0 hz1 hz2 rfl (by omega) _ 0 [] rfl (uh HOu1) _ ss.length (sesC (ss.take ss.length)) rfl (ses_take ((uh HS5).below (uh HBu1)) ss.length ss.length (by omega)) (by rw [sesC_len, List.length_take]; omega) (sesC_one _) (by unfold maxLen; omega) (by omega) (uh HBu1).size ?_
     intro a2 c2 wv2 hown2 hgrow2 hat2
     have HBv2 := Hd ((uh HBu1).grown hgrow2 (uh HBu1).size (fun r hr => (World.ownsRow.lt (uh HOu1) r hr).1))
     have HOv2 := Hd hown2
     have hbX := uh HBv2
     have HV4 := Hd (((uh HV3).below hbA).kept ((Touch.refl (fun k => (Value.slice (some ⟨bu1, 0, none⟩) 0 0).ownBlock = some k) wu1).grown hgrow2 (fun k e _ => e)) (fun e => by simp only [Value.ownBlock, Option.some.injEq] at e; have := (uh HV3).1; omega))
     clear hown2 hgrow2 hat2
     refine outH hK ?_ (fun hHeld => ?_)
     ·exact ⟨(hbX.cell (p := ⟨w.heap.size, 5, none⟩) hlb).trans x5, (hbX.cell (p := ⟨w.heap.size + 1, 1, none⟩) hcb).trans k1⟩
     clear hK K
     clear hbX
     simp only [Nat.zero_add, List.nil_append] at HOv2 ⊢
     refine rdy1 10 rfl (fun K hK => ?_)
     refine step_append_row rfl _ _ _ rfl w5.heap.size 103 i0 _ 5 48 Tryz.underlying31 hi hz0 hz1 hz2 rfl (by omega) _ ss.length _ rfl (uh HOv2) _ 1 [.int .i64 c.ss, .int .i64 0, .int .i64 0, .int .i64 0, .string ⟨#[]⟩] rfl ⟨_, _, rfl, .inr ⟨_, rfl, Blk.rw (uh HV4)⟩⟩ rfl (by simp [Value.oneCell']) (by unfold maxLen; omega) (by omega) (uh HBv2).size ?_
     intro a5 c5 wv5 hown5 hgrow5 hat5
     have HBv5 := Hd ((uh HBv2).grown hgrow5 (uh HBv2).size (fun r hr => (World.ownsRow.lt (uh HOv2) r hr).1))
     have HOv5 := Hd hown5
     have hbX := uh HBv5
     clear hown5 hgrow5 hat5
     refine outH hK ?_ (fun hHeld => ?_)
     ·exact ⟨(hbX.cell (p := ⟨w.heap.size, 5, none⟩) hlb).trans x5, (hbX.cell (p := ⟨w.heap.size + 1, 1, none⟩) hcb).trans k1⟩
     clear hK K
     clear hbX
     refine rdy1 15 rfl (fun K hK => ?_)
     refine step_append_row rfl _ _ _ rfl w5.heap.size 103 i0 _ 5 48 Tryz.underlying31 hi hz0 hz1 hz2 rfl (by omega) _ (ss.length + 1) _ rfl (uh HOv5) _ 0 [] rfl ⟨_, _, rfl, .inl rfl⟩ rfl (by simp) (by unfold maxLen; omega) (by omega) (uh HBv5).size ?_
     intro a3 c3 wv3 hown3 hgrow3 hat3
     have HBv3 := Hd ((uh HBv5).grown hgrow3 (uh HBv5).size (fun r hr => (World.ownsRow.lt (uh HOv5) r hr).1))
     have HOv3 := Hd hown3
     have hbX := uh HBv3
     clear hown3 hgrow3 hat3
     refine outH hK ?_ (fun hHeld => ?_)
     ·exact ⟨(hbX.cell (p := ⟨w.heap.size, 5, none⟩) hlb).trans x5, (hbX.cell (p := ⟨w.heap.size + 1, 1, none⟩) hcb).trans k1⟩
     clear hK K
     clear hbX
     refine tkH 16 rfl ?_
     have hln : ss.length + 1 + 0 = (insS ss ss.length (newS c.ss)).length := by rw [insS_len _ _ _ hple]; try omega
     have O3 : OwnSe w5.heap.size wv3 (.slice a3 (insS ss ss.length (newS c.ss)).length c3) (insS ss ss.length (newS c.ss)) := by
      have h := uh HOv3
      rw [hln] at h
      have hx9 : sesC (insS ss ss.length (newS c.ss)) = sesC (ss.take ss.length) ++ [.int .i64 c.ss, .int .i64 0, .int .i64 0, .int .i64 0, .string ⟨#[]⟩] ++ [] := by
       rw [sesC_ins, ← sesC_take, ← sesC_drop, show ss.drop ss.length = [] from List.drop_eq_nil_of_le (by omega), ← List.append_assoc]
       rfl
      unfold OwnSe
      rw [hx9]
      exact h
     rw [hln]
     clear hln HOv3 HOv5 HOv2
     generalize (insS ss ss.length (newS c.ss)).length = n3 at *
     have U3 := (uh U5).below (uh HBv3)
     have u5 := U3.cell 5 rfl
     have g5 := U3.fro 5
     have TS := (Touch.refl (fun k => k = ub) wv3).setCell ⟨ub, 5, none⟩ (.slice a3 n3 c3) (fun _ => rfl)
     have U4 := Hd (U3.set 5 (.slice a3 n3 c3) (by simp))
     have O4 := Hd (((uh O5).below (uh HBv3)).kept TS (fun e => by omega))
     have R4 := Hd (((uh R5).below (uh HBv3)).kept TS (fun e => by omega))
     have hsz := (uh HBv3).size
     have SE4 := Hd (O3.kept TS (fun k hk e => by have := (O3.lt k hk).1; omega))
     have K4 := Hd (((uh K5).trans ((uh HBv3).mono (uh K5).size)).trans (TS.below ((uh K5).trans ((uh HBv3).mono (uh K5).size)).size (fun k hk e => by omega)))
     have k9 := ((uh HBv3).cell (p := ⟨w.heap.size, 5, none⟩) hlb).trans x5
     have k8 := ((uh HBv3).cell (p := ⟨w.heap.size + 1, 1, none⟩) hcb).trans k1
     have hTc := And.intro ((TS.cell (p := ⟨w.heap.size, 5, none⟩) (by show w.heap.size < _; omega) (by show ¬ w.heap.size = ub; omega)).trans k9) ((TS.cell (p := ⟨w.heap.size + 1, 1, none⟩) (by show w.heap.size + 1 < _; omega) (by show ¬ w.heap.size + 1 = ub; omega)).trans k8)
     clear U3 TS O3
     refine rdy1 17 rfl (fun K hK => ?_)
     go_simp
     refine outH hK ?_ (fun hHeld => ?_)
     ·exact hTc
     clear hK K
     refine wpAnyH_done (by kernel_rfl) (NoPanic.normal ?_) _
     clear hTc k9 k8 u5 g5 hHeld
     generalize wv3.setCell ⟨ub, 5, none⟩ (.slice a3 n3 c3) = w4 at *
     have hw4 : w.heap.size + 1 + 1 + 1 < w4.heap.size := (uh R4).1
     obtain ⟨⟨u0, u1, u2, u3, u4, u5⟩, _⟩ := Blk.c6 (uh U4)
     obtain ⟨⟨ox0, ox1, ox2, ox3, ox4, ox5⟩, of0, of1, of2, of3, of4, of5⟩ := Blk.c6 (uh O4)
     obtain ⟨⟨rx0, rx1, rx2⟩, rf0, rf1, rf2⟩ := Blk.c3 (uh R4)
     obtain ⟨HO9, HR9, HT9⟩ := end63 (uh O4) (uh R4) (by omega) (.slice la ln lc) (.string bk) (.string bv) (.int .i64 ba) (.slice ka kn kc) (.slice a3 n3 c3) (.int .i64 1) (.int .i64 0) (.string ⟨#[]⟩)
     go_wp2_with fail
     obtain ⟨⟨z0, z1, z2, z3, z4, z5⟩, _⟩ := Blk.c6 (uh HO9)
     obtain ⟨⟨y0, y1, y2⟩, _⟩ := Blk.c3 (uh HR9)
     refine bodyPost_ret (v := .tuple #[.agg #[.slice la ln lc, .string bk, .string bv, .int .i64 ba, .slice ka kn kc, .slice a3 n3 c3], .agg #[.int .i64 1, .int .i64 0, .string ⟨#[]⟩]]) (by simp [results, Tryz.results63, go_sem, z0, z1, z2, z3, z4, z5, y0, y1, y2]) rfl ?_
     have K9 := (uh K4).trans ((uh HT9).below (uh K4).size (fun k9 hk9 e => by rcases e with e | e <;> omega))
     rw [uh HU2]
     have hse := uh SE4
     exact ⟨a3, n3, c3, rfl, (hse.kept (uh HT9) (fun k hk e => by have := (hse.lt k hk).1; rcases e with e | e <;> omega)).read, K9, own_fresh hse (by omega)⟩
   ·have q1 : (ss.length : Int) ≤ (sc : Int) := by omega
    have K5 := Hd ((uh K1).trans ((uh HB5).mono (uh K1).size))
    have HS5 := Hd ((uh HSS).below (uh K5))
    have O5 := Hd ((uh O1).below (uh HB5))
    have R5 := Hd ((uh R1).below (uh HB5))
    have U5 := Hd ((uh U1).below (uh HB5))
    have z5 := (uh HB5).cell (p := ⟨w.heap.size, 5, none⟩) hlb
    have z1 := (uh HB5).cell (p := ⟨w.heap.size + 1, 1, none⟩) hcb
    rw [x5] at z5
    rw [k1] at z1
    have hl5 := (uh HB5).size
    clear x5 k1 K1 O1 R1 U1 X1 C1 HB5
    have x5 := z5
    have k1 := z1
    clear z5 z1
    replace hlb : w.heap.size < w5.heap.size := by omega
    replace hcb : w.heap.size + 1 < w5.heap.size := by omega
    replace hub : ub < w5.heap.size := by omega
    go_upto_region 15 with fail
    refine wp_region_noPanic ?_
    refine wp_region_held_drew (S := (fun wx => wx.cell? ⟨w.heap.size, 5, none⟩ = some (.slice sa ss.length sc) ∧ wx.cell? ⟨w.heap.size + 1, 1, none⟩ = some (.int .i64 c.ss))) (by kernel_rfl) ?_ (fun hHeld => ?_)
    ·exact ⟨x5, k1⟩
    refine tkH 1 rfl ?_
    refine tkH 2 rfl ?_
    refine tkH 3 rfl ?_
    refine tkH 4 rfl ?_
    refine tkH 6 rfl ?_
    refine tkH 7 rfl ?_
    refine tkH 8 rfl ?_
    refine tkH 11 rfl ?_
    refine tkH 12 rfl ?_
    refine tkH 13 rfl ?_
    refine tkH 14 rfl ?_
    have HBq := Hd (below_drewN (Below.refl w5.heap.size w5) 1)
    change Hid (Below w5.heap.size w5 w5.drew) at HBq
    generalize w5.drew = wq at *
    refine rdy2 0 9 rfl rfl (fun K hK => ?_) (fun K hK => ?_)
    ·skip
     go_simp
     have HBu1 := Hd ((uh HBq).alloc (uh HBq).size (.cells #[] 103))
     have HOu1 := Hd (show (wq.alloc (.cells #[] 103)).ownsRow w5.heap.size 103 5 (.slice (some ⟨wq.heap.size, 0, none⟩) 0 0) 0 [] from World.ownsRow_made wq #[] 0 (uh HBq).size (by unfold maxLen; omega) rfl)
     have hbX := uh HBu1
     refine outH hK ?_ (fun hHeld => ?_)
     ·exact ⟨(hbX.cell (p := ⟨w.heap.size, 5, none⟩) hlb).trans x5, (hbX.cell (p := ⟨w.heap.size + 1, 1, none⟩) hcb).trans k1⟩
     clear hK K
     clear hbX
     generalize wq.alloc (.cells #[] 103) = wu1 at *
     generalize wq.heap.size = bu1 at *
     refine rdy2 5 9 rfl rfl (fun K hK => ?_) (fun K hK => ?_)
     ·skip
      refine step_append_row rfl _ _ _ rfl w5.heap.size 103 i0 _ 5 48 Tryz.underlying31 hi hz0 hz1 hz2 rfl (by omega) _ 0 [] rfl (uh HOu1) _ ss.length (sesC (ss.take ss.length)) rfl (ses_take ((uh HS5).below (uh HBu1)) ss.length sc (by omega)) (by rw [sesC_len, List.length_take]; omega) (sesC_one _) (by unfold maxLen; omega) (by omega) (uh HBu1).size ?_
      intro a2 c2 wv2 hown2 hgrow2 hat2
      have HBv2 := Hd ((uh HBu1).grown hgrow2 (uh HBu1).size (fun r hr => (World.ownsRow.lt (uh HOu1) r hr).1))
      have HOv2 := Hd hown2
      have hbX := uh HBv2
      clear hown2 hgrow2 hat2
      refine outH hK ?_ (fun hHeld => ?_)
      ·exact ⟨(hbX.cell (p := ⟨w.heap.size, 5, none⟩) hlb).trans x5, (hbX.cell (p := ⟨w.heap.size + 1, 1, none⟩) hcb).trans k1⟩
      clear hK K
      clear hbX
      simp only [Nat.zero_add, List.nil_append] at HOv2 ⊢
      refine rdy1 9 rfl (fun K hK => ?_)
      go_simp
      have HBu3 := Hd ((uh HBv2).alloc (uh HBv2).size (.cells #[.int .i64 c.ss, .int .i64 0, .int .i64 0, .int .i64 0, .string ⟨#[]⟩] 103))
      have HV3 := Hd (Blk.new wv2 #[.int .i64 c.ss, .int .i64 0, .int .i64 0, .int .i64 0, .string ⟨#[]⟩] 103 wv2.heap.size rfl)
      have HOu3 := Hd (World.ownsRow.alloc (uh HOv2) (.cells #[.int .i64 c.ss, .int .i64 0, .int .i64 0, .int .i64 0, .string ⟨#[]⟩] 103))
      have HLt3 := Hd (fun k hk => (World.ownsRow.lt (uh HOv2) k hk).2)
      have hbX := uh HBu3
      refine outH hK ?_ (fun hHeld => ?_)
      ·exact ⟨(hbX.cell (p := ⟨w.heap.size, 5, none⟩) hlb).trans x5, (hbX.cell (p := ⟨w.heap.size + 1, 1, none⟩) hcb).trans k1⟩
      clear hK K
      clear hbX
      generalize wv2.alloc (.cells #[.int .i64 c.ss, .int .i64 0, .int .i64 0, .int .i64 0, .string ⟨#[]⟩] 103) = wu3 at *
      generalize wv2.heap.size = vb at *
      refine rdy1 10 rfl (fun K hK => ?_)
      refine step_append_row rfl _ _ _ rfl w5.heap.size 103 i0 _ 5 48 Tryz.underlying31 hi hz0 hz1 hz2 rfl (by omega) _ ss.length _ rfl (uh HOu3) _ 1 [.int .i64 c.ss, .int .i64 0, .int .i64 0, .int .i64 0, .string ⟨#[]⟩] rfl ⟨_, _, rfl, .inr ⟨_, rfl, Blk.rw (uh HV3)⟩⟩ rfl (by simp [Value.oneCell']) (by unfold maxLen; omega) (by omega) (uh HBu3).size ?_
      intro a5 c5 wv5 hown5 hgrow5 hat5
      have HBv5 := Hd ((uh HBu3).grown hgrow5 (uh HBu3).size (fun r hr => (World.ownsRow.lt (uh HOu3) r hr).1))
      have HOv5 := Hd hown5
      have hbX := uh HBv5
      clear hown5 hgrow5 hat5
      refine outH hK ?_ (fun hHeld => ?_)
      ·exact ⟨(hbX.cell (p := ⟨w.heap.size, 5, none⟩) hlb).trans x5, (hbX.cell (p := ⟨w.heap.size + 1, 1, none⟩) hcb).trans k1⟩
      clear hK K
      clear hbX
      refine rdy1 15 rfl (fun K hK => ?_)
      refine step_append_row rfl _ _ _ rfl w5.heap.size 103 i0 _ 5 48 Tryz.underlying31 hi hz0 hz1 hz2 rfl (by omega) _ (ss.length + 1) _ rfl (uh HOv5) _ 0 [] rfl ⟨_, _, rfl, .inl rfl⟩ rfl (by simp) (by unfold maxLen; omega) (by omega) (uh HBv5).size ?_
      intro a3 c3 wv3 hown3 hgrow3 hat3
      have HBv3 := Hd ((uh HBv5).grown hgrow3 (uh HBv5).size (fun r hr => (World.ownsRow.lt (uh HOv5) r hr).1))
      have HOv3 := Hd hown3
      have hbX := uh HBv3
      clear hown3 hgrow3 hat3
      refine outH hK ?_ (fun hHeld => ?_)
      ·exact ⟨(hbX.cell (p := ⟨w.heap.size, 5, none⟩) hlb).trans x5, (hbX.cell (p := ⟨w.heap.size + 1, 1, none⟩) hcb).trans k1⟩
      clear hK K
      clear hbX
      refine tkH 16 rfl ?_
      have hln : ss.length + 1 + 0 = (insS ss ss.length (newS c.ss)).length := by rw [insS_len _ _ _ hple]; try omega
      have O3 : OwnSe w5.heap.size wv3 (.slice a3 (insS ss ss.length (newS c.ss)).length c3) (insS ss ss.length (newS c.ss)) := by
       have h := uh HOv3
       rw [hln] at h
       have hx9 : sesC (insS ss ss.length (newS c.ss)) = sesC (ss.take ss.length) ++ [.int .i64 c.ss, .int .i64 0, .int .i64 0, .int .i64 0, .string ⟨#[]⟩] ++ [] := by
        rw [sesC_ins, ← sesC_take, ← sesC_drop, show ss.drop ss.length = [] from List.drop_eq_nil_of_le (by omega), ← List.append_assoc]
        rfl
       unfold OwnSe
       rw [hx9]
       exact h
      rw [hln]
      clear hln HOv3 HOv5 HOu3
      generalize (insS ss ss.length (newS c.ss)).length = n3 at *
      have U3 := (uh U5).below (uh HBv3)
      have u5 := U3.cell 5 rfl
      have g5 := U3.fro 5
      have TS := (Touch.refl (fun k => k = ub) wv3).setCell ⟨ub, 5, none⟩ (.slice a3 n3 c3) (fun _ => rfl)
      have U4 := Hd (U3.set 5 (.slice a3 n3 c3) (by simp))
      have O4 := Hd (((uh O5).below (uh HBv3)).kept TS (fun e => by omega))
      have R4 := Hd (((uh R5).below (uh HBv3)).kept TS (fun e => by omega))
      have hsz := (uh HBv3).size
      have SE4 := Hd (O3.kept TS (fun k hk e => by have := (O3.lt k hk).1; omega))
      have K4 := Hd (((uh K5).trans ((uh HBv3).mono (uh K5).size)).trans (TS.below ((uh K5).trans ((uh HBv3).mono (uh K5).size)).size (fun k hk e => by omega)))
      have k9 := ((uh HBv3).cell (p := ⟨w.heap.size, 5, none⟩) hlb).trans x5
      have k8 := ((uh HBv3).cell (p := ⟨w.heap.size + 1, 1, none⟩) hcb).trans k1
      have hTc := And.intro ((TS.cell (p := ⟨w.heap.size, 5, none⟩) (by show w.heap.size < _; omega) (by show ¬ w.heap.size = ub; omega)).trans k9) ((TS.cell (p := ⟨w.heap.size + 1, 1, none⟩) (by show w.heap.size + 1 < _; omega) (by show ¬ w.heap.size + 1 = ub; omega)).trans k8)
      clear U3 TS O3
      refine rdy1 17 rfl (fun K hK => ?_)
      go_simp
      refine outH hK ?_ (fun hHeld => ?_)
      ·exact hTc
      clear hK K
      refine wpAnyH_done (by kernel_rfl) (NoPanic.normal ?_) _
      clear hTc k9 k8 u5 g5 hHeld
      generalize wv3.setCell ⟨ub, 5, none⟩ (.slice a3 n3 c3) = w4 at *
      have hw4 : w.heap.size + 1 + 1 + 1 < w4.heap.size := (uh R4).1
      obtain ⟨⟨u0, u1, u2, u3, u4, u5⟩, _⟩ := Blk.c6 (uh U4)
      obtain ⟨⟨ox0, ox1, ox2, ox3, ox4, ox5⟩, of0, of1, of2, of3, of4, of5⟩ := Blk.c6 (uh O4)
      obtain ⟨⟨rx0, rx1, rx2⟩, rf0, rf1, rf2⟩ := Blk.c3 (uh R4)
      obtain ⟨HO9, HR9, HT9⟩ := end63 (uh O4) (uh R4) (by omega) (.slice la ln lc) (.string bk) (.string bv) (.int .i64 ba) (.slice ka kn kc) (.slice a3 n3 c3) (.int .i64 1) (.int .i64 0) (.string ⟨#[]⟩)
      go_wp2_with fail
      obtain ⟨⟨z0, z1, z2, z3, z4, z5⟩, _⟩ := Blk.c6 (uh HO9)
      obtain ⟨⟨y0, y1, y2⟩, _⟩ := Blk.c3 (uh HR9)
      refine bodyPost_ret (v := .tuple #[.agg #[.slice la ln lc, .string bk, .string bv, .int .i64 ba, .slice ka kn kc, .slice a3 n3 c3], .agg #[.int .i64 1, .int .i64 0, .string ⟨#[]⟩]]) (by simp [results, Tryz.results63, go_sem, z0, z1, z2, z3, z4, z5, y0, y1, y2]) rfl ?_
      have K9 := (uh K4).trans ((uh HT9).below (uh K4).size (fun k9 hk9 e => by rcases e with e | e <;> omega))
      rw [uh HU2]
      have hse := uh SE4
      exact ⟨a3, n3, c3, rfl, (hse.kept (uh HT9) (fun k hk e => by have := (hse.lt k hk).1; rcases e with e | e <;> omega)).read, K9, own_fresh hse (by omega)⟩
     ·skip
      go_simp
      have HBu3 := Hd ((uh HBu1).alloc (uh HBu1).size (.cells #[.int .i64 c.ss, .int .i64 0, .int .i64 0, .int .i64 0, .string ⟨#[]⟩] 103))
      have HV3 := Hd (Blk.new wu1 #[.int .i64 c.ss, .int .i64 0, .int .i64 0, .int .i64 0, .string ⟨#[]⟩] 103 wu1.heap.size rfl)
      have HOu3 := Hd (World.ownsRow.alloc (uh HOu1) (.cells #[.int .i64 c.ss, .int .i64 0, .int .i64 0, .int .i64 0, .string ⟨#[]⟩] 103))
      have HLt3 := Hd (fun k hk => (World.ownsRow.lt (uh HOu1) k hk).2)
      have hbX := uh HBu3
      refine outH hK ?_ (fun hHeld => ?_)
      ·exact ⟨(hbX.cell (p := ⟨w.heap.size, 5, none⟩) hlb).trans x5, (hbX.cell (p := ⟨w.heap.size + 1, 1, none⟩) hcb).trans k1⟩
      clear hK K
      clear hbX
      generalize wu1.alloc (.cells #[.int .i64 c.ss, .int .i64 0, .int .i64 0, .int .i64 0, .string ⟨#[]⟩] 103) = wu3 at *
      generalize wu1.heap.size = vb at *
      refine rdy1 5 rfl (fun K hK => ?_)
      refine step_append_row rfl _ _ _ rfl w5.heap.size 103 i0 _ 5 48 Tryz.underlying31 hi hz0 hz1 hz2 rfl (by omega) _ 0 [] rfl (uh HOu3) _ ss.length (sesC (ss.take ss.length)) rfl (ses_take ((uh HS5).below (uh HBu3)) ss.length sc (by omega)) (by rw [sesC_len, List.length_take]; omega) (sesC_one _) (by unfold maxLen; omega) (by omega) (uh HBu3).size ?_
      intro a2 c2 wv2 hown2 hgrow2 hat2
      have HBv2 := Hd ((uh HBu3).grown hgrow2 (uh HBu3).size (fun r hr => (World.ownsRow.lt (uh HOu3) r hr).1))
      have HOv2 := Hd hown2
      have hbX := uh HBv2
      have HV4 := Hd ((uh HV3).kept ((Touch.refl (fun k => (Value.slice (some ⟨bu1, 0, none⟩) 0 0).ownBlock = some k) wu3).grown hgrow2 (fun k e _ => e)) (fun e => by have := uh HLt3 vb e; omega))
      clear hown2 hgrow2 hat2
      refine outH hK ?_ (fun hHeld => ?_)
      ·exact ⟨(hbX.cell (p := ⟨w.heap.size, 5, none⟩) hlb).trans x5, (hbX.cell (p := ⟨w.heap.size + 1, 1, none⟩) hcb).trans k1⟩
      clear hK K
      clear hbX
      simp only [Nat.zero_add, List.nil_append] at HOv2 ⊢
      refine rdy1 10 rfl (fun K hK => ?_)
      refine step_append_row rfl _ _ _ rfl w5.heap.size 103 i0 _ 5 48 Tryz.underlying31 hi hz0 hz1 hz2 rfl (by omega) _ ss.length _ rfl (uh HOv2) _ 1 [.int .i64 c.ss, .int .i64 0, .int .i64 0, .int .i64 0, .string ⟨#[]⟩] rfl ⟨_, _, rfl, .inr ⟨_, rfl, Blk.rw (uh HV4)⟩⟩ rfl (by simp [Value.oneCell']) (by unfold maxLen; omega) (by omega) (uh HBv2).size ?_
      intro a5 c5 wv5 hown5 hgrow5 hat5
      have HBv5 := Hd ((uh HBv2).grown hgrow5 (uh HBv2).size (fun r hr => (World.ownsRow.lt (uh HOv2) r hr).1))
      have HOv5 := Hd hown5
      have hbX := uh HBv5
      clear hown5 hgrow5 hat5
      refine outH hK ?_ (fun hHeld => ?_)
      ·exact ⟨(hbX.cell (p := ⟨w.heap.size, 5, none⟩) hlb).trans x5, (hbX.cell (p := ⟨w.heap.size + 1, 1, none⟩) hcb).trans k1⟩
      clear hK K
      clear hbX
      refine rdy1 15 rfl (fun K hK => ?_)
      refine step_append_row rfl _ _ _ rfl w5.heap.size 103 i0 _ 5 48 Tryz.underlying31 hi hz0 hz1 hz2 rfl (by omega) _ (ss.length + 1) _ rfl (uh HOv5) _ 0 [] rfl ⟨_, _, rfl, .inl rfl⟩ rfl (by simp) (by unfold maxLen; omega) (by omega) (uh HBv5).size ?_
      intro a3 c3 wv3 hown3 hgrow3 hat3
      have HBv3 := Hd ((uh HBv5).grown hgrow3 (uh HBv5).size (fun r hr => (World.ownsRow.lt (uh HOv5) r hr).1))
      have HOv3 := Hd hown3
      have hbX := uh HBv3
      clear hown3 hgrow3 hat3
      refine outH hK ?_ (fun hHeld => ?_)
      ·exact ⟨(hbX.cell (p := ⟨w.heap.size, 5, none⟩) hlb).trans x5, (hbX.cell (p := ⟨w.heap.size + 1, 1, none⟩) hcb).trans k1⟩
      clear hK K
      clear hbX
      refine tkH 16 rfl ?_
      have hln : ss.length + 1 + 0 = (insS ss ss.length (newS c.ss)).length := by rw [insS_len _ _ _ hple]; try omega
      have O3 : OwnSe w5.heap.size wv3 (.slice a3 (insS ss ss.length (newS c.ss)).length c3) (insS ss ss.length (newS c.ss)) := by
       have h := uh HOv3
       rw [hln] at h
       have hx9 : sesC (insS ss ss.length (newS c.ss)) = sesC (ss.take ss.length) ++ [.int .i64 c.ss, .int .i64 0, .int .i64 0, .int .i64 0, .string ⟨#[]⟩] ++ [] := by
        rw [sesC_ins, ← sesC_take, ← sesC_drop, show ss.drop ss.length = [] from List.drop_eq_nil_of_le (by omega), ← List.append_assoc]
        rfl
       unfold OwnSe
       rw [hx9]
       exact h
      rw [hln]
      clear hln HOv3 HOv5 HOv2
      generalize (insS ss ss.length (newS c.ss)).length = n3 at *
      have U3 := (uh U5).below (uh HBv3)
      have u5 := U3.cell 5 rfl
      have g5 := U3.fro 5
      have TS := (Touch.refl (fun k => k = ub) wv3).setCell ⟨ub, 5, none⟩ (.slice a3 n3 c3) (fun _ => rfl)
      have U4 := Hd (U3.set 5 (.slice a3 n3 c3) (by simp))
      have O4 := Hd (((uh O5).below (uh HBv3)).kept TS (fun e => by omega))
      have R4 := Hd (((uh R5).below (uh HBv3)).kept TS (fun e => by omega))
      have hsz := (uh HBv3).size
      have SE4 := Hd (O3.kept TS (fun k hk e => by have := (O3.lt k hk).1; omega))
      have K4 := Hd (((uh K5).trans ((uh HBv3).mono (uh K5).size)).trans (TS.below ((uh K5).trans ((uh HBv3).mono (uh K5).size)).size (fun k hk e => by omega)))
      have k9 := ((uh HBv3).cell (p := ⟨w.heap.size, 5, none⟩) hlb).trans x5
      have k8 := ((uh HBv3).cell (p := ⟨w.heap.size + 1, 1, none⟩) hcb).trans k1
      have hTc := And.intro ((TS.cell (p := ⟨w.heap.size, 5, none⟩) (by show w.heap.size < _; omega) (by show ¬ w.heap.size = ub; omega)).trans k9) ((TS.cell (p := ⟨w.heap.size + 1, 1, none⟩) (by show w.heap.size + 1 < _; omega) (by show ¬ w.heap.size + 1 = ub; omega)).trans k8)
      clear U3 TS O3
      refine rdy1 17 rfl (fun K hK => ?_)
      go_simp
      refine outH hK ?_ (fun hHeld => ?_)
      ·exact hTc
      clear hK K
      refine wpAnyH_done (by kernel_rfl) (NoPanic.normal ?_) _
      clear hTc k9 k8 u5 g5 hHeld
      generalize wv3.setCell ⟨ub, 5, none⟩ (.slice a3 n3 c3) = w4 at *
      have hw4 : w.heap.size + 1 + 1 + 1 < w4.heap.size := (uh R4).1
      obtain ⟨⟨u0, u1, u2, u3, u4, u5⟩, _⟩ := Blk.c6 (uh U4)
      obtain ⟨⟨ox0, ox1, ox2, ox3, ox4, ox5⟩, of0, of1, of2, of3, of4, of5⟩ := Blk.c6 (uh O4)
      obtain ⟨⟨rx0, rx1, rx2⟩, rf0, rf1, rf2⟩ := Blk.c3 (uh R4)
      obtain ⟨HO9, HR9, HT9⟩ := end63 (uh O4) (uh R4) (by omega) (.slice la ln lc) (.string bk) (.string bv) (.int .i64 ba) (.slice ka kn kc) (.slice a3 n3 c3) (.int .i64 1) (.int .i64 0) (.string ⟨#[]⟩)
      go_wp2_with fail
      obtain ⟨⟨z0, z1, z2, z3, z4, z5⟩, _⟩ := Blk.c6 (uh HO9)
      obtain ⟨⟨y0, y1, y2⟩, _⟩ := Blk.c3 (uh HR9)
      refine bodyPost_ret (v := .tuple #[.agg #[.slice la ln lc, .string bk, .string bv, .int .i64 ba, .slice ka kn kc, .slice a3 n3 c3], .agg #[.int .i64 1, .int .i64 0, .string ⟨#[]⟩]]) (by simp [results, Tryz.results63, go_sem, z0, z1, z2, z3, z4, z5, y0, y1, y2]) rfl ?_
      have K9 := (uh K4).trans ((uh HT9).below (uh K4).size (fun k9 hk9 e => by rcases e with e | e <;> omega))
      rw [uh HU2]
      have hse := uh SE4
      exact ⟨a3, n3, c3, rfl, (hse.kept (uh HT9) (fun k hk e => by have := (hse.lt k hk).1; rcases e with e | e <;> omega)).read, K9, own_fresh hse (by omega)⟩
    ·skip
     go_simp
     have HBu3 := Hd ((uh HBq).alloc (uh HBq).size (.cells #[.int .i64 c.ss, .int .i64 0, .int .i64 0, .int .i64 0, .string ⟨#[]⟩] 103))
     have HV3 := Hd (Blk.new wq #[.int .i64 c.ss, .int .i64 0, .int .i64 0, .int .i64 0, .string ⟨#[]⟩] 103 wq.heap.size rfl)
     have hbX := uh HBu3
     refine outH hK ?_ (fun hHeld => ?_)
     ·exact ⟨(hbX.cell (p := ⟨w.heap.size, 5, none⟩) hlb).trans x5, (hbX.cell (p := ⟨w.heap.size + 1, 1, none⟩) hcb).trans k1⟩
     clear hK K
     clear hbX
     generalize wq.alloc (.cells #[.int .i64 c.ss, .int .i64 0, .int .i64 0, .int .i64 0, .string ⟨#[]⟩] 103) = wu3 at *
     generalize wq.heap.size = vb at *
     refine rdy1 0 rfl (fun K hK => ?_)
     go_simp
     have HBu1 := Hd ((uh HBu3).alloc (uh HBu3).size (.cells #[] 103))
     have HOu1 := Hd (show (wu3.alloc (.cells #[] 103)).ownsRow w5.heap.size 103 5 (.slice (some ⟨wu3.heap.size, 0, none⟩) 0 0) 0 [] from World.ownsRow_made wu3 #[] 0 (uh HBu3).size (by unfold maxLen; omega) rfl)
     have hbX := uh HBu1
     refine outH hK ?_ (fun hHeld => ?_)
     ·exact ⟨(hbX.cell (p := ⟨w.heap.size, 5, none⟩) hlb).trans x5, (hbX.cell (p := ⟨w.heap.size + 1, 1, none⟩) hcb).trans k1⟩
     clear hK K
     clear hbX
     have hbA := bal wu3 (.cells #[] 103)
     generalize wu3.alloc (.cells #[] 103) = wu1 at *
     have hbu : wu3.heap.size = wu3.heap.size := rfl
     obtain ⟨bu1, hbu1⟩ : ∃ bu1, bu1 = wu3.heap.size := ⟨_, rfl⟩
     rw [← hbu1] at HOu1 ⊢
     refine rdy1 5 rfl (fun K hK => ?_)
     refine step_append_row rfl _ _ _ rfl w5.heap.size 103 i0 _ 5 48 Tryz.underlying31 hi hz0 hz1 hz2 rfl (by omega) _ 0 [] rfl (uh HOu1) _ ss.length (sesC (ss.take ss.length)) rfl (ses_take ((uh HS5).below (uh HBu1)) ss.length sc (by omega)) (by rw [sesC_len, List.length_take]; omega) (sesC_one _) (by unfold maxLen; omega) (by omega) (uh HBu1).size ?_
     intro a2 c2 wv2 hown2 hgrow2 hat2
     have HBv2 := Hd ((uh HBu1).grown hgrow2 (uh HBu1).size (fun r hr => (World.ownsRow.lt (uh HOu1) r hr).1))
     have HOv2 := Hd hown2
     have hbX := uh HBv2
     have HV4 := Hd (((uh HV3).below hbA).kept ((Touch.refl (fun k => (Value.slice (some ⟨bu1, 0, none⟩) 0 0).ownBlock = some k) wu1).grown hgrow2 (fun k e _ => e)) (fun e => by simp only [Value.ownBlock, Option.some.injEq] at e; have := (uh HV3).1; omega))
     clear hown2 hgrow2 hat2
     refine outH hK ?_ (fun hHeld => ?_)
     ·exact ⟨(hbX.cell (p := ⟨w.heap.size, 5, none⟩) hlb).trans x5, (hbX.cell (p := ⟨w.heap.size + 1, 1, none⟩) hcb).trans k1⟩
     clear hK K
     clear hbX
     simp only [Nat.zero_add, List.nil_append] at HOv2 ⊢
     refine rdy1 10 rfl (fun K hK => ?_)
     refine step_append_row rfl _ _ _ rfl w5.heap.size 103 i0 _ 5 48 Tryz.underlying31 hi hz0 hz1 hz2 rfl (by omega) _ ss.length _ rfl (uh HOv2) _ 1 [.int .i64 c.ss, .int .i64 0, .int .i64 0, .int .i64 0, .string ⟨#[]⟩] rfl ⟨_, _, rfl, .inr ⟨_, rfl, Blk.rw (uh HV4)⟩⟩ rfl (by simp [Value.oneCell']) (by unfold maxLen; omega) (by omega) (uh HBv2).size ?_
     intro a5 c5 wv5 hown5 hgrow5 hat5
     have HBv5 := Hd ((uh HBv2).grown hgrow5 (uh HBv2).size (fun r hr => (World.ownsRow.lt (uh HOv2) r hr).1))
     have HOv5 := Hd hown5
     have hbX := uh HBv5
     clear hown5 hgrow5 hat5
     refine outH hK ?_ (fun hHeld => ?_)
     ·exact ⟨(hbX.cell (p := ⟨w.heap.size, 5, none⟩) hlb).trans x5, (hbX.cell (p := ⟨w.heap.size + 1, 1, none⟩) hcb).trans k1⟩
     clear hK K
     clear hbX
     refine rdy1 15 rfl (fun K hK => ?_)
     refine step_append_row rfl _ _ _ rfl w5.heap.size 103 i0 _ 5 48 Tryz.underlying31 hi hz0 hz1 hz2 rfl (by omega) _ (ss.length + 1) _ rfl (uh HOv5) _ 0 [] rfl ⟨_, _, rfl, .inl rfl⟩ rfl (by simp) (by unfold maxLen; omega) (by omega) (uh HBv5).size ?_
     intro a3 c3 wv3 hown3 hgrow3 hat3
     have HBv3 := Hd ((uh HBv5).grown hgrow3 (uh HBv5).size (fun r hr => (World.ownsRow.lt (uh HOv5) r hr).1))
     have HOv3 := Hd hown3
     have hbX := uh HBv3
     clear hown3 hgrow3 hat3
     refine outH hK ?_ (fun hHeld => ?_)
     ·exact ⟨(hbX.cell (p := ⟨w.heap.size, 5, none⟩) hlb).trans x5, (hbX.cell (p := ⟨w.heap.size + 1, 1, none⟩) hcb).trans k1⟩
     clear hK K
     clear hbX
     refine tkH 16 rfl ?_
     have hln : ss.length + 1 + 0 = (insS ss ss.length (newS c.ss)).length := by rw [insS_len _ _ _ hple]; try omega
     have O3 : OwnSe w5.heap.size wv3 (.slice a3 (insS ss ss.length (newS c.ss)).length c3) (insS ss ss.length (newS c.ss)) := by
      have h := uh HOv3
      rw [hln] at h
      have hx9 : sesC (insS ss ss.length (newS c.ss)) = sesC (ss.take ss.length) ++ [.int .i64 c.ss, .int .i64 0, .int .i64 0, .int .i64 0, .string ⟨#[]⟩] ++ [] := by
       rw [sesC_ins, ← sesC_take, ← sesC_drop, show ss.drop ss.length = [] from List.drop_eq_nil_of_le (by omega), ← List.append_assoc]
       rfl
      unfold OwnSe
      rw [hx9]
      exact h
     rw [hln]
     clear hln HOv3 HOv5 HOv2
     generalize (insS ss ss.length (newS c.ss)).length = n3 at *
     have U3 := (uh U5).below (uh HBv3)
     have u5 := U3.cell 5 rfl
     have g5 := U3.fro 5
     have TS := (Touch.refl (fun k => k = ub) wv3).setCell ⟨ub, 5, none⟩ (.slice a3 n3 c3) (fun _ => rfl)
     have U4 := Hd (U3.set 5 (.slice a3 n3 c3) (by simp))
     have O4 := Hd (((uh O5).below (uh HBv3)).kept TS (fun e => by omega))
     have R4 := Hd (((uh R5).below (uh HBv3)).kept TS (fun e => by omega))
     have hsz := (uh HBv3).size
     have SE4 := Hd (O3.kept TS (fun k hk e => by have := (O3.lt k hk).1; omega))
     have K4 := Hd (((uh K5).trans ((uh HBv3).mono (uh K5).size)).trans (TS.below ((uh K5).trans ((uh HBv3).mono (uh K5).size)).size (fun k hk e => by omega)))
     have k9 := ((uh HBv3).cell (p := ⟨w.heap.size, 5, none⟩) hlb).trans x5
     have k8 := ((uh HBv3).cell (p := ⟨w.heap.size + 1, 1, none⟩) hcb).trans k1
     have hTc := And.intro ((TS.cell (p := ⟨w.heap.size, 5, none⟩) (by show w.heap.size < _; omega) (by show ¬ w.heap.size = ub; omega)).trans k9) ((TS.cell (p := ⟨w.heap.size + 1, 1, none⟩) (by show w.heap.size + 1 < _; omega) (by show ¬ w.heap.size + 1 = ub; omega)).trans k8)
     clear U3 TS O3
     refine rdy1 17 rfl (fun K hK => ?_)
     go_simp
     refine outH hK ?_ (fun hHeld => ?_)
     ·exact hTc
     clear hK K
     refine wpAnyH_done (by kernel_rfl) (NoPanic.normal ?_) _
     clear hTc k9 k8 u5 g5 hHeld
     generalize wv3.setCell ⟨ub, 5, none⟩ (.slice a3 n3 c3) = w4 at *
     have hw4 : w.heap.size + 1 + 1 + 1 < w4.heap.size := (uh R4).1
     obtain ⟨⟨u0, u1, u2, u3, u4, u5⟩, _⟩ := Blk.c6 (uh U4)
     obtain ⟨⟨ox0, ox1, ox2, ox3, ox4, ox5⟩, of0, of1, of2, of3, of4, of5⟩ := Blk.c6 (uh O4)
     obtain ⟨⟨rx0, rx1, rx2⟩, rf0, rf1, rf2⟩ := Blk.c3 (uh R4)
     obtain ⟨HO9, HR9, HT9⟩ := end63 (uh O4) (uh R4) (by omega) (.slice la ln lc) (.string bk) (.string bv) (.int .i64 ba) (.slice ka kn kc) (.slice a3 n3 c3) (.int .i64 1) (.int .i64 0) (.string ⟨#[]⟩)
     go_wp2_with fail
     obtain ⟨⟨z0, z1, z2, z3, z4, z5⟩, _⟩ := Blk.c6 (uh HO9)
     obtain ⟨⟨y0, y1, y2⟩, _⟩ := Blk.c3 (uh HR9)
     refine bodyPost_ret (v := .tuple #[.agg #[.slice la ln lc, .string bk, .string bv, .int .i64 ba, .slice ka kn kc, .slice a3 n3 c3], .agg #[.int .i64 1, .int .i64 0, .string ⟨#[]⟩]]) (by simp [results, Tryz.results63, go_sem, z0, z1, z2, z3, z4, z5, y0, y1, y2]) rfl ?_
     have K9 := (uh K4).trans ((uh HT9).below (uh K4).size (fun k9 hk9 e => by rcases e with e | e <;> omega))
     rw [uh HU2]
     have hse := uh SE4
     exact ⟨a3, n3, c3, rfl, (hse.kept (uh HT9) (fun k hk e => by have := (hse.lt k hk).1; rcases e with e | e <;> omega)).read, K9, own_fresh hse (by omega)⟩
end Go.Proofs.YtbchnheinnileaaGreatDoor
