/- For every two lists of bytes that can be read, laws.FnMapDrops returns true, they read as they did, and so do the two tables of words, which the card ties to the program's text. Condition: the listed tables start as the program's text lays them. (Written by py/lfmd.py.) -/
import Derived.Test.YtkcpdjeemdlgcaaDoorGwC
import Derived.Test.YtkcpdjeemdlgcaaDoorBrV
import Derived.Deep.Cut
import Derived.Test.YtkcpdjeemdlgcaaDoorLawG
import Derived.Test.YtkcpdjeemdlgcaaDoorCards
import Derived.Test.YtkcpdjeemdlgcaaDoorTie
namespace Go.Proofs.YtkcpdjeemdlgcaaDoor.fnMapDrops
open Go.ChangeShapes Go.WideShapes Go.ChangeAt Go.RowKit Sha
open Go.ChangeMaps (open_string shut_string)
set_option linter.unusedVariables false
set_option linter.unusedSimpArgs false

/-- A branch in a box. -/
def Bx (S : Nat → Prop) (w : World) (p : Nat) (b : Br) : Prop := ∃ sa c, Blk w p [.string b.key, .string b.val, .int .i64 b.at_, .slice sa b.kids.length c] ∧ Brs S w (.slice sa b.kids.length c) b.kids
theorem Bx.lt {S : Nat → Prop} {w : World} {p : Nat} {b : Br} (h : Bx S w p b) : p < w.heap.size := by
  obtain ⟨_, _, h1, _⟩ := h
  exact h1.1
theorem Bx.below {S : Nat → Prop} {w w' : World} {p : Nat} {b : Br} (h : Bx S w p b) (hb : Below w.heap.size w w') : Bx S w' p b := by
  obtain ⟨sa, c, h1, h2⟩ := h
  exact ⟨sa, c, h1.below hb, h2.blw hb⟩
theorem keyN_le (j : Nat) (hj : j < 64) : (keyN j).size ≤ 1048576 := by have := (okK_iff.1 (keys_ok ⟨j, hj⟩)).2; dsimp only at this; omega
set_option maxRecDepth 100000 in
set_option maxHeartbeats 4000000 in
theorem walk0 (a : Option Addr) (cap : Nat) (l : List Int) (a2 : Option Addr) (cap2 : Nat) (l2 : List Int) (w : World) (h1 : Bytes w (.slice a l.length cap) l) (h2 : Bytes w (.slice a2 l2.length cap2) l2) (hf : First w) (ht : Table w) :
    Calls Tryd.prog 4 #[.slice a l.length cap, .slice a2 l2.length cap2] w fun e w' => e = .returned (.bool true) ∧ Below w.heap.size w w' := by
  have HT := hide (show Tab w from ⟨hf, ht⟩)
  have H1 := hide h1
  have H2 := hide h2
  have g1 : l.length ≤ 9223372036854775807 := by obtain ⟨_, _, _, hm1, _⟩ := h1; unfold maxLen at hm1; omega
  have g2 : l2.length ≤ 9223372036854775807 := by obtain ⟨_, _, _, hm1, _⟩ := h2; unfold maxLen at hm1; omega
  clear hf ht h1 h2
  by_cases hl : 1048576 < l.length
  · go_enter Tryd.func4, Tryd.ntmps4
    go_wp2_with fail
    go_ret
    exact ⟨rfl, Below.refl _ _⟩
  by_cases hl2 : 1048576 < l2.length
  · go_enter Tryd.func4, Tryd.ntmps4
    go_wp2_with fail
    go_ret
    exact ⟨rfl, Below.refl _ _⟩
  have HMO := hide (mapOf_any a cap l w (unhide H1) (by omega))
  have HKO := hide (fun wx (hx : Below w.heap.size w wx) => mapKeyOf_any a2 cap2 l2 wx ((unhide H2).below hx) (by omega))
  go_enter Tryd.func4, Tryd.ntmps4
  go_wp2_with fail
  refine (unhide HMO).mono ?_
  rintro e w1 ⟨o, sa, n, c, hD, rfl, hB, hb⟩
  have hn : n = (brOf o).kids.length := by obtain ⟨a', cap', e', _, _⟩ := hB.shape; cases e'; rfl
  subst hn
  have BB := (Below.refl w1.heap.size w1).alloc (Nat.le_refl _) (.cells #[.string (brOf o).key, .string (brOf o).val, .int .i64 (brOf o).at_, .slice sa (brOf o).kids.length c] 27)
  have K1 := hide (hb.trans (BB.mono hb.size))
  have X1 := hide (show Bx (fun _ => True) (w1.alloc (.cells #[.string (brOf o).key, .string (brOf o).val, .int .i64 (brOf o).at_, .slice sa (brOf o).kids.length c] 27)) w1.heap.size (brOf o) from ⟨sa, c, Blk.new w1 #[.string (brOf o).key, .string (brOf o).val, .int .i64 (brOf o).at_, .slice sa (brOf o).kids.length c] 27 w1.heap.size rfl, (hB.mono (fun _ _ => trivial)).blw BB⟩)
  have HD := hide hD
  clear hB hb BB hD HMO
  go_wp2_with fail
  generalize w1.alloc (.cells #[.string (brOf o).key, .string (brOf o).val, .int .i64 (brOf o).at_, .slice sa (brOf o).kids.length c] 27) = w2 at *
  generalize w1.heap.size = bb at *
  refine (unhide HKO w2 (unhide K1)).mono ?_
  rintro e w3 ⟨jj, hj, rfl, hb⟩
  have K3 := hide ((unhide K1).trans (hb.mono (unhide K1).size))
  have X3 := hide ((unhide X1).below hb)
  clear hb K1 X1 HKO
  have hsm := dr_small (unhide HD).ok
  have HSM := hide hsm
  have HKS := hide (keyN_le jj (by omega))
  obtain ⟨s1, c1, hmg, hrest⟩ := map_drops (unhide HD) (show jj < 64 by omega)
  have hmr := mr_dr (unhide HD)
  have ebr : ∀ b : Br, Br.mk b.key b.val b.at_ b.kids = b := fun b => by cases b; rfl
  have HMG := hide hmg
  have HMR := hide hmr
  have HRS := hide hrest
  have HE := hide ebr
  clear hmg hmr hrest ebr hsm
  generalize rootR o = root at *
  obtain ⟨xa, xc, xb, xs⟩ := unhide X3
  have x0 := xb.cell 0 rfl
  have x1 := xb.cell 1 rfl
  have x2 := xb.cell 2 rfl
  have x3 := xb.cell 3 rfl
  have xS := hide xs
  clear xb xs
  go_wp2_with fail
  refine (implMapGet_any (brOf o).key (brOf o).val (brOf o).at_ (brOf o).kids (keyN jj) _ _ w3 (unhide xS) (unhide HSM).1 (unhide HSM).2 (unhide HKS) ((unhide HT).below (unhide K3))).mono ?_
  rintro e w4 ⟨rfl, hb⟩
  rw [unhide HE, unhide HMG]
  have K4 := hide ((unhide K3).trans (hb.mono (unhide K3).size))
  have X4 := hide ((unhide X3).below hb)
  clear hb K3 X3 x0 x1 x2 x3 xS
  obtain ⟨ya, yc, yb, ys⟩ := unhide X4
  have y0 := yb.cell 0 rfl
  have y1 := yb.cell 1 rfl
  have y2 := yb.cell 2 rfl
  have y3 := yb.cell 3 rfl
  have yS := hide ys
  clear yb ys
  go_wp2_with fail
  refine (implMapRoot_any (brOf o).key (brOf o).val (brOf o).at_ (brOf o).kids _ _ w4 (unhide yS) (unhide HSM).1 (unhide HSM).2 ((unhide HT).below (unhide K4))).mono ?_
  rintro e w5 ⟨rfl, hb⟩
  rw [unhide HE, unhide HMR]
  have K5 := hide ((unhide K4).trans (hb.mono (unhide K4).size))
  have X5 := hide ((unhide X4).below hb)
  clear hb K4 X4 y0 y1 y2 y3 yS
  obtain ⟨za, zc, zb, zs⟩ := unhide X5
  have z0 := zb.cell 0 rfl
  have z1 := zb.cell 1 rfl
  have z2 := zb.cell 2 rfl
  have z3 := zb.cell 3 rfl
  have zS := hide zs
  clear zb zs
  go_wp2_with fail
  have HPI := hide (implMapPut_any (brOf o).key (brOf o).val (brOf o).at_ (brOf o).kids (keyN jj) newB _ _ w5 (unhide zS) (unhide HSM).1 (unhide HSM).2 (unhide HKS) (by decide) ((unhide HT).below (unhide K5)))
  have HPS := hide (fun wx (hx : Below w5.heap.size w5 wx) => specMapPut_any (brOf o).key (brOf o).val (brOf o).at_ (brOf o).kids (keyN jj) newB _ _ wx ((unhide zS).blw hx) (unhide HSM).1 (unhide HSM).2 (unhide HKS) (by decide))
  rw [unhide HE] at HPI HPS
  generalize mpOut (brOf o) (keyN jj) newB = po at *
  obtain ⟨xb, d⟩ := po
  dsimp only at HPI HPS HRS
  refine (unhide HPI).mono ?_
  rintro e w6 ⟨u, rfl, ⟨pa, pn, pc, rfl, hpB⟩, hb⟩
  obtain rfl : pn = xb.kids.length := by obtain ⟨a', cap', e', _, _⟩ := hpB.brs.shape; cases e'; rfl
  have BB := (Below.refl w6.heap.size w6).alloc (Nat.le_refl _) (.cells #[.string xb.key, .string xb.val, .int .i64 xb.at_, .slice pa xb.kids.length pc] 27)
  have hb5 := hide (hb.trans (BB.mono hb.size))
  have K6 := hide ((unhide K5).trans ((unhide hb5).mono (unhide K5).size))
  have X6 := hide ((unhide X5).below (unhide hb5))
  have P6 := hide (show Bx (fun _ => True) (w6.alloc (.cells #[.string xb.key, .string xb.val, .int .i64 xb.at_, .slice pa xb.kids.length pc] 27)) w6.heap.size xb from ⟨pa, pc, Blk.new w6 #[.string xb.key, .string xb.val, .int .i64 xb.at_, .slice pa xb.kids.length pc] 27 w6.heap.size rfl, (hpB.brs.mono (fun _ _ => trivial)).blw BB⟩)
  have Z6 := hide (((unhide hb5).cell (p := ⟨bb, 0, none⟩) (Bx.lt (unhide X5))).trans z0)
  have Z61 := hide (((unhide hb5).cell (p := ⟨bb, 1, none⟩) (Bx.lt (unhide X5))).trans z1)
  have Z62 := hide (((unhide hb5).cell (p := ⟨bb, 2, none⟩) (Bx.lt (unhide X5))).trans z2)
  have Z63 := hide (((unhide hb5).cell (p := ⟨bb, 3, none⟩) (Bx.lt (unhide X5))).trans z3)
  clear hb BB hpB HPI K5 X5 z0 z1 z2 z3
  go_upto_region 8 with fail
  generalize w6.alloc (.cells #[.string xb.key, .string xb.val, .int .i64 xb.at_, .slice pa xb.kids.length pc] 27) = w7 at *
  generalize w6.heap.size = xp at *
  have y0 := unhide Z6
  have y1 := unhide Z61
  have y2 := unhide Z62
  have y3 := unhide Z63
  go_wp2_with fail
  refine (unhide HPS w7 (unhide hb5)).mono ?_
  rintro e w8 ⟨u, rfl, ⟨qa, qn, qc, rfl, hqB⟩, hb⟩
  have BB := (Below.refl w8.heap.size w8).alloc (Nat.le_refl _) (.cells #[.string xb.key, .string xb.val, .int .i64 xb.at_, .slice qa qn qc] 27)
  have bbl := hb.trans (BB.mono hb.size)
  have K9 := hide ((unhide K6).trans (bbl.mono (unhide K6).size))
  have P9 := hide ((unhide P6).below bbl)
  clear hb BB bbl hqB K6 P6 X6 hb5 Z6 Z61 Z62 Z63 y0 y1 y2 y3 HPS zS
  have b1 : (d != d) = false := by simp
  have b2 : (d == d) = true := by simp
  rcases unhide HRS with h7 | ⟨h0, o2, o3, after, hx2, hok2, hok3, hmd, hmr3, hmd2, hmb, hfin⟩
  · subst h7
    go_wp2_with fail
    go_ret
    exact ⟨rfl, unhide K9⟩
  subst h0
  subst hx2
  go_upto_region 13 with fail
  generalize w8.alloc (.cells #[.string (brOf o2).key, .string (brOf o2).val, .int .i64 (brOf o2).at_, .slice qa qn qc] 27) = w9 at *
  have HSM2 := hide (dr_small hok2)
  have HSM3 := hide (dr_small hok3)
  have HMD := hide hmd
  have HMR3 := hide hmr3
  have HMD2 := hide hmd2
  have HMB := hide hmb
  have HFI := hide hfin
  clear HRS hok2 hok3 hmd hmr3 hmd2 hmb hfin
  obtain ⟨xa, xc, xb, xs⟩ := unhide P9
  have x0 := xb.cell 0 rfl
  have x1 := xb.cell 1 rfl
  have x2 := xb.cell 2 rfl
  have x3 := xb.cell 3 rfl
  have xS := hide xs
  clear xb xs
  go_wp2_with fail
  refine (implMapDrop_any (brOf o2).key (brOf o2).val (brOf o2).at_ (brOf o2).kids (keyN jj) _ _ w9 (unhide xS) (unhide HSM2).1 (unhide HSM2).2 (unhide HKS) ((unhide HT).below (unhide K9))).mono ?_
  rw [unhide HE, unhide HMD]
  rintro e w10 ⟨u, rfl, ⟨ya, yn, yc, rfl, hyB⟩, hb⟩
  dsimp only at hyB ⊢
  obtain rfl : yn = (brOf o3).kids.length := by obtain ⟨a', cap', e', _, _⟩ := hyB.brs.shape; cases e'; rfl
  have BB := (Below.refl w10.heap.size w10).alloc (Nat.le_refl _) (.cells #[.string (brOf o3).key, .string (brOf o3).val, .int .i64 (brOf o3).at_, .slice ya (brOf o3).kids.length yc] 27)
  have bbl := hb.trans (BB.mono hb.size)
  have K11 := hide ((unhide K9).trans (bbl.mono (unhide K9).size))
  have Y11 := hide (show Bx (fun _ => True) (w10.alloc (.cells #[.string (brOf o3).key, .string (brOf o3).val, .int .i64 (brOf o3).at_, .slice ya (brOf o3).kids.length yc] 27)) w10.heap.size (brOf o3) from ⟨ya, yc, Blk.new w10 #[.string (brOf o3).key, .string (brOf o3).val, .int .i64 (brOf o3).at_, .slice ya (brOf o3).kids.length yc] 27 w10.heap.size rfl, (hyB.brs.mono (fun _ _ => trivial)).blw BB⟩)
  clear hb BB bbl hyB K9 P9 x0 x1 x2 x3 xS
  go_upto_region 14 with fail
  generalize w10.alloc (.cells #[.string (brOf o3).key, .string (brOf o3).val, .int .i64 (brOf o3).at_, .slice ya (brOf o3).kids.length yc] 27) = w11 at *
  generalize w10.heap.size = yp at *
  obtain ⟨ya, yc, yb, ys⟩ := unhide Y11
  have y0 := yb.cell 0 rfl
  have y1 := yb.cell 1 rfl
  have y2 := yb.cell 2 rfl
  have y3 := yb.cell 3 rfl
  have yS := hide ys
  clear yb ys
  go_wp2_with fail
  refine (implMapRoot_any (brOf o3).key (brOf o3).val (brOf o3).at_ (brOf o3).kids _ _ w11 (unhide yS) (unhide HSM3).1 (unhide HSM3).2 ((unhide HT).below (unhide K11))).mono ?_
  rw [unhide HE, unhide HMR3]
  rintro e w12 ⟨rfl, hb⟩
  have K12 := hide ((unhide K11).trans (hb.mono (unhide K11).size))
  have Y12 := hide ((unhide Y11).below hb)
  clear hb K11 Y11 y0 y1 y2 y3 yS
  obtain ⟨za, zc, zb, zs⟩ := unhide Y12
  have z0 := zb.cell 0 rfl
  have z1 := zb.cell 1 rfl
  have z2 := zb.cell 2 rfl
  have z3 := zb.cell 3 rfl
  have zS := hide zs
  clear zb zs
  go_wp2_with fail
  refine (implMapDrop_any (brOf o3).key (brOf o3).val (brOf o3).at_ (brOf o3).kids (keyN jj) _ _ w12 (unhide zS) (unhide HSM3).1 (unhide HSM3).2 (unhide HKS) ((unhide HT).below (unhide K12))).mono ?_
  rw [unhide HE, unhide HMD2]
  generalize (mdOut (brOf o3) (keyN jj)).1 = gone at *
  rintro e w13 ⟨u, rfl, ⟨ta, tn, tc, rfl, htB⟩, hb⟩
  have BB := (Below.refl w13.heap.size w13).alloc (Nat.le_refl _) (.cells #[.string gone.key, .string gone.val, .int .i64 gone.at_, .slice ta tn tc] 27)
  have bbl := hb.trans (BB.mono hb.size)
  have K14 := hide ((unhide K12).trans (bbl.mono (unhide K12).size))
  have Y14 := hide ((unhide Y12).below bbl)
  clear hb BB bbl htB K12 Y12 z0 z1 z2 z3 zS
  go_upto_region 16 with fail
  generalize w13.alloc (.cells #[.string gone.key, .string gone.val, .int .i64 gone.at_, .slice ta tn tc] 27) = w14 at *
  obtain ⟨va, vc, vb, vs⟩ := unhide Y14
  have v0 := vb.cell 0 rfl
  have v1 := vb.cell 1 rfl
  have v2 := vb.cell 2 rfl
  have v3 := vb.cell 3 rfl
  have vS := hide vs
  clear vb vs
  have HOKC := hide (implMapOK_any (brOf o3).key (brOf o3).val (brOf o3).at_ (brOf o3).kids _ _ w14 (unhide vS) (unhide HSM3).1 (unhide HSM3).2 ((unhide HT).below (unhide K14)))
  rw [unhide HE, unhide HMB] at HOKC
  by_cases hc : c1 = 0
  · subst hc
    go_wp2_with fail
    refine (unhide HOKC).mono ?_
    rintro e w15 ⟨rfl, hb⟩
    have K15 := hide ((unhide K14).trans (hb.mono (unhide K14).size))
    clear hb
    go_wp2_with fail
    go_ret
    exact ⟨rfl, unhide K15⟩
  · obtain rfl : after = root := by
      rcases unhide HFI with h | h
      · exact absurd h hc
      · exact h
    have hc2 : (c1 == 0) = false := by rw [beq_eq_false_iff_ne]; exact hc
    have hc3 : (after.toList == after.toList) = true := by simp
    go_wp2_with fail
    refine (unhide HOKC).mono ?_
    rintro e w15 ⟨rfl, hb⟩
    have K15 := hide ((unhide K14).trans (hb.mono (unhide K14).size))
    clear hb
    go_wp2_with fail
    go_ret
    exact ⟨rfl, unhide K15⟩
set_option maxRecDepth 100000 in
theorem walk (a0 : Option Addr) (len0 cap0 : Nat) (z0 : List Int) (a1 : Option Addr) (len1 cap1 : Nat) (z1 : List Int) (w : World) (w0 : IsRow .u8 w a0 len0 cap0 z0) (w1 : IsRow .u8 w a1 len1 cap1 z1) (hf : First w) (ht : Table w) :
    Calls Tryd.prog 4 #[.slice a0 len0 cap0, .slice a1 len1 cap1] w fun e w' => e = .returned (.bool true) ∧ Below w.heap.size w w' := by
  have b0 := bytes_of_row w0
  have b1 := bytes_of_row w1
  have l0 : (z0.take len0).length = len0 := by
    rcases w0 with ⟨_, rfl, _, rfl⟩ | ⟨x, _, hl, hm, hz, _⟩
    · rfl
    · rw [List.length_take]; omega
  have l1 : (z1.take len1).length = len1 := by
    rcases w1 with ⟨_, rfl, _, rfl⟩ | ⟨x, _, hl, hm, hz, _⟩
    · rfl
    · rw [List.length_take]; omega
  have h := walk0 a0 cap0 (z0.take len0) a1 cap1 (z1.take len1) w (by rw [l0]; exact b0) (by rw [l1]; exact b1) hf ht
  rw [l0, l1] at h
  exact h

theorem vars_of_laid {W : World} (h : laidMetH Tryd.prog Rows.fnMapDropsRow.laid W) :
    W.var? Tryd.prog "loop.example/g00220/impl.firstWords" = some firstCells ∧ W.var? Tryd.prog "loop.example/g00220/impl.roundWords" = some roundCells := by
  rw [MakeChecks.laidMetH_plain _ _ _ (by kernel_rfl)] at h
  obtain ⟨ps, ⟨g0, t0, cs0, f0, p0, q0, hg0, ht0, hv0, hd0, ⟨g1, t1, cs1, f1, p1, q1, hg1, ht1, hv1, hd1, _, _⟩, _⟩, _, _⟩ := h
  obtain rfl := Option.some.inj (gFirst.symm.trans hg0)
  obtain rfl := Option.some.inj (gRound.symm.trans hg1)
  obtain rfl := Option.some.inj (gFirstType.symm.trans ht0)
  obtain rfl := Option.some.inj (gRoundType.symm.trans ht1)
  have e0 := Lib.cells_of_tab (k := .u32) (cs := cs0.toList) (zs := iL.map fun (n : Nat) => (n : Int)) Tryd.underlying107 Tryd.underlying106 cellsE cellsA hd0
  have e1 := Lib.cells_of_tab (k := .u32) (cs := cs1.toList) (zs := kL.map fun (n : Nat) => (n : Int)) Tryd.underlying111 Tryd.underlying106 cellsE cellsB hd1
  have a0 : cs0 = firstCells := by
    have : cs0.toList = firstCells.toList := e0.trans (by kernel_rfl)
    exact Array.toList_inj.1 this
  have a1 : cs1 = roundCells := by
    have : cs1.toList = roundCells.toList := e1.trans (by kernel_rfl)
    exact Array.toList_inj.1 this
  exact ⟨by rw [hv0, a0], by rw [hv1, a1]⟩
theorem door_met (os : Os) (args : Array Value) : laidMetH Tryd.prog Rows.fnMapDropsRow.laid ((World.doorLaid Tryd.prog 19 os).forCall (fun _ _ => 0) ⟨#[], args, []⟩).memory :=
  laidMetH_of_parts3 (fuel := 8) (laidMet_of_run' 8 (by kernel_rfl) (by kernel_rfl)) (by kernel_rfl) (by kernel_rfl)
set_option maxRecDepth 100000 in
theorem lifted (os : Os) (started : os.Started) (H : Type) (enc : TypeId × Value → H) :
    ReturnsInHanded {} Tryd.checked os 4 .any (fun w args => (Rows.fnMapDropsSpec.pre enc Tryd.prog Tryd.f4 [] false w args ∧ laidMetH Tryd.prog Rows.fnMapDropsRow.laid w) ∧ sizedMet enc Tryd.prog Tryd.f4 (OpenSpec.ofChange Rows.fnMapDropsSpec) false w args)
      (Rows.fnMapDropsSpec.post enc Tryd.prog Tryd.f4 false true false false) := by
  refine returnsInHanded_of_change_and (C := Tryd.checked) (X := fun w _ => laidMetH Tryd.prog Rows.fnMapDropsRow.laid w) (fun _ _ _ hh h => h.of_heap hh) own started (by kernel_rfl) Tryd.func4
    (ChangeSpec.witness_shaped (enc := enc) (C := Tryd.checked) (os := os) (X := fun w _ => laidMetH Tryd.prog Rows.fnMapDropsRow.laid w) false (World.doorLaid Tryd.prog 19 os) #[.slice none 0 0, .slice none 0 0] 8 rfl (World.shaped_of_RefB (by kernel_rfl) (by kernel_rfl)) (by kernel_rfl) (by kernel_rfl) (by kernel_rfl) (door_met os _)) ?_
  intro W base args ds gs before hval0 hW _ _ hL _
  have hval : ∀ (j : Nat) t v, Tryd.f4.params[j]? = some t → args[j]? = some v → Value.okWide Tryd.prog W .any base t v := hval0
  have hW' := hW
  obtain ⟨p, q, hA0, hV0, rfl, hfz, hnd⟩ := hW
  have hA : DataW.TrodAll enc Tryd.prog W 0 (fun _ => true) true Tryd.f4.params.toList args.toList ds p := hA0
  have hV : DataW.TrodVars enc Tryd.prog W (fun _ => true) ["loop.example/g00220/impl.firstWords", "loop.example/g00220/impl.roundWords"] gs q := hV0
  rw [Tryd.params4] at hA hval
  obtain ⟨v0, vs0, d0, ds0, p0, q0, hargs, rfl, rfl, h0, r0⟩ := trodAll_cons hA
  obtain ⟨v1, vs1, d1, ds1, p1, q1, rfl, rfl, rfl, h1, r1⟩ := trodAll_cons r0
  obtain ⟨rfl, rfl, rfl⟩ := trodAll_nil r1
  obtain rfl : args = #[v0, v1] := by cases args; simp_all
  have k0 := h0
  have lt0 : ∀ x ∈ p0, x.block < W.heap.size := by obtain ⟨m, hm⟩ := k0; exact DataW.trod_lt m _ _ _ hm
  obtain ⟨a0, len0, cap0, rfl⟩ := okWide_slice Tryd.underlying22 (hval 0 22 v0 rfl rfl)
  obtain ⟨z0, w0⟩ : ∃ zs, IsRow .u8 W a0 len0 cap0 zs := by
    obtain ⟨fuel, hf⟩ := h0
    rcases open_ints Tryd.underlying22 Tryd.underlying5 (by kernel_rfl) hf with ⟨hcs, _⟩ | ⟨x, l, c, zs, hcs, _, hl, hm, hz, _, hcell, hwz⟩
    · simp [Value.cells] at hcs
      obtain ⟨rfl, rfl, rfl⟩ := hcs
      exact ⟨[], .inl ⟨rfl, rfl, rfl, rfl⟩⟩
    · simp [Value.cells] at hcs
      obtain ⟨rfl, rfl, rfl⟩ := hcs
      exact ⟨zs, .inr ⟨_, rfl, hl, hm, by simpa using hz, hcell, hwz⟩⟩
  have k1 := h1
  have lt1 : ∀ x ∈ p1, x.block < W.heap.size := by obtain ⟨m, hm⟩ := k1; exact DataW.trod_lt m _ _ _ hm
  obtain ⟨a1, len1, cap1, rfl⟩ := okWide_slice Tryd.underlying22 (hval 1 22 v1 rfl rfl)
  obtain ⟨z1, w1⟩ : ∃ zs, IsRow .u8 W a1 len1 cap1 zs := by
    obtain ⟨fuel, hf⟩ := h1
    rcases open_ints Tryd.underlying22 Tryd.underlying5 (by kernel_rfl) hf with ⟨hcs, _⟩ | ⟨x, l, c, zs, hcs, _, hl, hm, hz, _, hcell, hwz⟩
    · simp [Value.cells] at hcs
      obtain ⟨rfl, rfl, rfl⟩ := hcs
      exact ⟨[], .inl ⟨rfl, rfl, rfl, rfl⟩⟩
    · simp [Value.cells] at hcs
      obtain ⟨rfl, rfl, rfl⟩ := hcs
      exact ⟨zs, .inr ⟨_, rfl, hl, hm, by simpa using hz, hcell, hwz⟩⟩
  obtain ⟨hvA, hvB⟩ := vars_of_laid hL
  clear hA0 hV0 hval0
  refine (walk a0 len0 cap0 z0 a1 len1 cap1 z1 W w0 w1 (first_of hvA) (table_of hvB)).mono fun e W' ⟨he, bel⟩ => ?_
  subst he
  obtain ⟨rfl, pv, hvs⟩ := vars_again (sp := fun b => decide (b < W.heap.size)) hvA hvB hV bel
  exact ⟨_, rfl, _, _, _, [], _, pv, hW', trodAll_mk1 (shut_bool Tryd.underlying4 _), (trodAll_cons_mk (Below.trod laidOut (by kernel_rfl) (of_decide_eq_true (by kernel_rfl)) k0 bel lt0) (trodAll_cons_mk (Below.trod laidOut (by kernel_rfl) (of_decide_eq_true (by kernel_rfl)) k1 bel lt1) trodAll_mk0)), hvs, bel.frame _, fun h => by cases h⟩

theorem said : Rows.FnMapDropsSaid :=
  OpenClaim.holds_of_wide 4 Tryd.f4 rfl rfl rfl rfl rfl rfl rfl ⟨rfl, rfl, rfl, rfl, rfl⟩ rfl rfl rfl rfl rfl (by kernel_rfl) Tryd.func4 (by kernel_rfl)
    (of_decide_eq_true (by kernel_rfl)) (by unfold Func.isWrapper; first | (rw [if_pos (by decide +kernel)]; kernel_rfl) | (rw [if_neg (by decide +kernel)]; exact ⟨rfl, rfl⟩))
    (fun os started H enc _ => lifted os started H enc)

theorem plain (f : FuncId) (fn : Func) (hf : Tryd.pinned.checked.prog.funcNamed "loop.example/g00220/laws.FnMapDrops" = some f) (hfn : Tryd.pinned.checked.prog.funcs[f]? = some fn) :
    false = Tryd.pinned.checked.prog.looks [] ∧ ∀ (j : Nat) t, fn.params[j]? = some t → Tryd.pinned.checked.prog.wantsStandIn t = false := by
  obtain rfl : f = 4 := Option.some.inj ((show Tryd.prog.funcNamed "loop.example/g00220/laws.FnMapDrops" = some 4 by kernel_rfl).symm.trans hf) |>.symm
  obtain rfl : fn = Tryd.f4 := (Option.some.inj (Tryd.func4.symm.trans hfn)).symm
  refine ⟨by kernel_rfl, fun j t ht => ?_⟩
  rw [Tryd.params4] at ht
  obtain rfl : t = 22 := by
    have := Array.mem_of_getElem? ht
    simpa using this
  exact (show Tryd.prog.wantsStandIn 22 = false by kernel_rfl)
end Go.Proofs.YtkcpdjeemdlgcaaDoor.fnMapDrops
namespace Go.Proofs.YtkcpdjeemdlgcaaDoor
theorem fnMapDrops_card : Rows.FnMapDropsCardSaid :=
  Claim7.holds_tied_plain_at .later [] _ _ _ _ fnMapDrops.said (fun _ h => by cases h) (by kernel_rfl) (fun _ h => by cases h) fnMapDrops_row_tie rfl ⟨rfl, rfl⟩ (by kernel_rfl) rfl fnMapDrops.plain (by kernel_rfl)
#print axioms fnMapDrops_card
end Go.Proofs.YtkcpdjeemdlgcaaDoor
