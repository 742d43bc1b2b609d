/- (*book).apply, walked. (Written by py/apf.py.) -/
import Derived.Test.YtnhhnjmjodmacaaGreatDoorQan32
import Derived.Test.YtnhhnjmjodmacaaGreatDoorQan25
namespace Go.Proofs.YtnhhnjmjodmacaaGreatDoor.Sha
open Go.ChangeShapes Go.WideShapes Go.ChangeAt Go.RowKit Go.Deep
set_option linter.unusedVariables false
set_option linter.unusedSimpArgs false
set_option maxRecDepth 100000 in
set_option maxHeartbeats 1000000 in
theorem apply_any (B p : Nat) (lv sv : Value) (tp : Option Addr) (S : Nat → Prop) (ls : List ByteArray) (o : Option Tr) (ss : List Se) (c : Cm) (w : World) (hk : Bk B w p lv tp sv S ls o ss) (hL : LOK ⟨ls, o, ss⟩) (hc : cmK c = true) (hB : B ≤ w.heap.size) (ht : Tab w) (hG1 : 0 < B) (hG2 : 1 < B) :
    Calls Tryz.prog 39 #[.pointer (some ⟨p, 0, none⟩), .agg #[.int .i64 c.kd, .int .i64 c.ss, .int .i64 c.sq, .string c.ky, .string c.vl]] w fun e w' => ApR B p lv sv S (apOut ⟨ls, o, ss⟩ c) w e w' := by
  have hLm := hL.m
  have hLr := hL.rs
  dsimp only at hLm hLr
  obtain ⟨a, cp, rfl⟩ : ∃ a cp, sv = .slice a ss.length cp := by
    rcases hk.2.2.2.1.2 with ⟨e, e0⟩ | ⟨g, cp, cu, e, _⟩
    · exact ⟨none, 0, by rw [e, e0]⟩
    · exact ⟨_, _, e⟩
  have hpos := pos_is (id := c.ss) hLr
  have HHas : Hid (hasS ss c.ss = true → posS ss c.ss < ss.length) := hide (fun h => (has_iff.1 h).1)
  have HU : Hid (apOut ⟨ls, o, ss⟩ c = if c.kd = 4 then (if hasS ss c.ss then (⟨ls, o, ss⟩, ⟨5, 0, ⟨#[]⟩⟩) else if ss.length = 8 then (⟨ls, o, ss⟩, ⟨6, 0, ⟨#[]⟩⟩) else (⟨ls, o, insS ss (posS ss c.ss) (newS c.ss)⟩, ⟨1, 0, ⟨#[]⟩⟩))
    else if hasS ss c.ss = false then (⟨ls, o, ss⟩, ⟨4, 0, ⟨#[]⟩⟩)
    else if c.kd = 5 then (⟨ls, o, delS ss (posS ss c.ss)⟩, ⟨1, 0, ⟨#[]⟩⟩)
    else svOut ⟨ls, o, ss⟩ c (posS ss c.ss)) := hide rfl
  have HSE := hide (fun wx (hx : Bk B wx p lv tp (.slice a ss.length cp) S ls o ss) => session_any p _ ss c.ss wx hx.2.2.2.1.read (hx.1.cell 2 rfl) (by omega) hLr)
  have HOP := hide (fun wx (hx : Below w.heap.size w wx) => open_any B p (posS ss c.ss) lv (.slice a ss.length cp) tp S ls o ss c.ss wx (hk.below hx) (by have := hx.size; omega) hLm hpos.le)
  have HSV := hide (fun wx g (hx : Below w.heap.size w wx) (h4 : c.kd ≠ 4) (h5 : c.kd ≠ 5) (he : a = some ⟨g, 0, none⟩) (hq : posS ss c.ss < ss.length) => serve_any B p g cp (posS ss c.ss) lv tp S ls o ss c wx (by have := hk.below hx; rw [he] at this; exact this) hL hc h4 h5 (by have := hx.size; omega) (ht.below hx) hG1 hG2 hq)
  have HDL := hide (fun wx g (hx : Below w.heap.size w wx) (he : a = some ⟨g, 0, none⟩) (hq : posS ss c.ss < ss.length) => delete_any B g cp ss (posS ss c.ss) wx (by have := (hk.below hx).2.2.2.1; rw [he] at this; exact this) (by omega) hq)
  have HBK := hide hk
  have HAv := hide (fun r (hr : w.heap.size ≤ r) => hk.av r hr)
  have hple := hpos.le
  generalize hasS ss c.ss = has at *
  generalize posS ss c.ss = q at *
  have B0 := hide (((Below.refl w.heap.size w).alloc (Nat.le_refl _) (.cells #[.int .i64 c.kd, .int .i64 c.ss, .int .i64 c.sq, .string c.ky, .string c.vl] 44)).alloc (by simp) (.cells #[.int .i64 0, .int .i64 0, .string ⟨#[]⟩] 40))
  have C0 := hide ((Blk.new w #[.int .i64 c.kd, .int .i64 c.ss, .int .i64 c.sq, .string c.ky, .string c.vl] 44 w.heap.size rfl).alloc (.cells #[.int .i64 0, .int .i64 0, .string ⟨#[]⟩] 40))
  have R0 := hide (Blk.new (w.alloc (.cells #[.int .i64 c.kd, .int .i64 c.ss, .int .i64 c.sq, .string c.ky, .string c.vl] 44)) #[.int .i64 0, .int .i64 0, .string ⟨#[]⟩] 40 (w.heap.size + 1) (by simp))
  clear hk hL hc ht hpos hLr
  go_enter Tryz.func39, Tryz.ntmps39
  go_upto_region 1 with fail
  generalize (w.alloc (.cells #[.int .i64 c.kd, .int .i64 c.ss, .int .i64 c.sq, .string c.ky, .string c.vl] 44)).alloc (.cells #[.int .i64 0, .int .i64 0, .string ⟨#[]⟩] 40) = w0 at *
  have hw0 : w.heap.size + 1 < w0.heap.size := (unhide R0).1
  have HS1 := hide (unhide HSE w0 ((unhide HBK).below (unhide B0)))
  have x1 := (unhide C0).cell 1 rfl
  clear HSE
  go_wp2_with fail
  refine (unhide HS1).mono ?_
  rintro e w1 ⟨rfl, hb⟩
  have K1 := hide ((unhide B0).trans (hb.mono (unhide B0).size))
  have C1 := hide ((unhide C0).below hb)
  have R1 := hide ((unhide R0).below hb)
  have BK1 := hide ((unhide HBK).below (unhide K1))
  have hw1 : w.heap.size + 1 < w1.heap.size := (unhide R1).1
  clear hb HS1 x1 B0 C0 R0
  have y0 := (unhide C1).cell 0 rfl
  by_cases h4 : c.kd = 4
  · have b1 : (c.kd == 4) = true := by rw [h4]; rfl
    have H4 := hide h4
    clear h4
    cases has
    · have HO1 := hide (unhide HOP w1 (unhide K1))
      have HUO : Hid (apOut ⟨ls, o, ss⟩ c = opOut ⟨ls, o, ss⟩ c.ss q) := hide (by rw [unhide HU, if_pos (unhide H4)]; rfl)
      have y1 := (unhide C1).cell 1 rfl
      clear HOP HSV HDL
      generalize opOut ⟨ls, o, ss⟩ c.ss q = out at *
      obtain ⟨⟨lsN, oN, ssN⟩, ⟨rk, rp, rv⟩⟩ := out
      go_wp2_with fail
      refine (unhide HO1).mono ?_
      rintro e w2 ⟨rfl, lv2, tp2, sv2, S2, bk2, av2, t2⟩
      dsimp only at bk2 ⊢
      have HR2 := hide (av2 _ (by have := (unhide R1).1; omega) (unhide HAv _ (by omega)))
      have R2 := hide ((unhide R1).kept t2 (fun h => h (unhide HAv _ (by omega))))
      have T2 := hide ((Touch.ofBelow (T := fun k => ¬ Av p lv (.slice a ss.length cp) S k) (unhide K1)).trans t2 (fun _ _ e => e))
      have HAV2 := hide (fun r (hr : r < w.heap.size) (ha : Av p lv (.slice a ss.length cp) S r) => av2 r (by have := (unhide K1).size; omega) ha)
      have BK2 := hide bk2
      have hw2 : w.heap.size + 1 < w2.heap.size := (unhide R2).1
      clear bk2 av2 t2 y0 y1 HO1
      have RX := unhide R2
      have rz0 := RX.cell 0 rfl
      have fz0 := RX.fro 0
      have rz1 := RX.cell 1 rfl
      have fz1 := RX.fro 1
      have rz2 := RX.cell 2 rfl
      have fz2 := RX.fro 2
      have HR9 := hide (((RX.set 0 (.int .i64 rk) (by simp)).set 1 (.int .i64 rp) (by simp)).set 2 (.string rv) (by simp))
      have HT9 := hide ((((Touch.refl (fun q => q = w.heap.size + 1) w2).setCell ⟨w.heap.size + 1, 0, none⟩ (.int .i64 rk) (fun _ => rfl)).setCell ⟨w.heap.size + 1, 1, none⟩ (.int .i64 rp) (fun _ => rfl)).setCell ⟨w.heap.size + 1, 2, none⟩ (.string rv) (fun _ => rfl))
      clear RX
      go_wp2_with fail
      have R9 := unhide HR9
      have z0 := R9.cell 0 rfl
      have z1 := R9.cell 1 rfl
      have z2 := R9.cell 2 rfl
      refine bodyPost_ret (v := .agg #[.int .i64 rk, .int .i64 rp, .string rv]) (by simp [results, Tryz.results39, go_sem, z0, z1, z2]) rfl ?_
      refine ap_tell (unhide HUO) ⟨rfl, lv2, tp2, sv2, S2, (unhide BK2).keep (unhide HT9) (fun k e => by rw [e]; exact unhide HR2), unhide HAV2, ?_⟩
      exact (unhide T2).trans (unhide HT9) (fun j hj e => by omega)
    · clear HOP HSV HDL
      have RX := unhide R1
      have rz0 := RX.cell 0 rfl
      have fz0 := RX.fro 0
      have rz1 := RX.cell 1 rfl
      have fz1 := RX.fro 1
      have rz2 := RX.cell 2 rfl
      have fz2 := RX.fro 2
      have HR9 := hide (((RX.set 0 (.int .i64 5) (by simp)).set 1 (.int .i64 0) (by simp)).set 2 (.string ⟨#[]⟩) (by simp))
      have HT9 := hide ((((Touch.refl (fun q => q = w.heap.size + 1) w1).setCell ⟨w.heap.size + 1, 0, none⟩ (.int .i64 5) (fun _ => rfl)).setCell ⟨w.heap.size + 1, 1, none⟩ (.int .i64 0) (fun _ => rfl)).setCell ⟨w.heap.size + 1, 2, none⟩ (.string ⟨#[]⟩) (fun _ => rfl))
      clear RX
      go_wp2_with fail
      have R9 := unhide HR9
      have z0 := R9.cell 0 rfl
      have z1 := R9.cell 1 rfl
      have z2 := R9.cell 2 rfl
      refine bodyPost_ret (v := .agg #[.int .i64 5, .int .i64 0, .string ⟨#[]⟩]) (by simp [results, Tryz.results39, go_sem, z0, z1, z2]) rfl ?_
      refine ap_tell (by rw [unhide HU, if_pos (unhide H4), if_pos (by first | trivial | rfl)]) ⟨rfl, lv, tp, (.slice a ss.length cp), S, (unhide BK1).keep (unhide HT9) (fun k e => by rw [e]; exact unhide HAv _ (by omega)), fun r _ ha => ha, ?_⟩
      exact (Touch.ofBelow (unhide K1)).trans (unhide HT9) (fun j hj e => by omega)
  have b1 : (c.kd == 4) = false := by rw [beq_eq_false_iff_ne]; exact h4
  have H4 := hide h4
  clear h4
  cases has
  · clear HOP HSV HDL
    have RX := unhide R1
    have rz0 := RX.cell 0 rfl
    have fz0 := RX.fro 0
    have rz1 := RX.cell 1 rfl
    have fz1 := RX.fro 1
    have rz2 := RX.cell 2 rfl
    have fz2 := RX.fro 2
    have HR9 := hide (((RX.set 0 (.int .i64 4) (by simp)).set 1 (.int .i64 0) (by simp)).set 2 (.string ⟨#[]⟩) (by simp))
    have HT9 := hide ((((Touch.refl (fun q => q = w.heap.size + 1) w1).setCell ⟨w.heap.size + 1, 0, none⟩ (.int .i64 4) (fun _ => rfl)).setCell ⟨w.heap.size + 1, 1, none⟩ (.int .i64 0) (fun _ => rfl)).setCell ⟨w.heap.size + 1, 2, none⟩ (.string ⟨#[]⟩) (fun _ => rfl))
    clear RX
    go_wp2_with fail
    have R9 := unhide HR9
    have z0 := R9.cell 0 rfl
    have z1 := R9.cell 1 rfl
    have z2 := R9.cell 2 rfl
    refine bodyPost_ret (v := .agg #[.int .i64 4, .int .i64 0, .string ⟨#[]⟩]) (by simp [results, Tryz.results39, go_sem, z0, z1, z2]) rfl ?_
    refine ap_tell (by rw [unhide HU, if_neg (unhide H4), if_pos (by first | trivial | rfl)]) ⟨rfl, lv, tp, (.slice a ss.length cp), S, (unhide BK1).keep (unhide HT9) (fun k e => by rw [e]; exact unhide HAv _ (by omega)), fun r _ ha => ha, ?_⟩
    exact (Touch.ofBelow (unhide K1)).trans (unhide HT9) (fun j hj e => by omega)
  have hq : q < ss.length := unhide HHas (by first | trivial | rfl)
  obtain ⟨g, hga⟩ : ∃ g, a = some ⟨g, 0, none⟩ := by
    obtain ⟨g, cap, e, _, _⟩ := World.ownsRow.form (unhide BK1).2.2.2.1 (by omega)
    simp only [Value.slice.injEq] at e
    exact ⟨g, e.1⟩
  have HGA := hide hga
  subst hga
  by_cases h5 : c.kd = 5
  · have b2 : (c.kd == 5) = true := by rw [h5]; rfl
    have H5 := hide h5
    clear h5
    have HD1 := hide (unhide HDL w1 g (unhide K1) rfl hq)
    have q1 : IntKind.i64.wrap ((q : Int) + 1) = (q : Int) + 1 := wrapSe2 _ (by omega) (by omega)
    have y2 := (unhide BK1).1.cell 2 rfl
    have HUO : Hid (apOut ⟨ls, o, ss⟩ c = (⟨ls, o, delS ss q⟩, ⟨1, 0, ⟨#[]⟩⟩)) := hide (by rw [unhide HU, if_neg (unhide H4), if_neg (by simp), if_pos (unhide H5)])
    clear HOP HSV HDL
    go_wp2_with fail
    refine (unhide HD1).mono ?_
    rintro e w2 ⟨v2, rfl, hO2, hat2, hT2⟩
    obtain ⟨a2, n2, c2, rfl⟩ : ∃ a2 n2 c2, v2 = .slice a2 n2 c2 := by
      rcases hO2.2 with ⟨e2, _⟩ | ⟨g4, c4, cu, e2, _⟩
      · exact ⟨_, _, _, e2⟩
      · exact ⟨_, _, _, e2⟩
    have X2 := (unhide BK1).1.kept (T := fun k => some g = some k) hT2 (unhide BK1).2.2.2.2.2.2.2.1
    have z2 := X2.cell 2 rfl
    have fz := X2.fro 2
    obtain ⟨bk2, av2, t2⟩ := (unhide BK1).sess (by have := (unhide K1).size; omega) hO2 hat2 hT2
    have HR2 := hide (av2 _ (by have := (unhide R1).1; omega) (unhide HAv _ (by omega)))
    have R2 := hide ((unhide R1).kept t2 (fun h => h (unhide HAv _ (by omega))))
    have T2 := hide ((Touch.ofBelow (T := fun k => ¬ Av p lv (.slice (some ⟨g, 0, none⟩) ss.length cp) S k) (unhide K1)).trans t2 (fun _ _ e => e))
    have HAV2 := hide (fun r (hr : r < w.heap.size) (ha : Av p lv (.slice (some ⟨g, 0, none⟩) ss.length cp) S r) => av2 r (by have := (unhide K1).size; omega) ha)
    have BK2 := hide bk2
    clear bk2 av2 t2 y0 y2 HD1 hO2 hat2 hT2 X2 q1
    go_upto_region 10 with fail
    clear z2 fz
    generalize w2.setCell ⟨p, 2, none⟩ (.slice a2 n2 c2) = w3 at *
    have hw3 : w.heap.size + 1 < w3.heap.size := (unhide R2).1
    have RX := unhide R2
    have rz0 := RX.cell 0 rfl
    have fz0 := RX.fro 0
    have rz1 := RX.cell 1 rfl
    have fz1 := RX.fro 1
    have rz2 := RX.cell 2 rfl
    have fz2 := RX.fro 2
    have HR9 := hide (((RX.set 0 (.int .i64 1) (by simp)).set 1 (.int .i64 0) (by simp)).set 2 (.string ⟨#[]⟩) (by simp))
    have HT9 := hide ((((Touch.refl (fun q => q = w.heap.size + 1) w3).setCell ⟨w.heap.size + 1, 0, none⟩ (.int .i64 1) (fun _ => rfl)).setCell ⟨w.heap.size + 1, 1, none⟩ (.int .i64 0) (fun _ => rfl)).setCell ⟨w.heap.size + 1, 2, none⟩ (.string ⟨#[]⟩) (fun _ => rfl))
    clear RX
    go_wp2_with fail
    have R9 := unhide HR9
    have z0 := R9.cell 0 rfl
    have z1 := R9.cell 1 rfl
    have z2 := R9.cell 2 rfl
    refine bodyPost_ret (v := .agg #[.int .i64 1, .int .i64 0, .string ⟨#[]⟩]) (by simp [results, Tryz.results39, go_sem, z0, z1, z2]) rfl ?_
    refine ap_tell (unhide HUO) ⟨rfl, lv, tp, .slice a2 n2 c2, S, (unhide BK2).keep (unhide HT9) (fun k e => by rw [e]; exact unhide HR2), unhide HAV2, ?_⟩
    exact (unhide T2).trans (unhide HT9) (fun j hj e => by omega)
  have b2 : (c.kd == 5) = false := by rw [beq_eq_false_iff_ne]; exact h5
  have HUO : Hid (apOut ⟨ls, o, ss⟩ c = svOut ⟨ls, o, ss⟩ c q) := hide (by rw [unhide HU, if_neg (unhide H4), if_neg (by simp), if_neg h5])
  have hb2 := below_drewN (Below.refl w1.heap.size w1) 1
  have K3 := hide ((unhide K1).trans (hb2.mono (unhide K1).size))
  change Hid (Below w.heap.size w w1.drew) at K3
  have HV1 := hide (unhide HSV w1.drew g (unhide K3) (unhide H4) h5 rfl hq)
  generalize svOut ⟨ls, o, ss⟩ c q = out at *
  obtain ⟨⟨lsN, oN, ssN⟩, ⟨rk, rp, rv⟩⟩ := out
  have y2 := (unhide BK1).1.cell 2 rfl
  have hcl : w.heap.size < w1.drew.heap.size := (unhide C1).1
  have x0 := (unhide C1).cell 0 rfl
  have x1 := (unhide C1).cell 1 rfl
  have x2 := (unhide C1).cell 2 rfl
  have x3 := (unhide C1).cell 3 rfl
  have x4 := (unhide C1).cell 4 rfl
  have m0 : (0 : Int) ≤ (q : Int) := by omega
  have m1 : (q : Int) < (ss.length : Int) := by omega
  clear HOP HSV HDL hb2 h5
  go_upto_region 11 with fail
  clear y0
  refine wp_region_noPanic ?_
  refine wp_region_held_drew (S := (fun wx => wx.cell? ⟨w.heap.size, 0, none⟩ = some (.int .i64 c.kd) ∧ wx.cell? ⟨w.heap.size, 1, none⟩ = some (.int .i64 c.ss) ∧ wx.cell? ⟨w.heap.size, 2, none⟩ = some (.int .i64 c.sq) ∧ wx.cell? ⟨w.heap.size, 3, none⟩ = some (.string c.ky) ∧ wx.cell? ⟨w.heap.size, 4, none⟩ = some (.string c.vl))) (by kernel_rfl) ?_ (fun hHeld => ?_)
  · exact ⟨x0, x1, x2, x3, x4⟩
  refine tkH 0 rfl ?_
  refine tkH 1 rfl ?_
  refine tkH 2 rfl ?_
  refine tkH 3 rfl ?_
  refine tkH 5 rfl ?_
  refine tkH 7 rfl ?_
  refine wpAnyH_ready (rs := [4]) (by kernel_rfl) (by simp) ?_
  refine AllReadyH.cons (o := _) rfl (fun K hK => ?_) AllReadyH.nil
  have y3 : w1.drew.cell? ⟨p, 2, none⟩ = some (.slice (some ⟨g, 0, none⟩) ss.length cp) := y2
  go_simp
  refine hK.out _ _ ?_ (fun hHeld => ?_)
  · exact ⟨x0, x1, x2, x3, x4⟩
  clear hK K y3
  (try simp only [Act.put, List.getElem_toArray, List.getElem_cons_succ, List.getElem_cons_zero, List.setIfInBounds_toArray, List.set_cons_zero, List.set_cons_succ])
  refine tkH 6 rfl ?_
  refine wpAnyH_ready (rs := [8]) (by kernel_rfl) (by simp) ?_
  refine AllReadyH.cons (o := _) rfl (fun K hK => ?_) AllReadyH.nil
  go_simp
  refine (unhide HV1).mono ?_
  rintro e w2 ⟨rfl, lv2, tp2, sv2, S2, bk2, av2, t2⟩
  dsimp only at bk2
  have k0 := fun i => touch_cell t2 w.heap.size i hcl (fun h => h (unhide HAv _ (Nat.le_refl _)))
  have HR2 := hide (av2 _ (show w.heap.size + 1 < w1.drew.heap.size from hw1) (unhide HAv _ (by omega)))
  have R2 := hide (((unhide R1).drewN 1).kept t2 (fun h => h (unhide HAv _ (by omega))))
  have T2 := hide ((Touch.ofBelow (T := fun k => ¬ Av p lv (.slice (some ⟨g, 0, none⟩) ss.length cp) S k) (unhide K3)).trans t2 (fun _ _ e => e))
  have HAV2 := hide (fun r (hr : r < w.heap.size) (ha : Av p lv (.slice (some ⟨g, 0, none⟩) ss.length cp) S r) => av2 r (by have := (unhide K3).size; omega) ha)
  have BK2 := hide bk2
  have x30 := (k0 0).trans x0
  have x31 := (k0 1).trans x1
  have x32 := (k0 2).trans x2
  have x33 := (k0 3).trans x3
  have x34 := (k0 4).trans x4
  have hw2 : w.heap.size + 1 < w2.heap.size := (unhide R2).1
  clear bk2 av2 t2 k0 HV1
  go_wp2_with fail
  refine hK.out _ _ ?_ (fun hHeld => ?_)
  · exact ⟨x30, x31, x32, x33, x34⟩
  clear hK K
  (try simp only [Act.put, List.getElem_toArray, List.getElem_cons_succ, List.getElem_cons_zero, List.setIfInBounds_toArray, List.set_cons_zero, List.set_cons_succ])
  have RX := unhide R2
  have rz0 := RX.cell 0 rfl
  have fz0 := RX.fro 0
  have rz1 := RX.cell 1 rfl
  have fz1 := RX.fro 1
  have rz2 := RX.cell 2 rfl
  have fz2 := RX.fro 2
  have HR9 := hide (((RX.set 0 (.int .i64 rk) (by simp)).set 1 (.int .i64 rp) (by simp)).set 2 (.string rv) (by simp))
  have HT9 := hide ((((Touch.refl (fun q => q = w.heap.size + 1) w2).setCell ⟨w.heap.size + 1, 0, none⟩ (.int .i64 rk) (fun _ => rfl)).setCell ⟨w.heap.size + 1, 1, none⟩ (.int .i64 rp) (fun _ => rfl)).setCell ⟨w.heap.size + 1, 2, none⟩ (.string rv) (fun _ => rfl))
  clear RX
  refine wpAnyH_ready (rs := [9]) (by kernel_rfl) (by simp) ?_
  refine AllReadyH.cons (o := _) rfl (fun K hK => ?_) AllReadyH.nil
  go_simp
  refine hK.out _ _ ?_ (fun hHeld => ?_)
  · exact ⟨by go_simp, by go_simp, by go_simp, by go_simp, by go_simp⟩
  clear hK K
  (try simp only [Act.put, List.getElem_toArray, List.getElem_cons_succ, List.getElem_cons_zero, List.setIfInBounds_toArray, List.set_cons_zero, List.set_cons_succ])
  refine wpAnyH_done (by kernel_rfl) (NoPanic.normal ?_) _
  clear hHeld
  go_wp2_with fail
  have R9 := unhide HR9
  have z0 := R9.cell 0 rfl
  have z1 := R9.cell 1 rfl
  have z2 := R9.cell 2 rfl
  refine bodyPost_ret (v := .agg #[.int .i64 rk, .int .i64 rp, .string rv]) (by simp [results, Tryz.results39, go_sem, z0, z1, z2]) rfl ?_
  refine ap_tell (unhide HUO) ⟨rfl, lv2, tp2, sv2, S2, (unhide BK2).keep (unhide HT9) (fun k e => by rw [e]; exact unhide HR2), unhide HAV2, ?_⟩
  exact (unhide T2).trans (unhide HT9) (fun j hj e => by omega)
end Go.Proofs.YtnhhnjmjodmacaaGreatDoor.Sha
