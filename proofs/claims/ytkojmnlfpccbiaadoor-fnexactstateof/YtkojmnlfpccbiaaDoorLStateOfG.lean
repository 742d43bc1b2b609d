/- For every ledger that can be read, laws.FnExactStateOf returns true, the ledger reads as it did, and so do the two tables of words, which the card ties to the program's text. Condition: the listed tables start as the program's text lays them. (Written by py/lsto.py.) -/
import Derived.Test.YtkojmnlfpccbiaaDoorGuS
import Derived.Test.YtkojmnlfpccbiaaDoorLawG
import Derived.Test.YtkojmnlfpccbiaaDoorCards
import Derived.Test.YtkojmnlfpccbiaaDoorTie
namespace Go.Proofs.YtkojmnlfpccbiaaDoor.fnExactStateOf
open Go.ChangeShapes Go.WideShapes Go.ChangeAt Go.RowKit Sha
open Go.ChangeMaps (open_string shut_string)
set_option linter.unusedVariables false
set_option linter.unusedSimpArgs false

set_option maxRecDepth 100000 in
set_option maxHeartbeats 1000000 in
theorem eqStatement_one (z : Int) (lg mp : ByteArray) (w : World) :
    Calls Tryd.prog 10 #[.agg #[.int .i64 z, .string lg, .string mp], .agg #[.int .i64 z, .string lg, .string mp]] w fun e w' => e = .returned (.bool true) ∧ Below w.heap.size w w' := by
  have B0 := hide (((Below.refl w.heap.size w).alloc (Nat.le_refl _) (.cells #[.int .i64 z, .string lg, .string mp] 31)).alloc (by simp) (.cells #[.int .i64 z, .string lg, .string mp] 31))
  go_enter Tryd.func10, Tryd.ntmps10
  go_wp2_with fail
  go_ret
  exact ⟨rfl, unhide B0⟩
set_option maxRecDepth 100000 in
set_option maxHeartbeats 4000000 in
theorem walk (lv : Value) (k v : ByteArray) (at_ : Int) (kv sv : Value) (ls : List ByteArray) (ks : List Br) (ss : List Se) (w : World) (hR : LedR w lv kv sv ls ks ss) (hk : k.size ≤ maxLen) (hv : v.size ≤ maxLen) (z1 : ∀ i, i < ls.length → (ls.getD i ByteArray.empty).size ≤ maxLen) (z3 : ∀ i, i < ss.length → (ss.getD i default).vl.size ≤ maxLen) (hf : First w) (ht : Table w) :
    Calls Tryd.prog 3 #[.agg #[lv, .string k, .string v, .int .i64 at_, kv, sv]] w fun e w' => e = .returned (.bool true) ∧ Below w.heap.size w w' := by
  have HT := hide (show Tab w from ⟨hf, ht⟩)
  obtain ⟨la, lc, ka, kc, sa, sc, rfl, rfl, rfl, hm1, hm2, hm3⟩ := hR.shape
  have HR := hide hR
  have HZ := hide (And.intro hk hv)
  have K0 := hide ((Below.refl w.heap.size w).alloc (Nat.le_refl _) (.cells #[.slice la ls.length lc, .string k, .string v, .int .i64 at_, .slice ka ks.length kc, .slice sa ss.length sc] 28))
  have X0 := hide (Blk.new w #[.slice la ls.length lc, .string k, .string v, .int .i64 at_, .slice ka ks.length kc, .slice sa ss.length sc] 28 w.heap.size rfl)
  have HS := hide (fun wx (hx : Below w.heap.size w wx) => szLedger_any ls k v at_ ks ss la lc ka kc sa sc 1048576 wx (hR.below hx) (by omega) (by omega) z1 hk hv z3)
  have HW := hide (Br.wt_eq (.mk k v at_ ks))
  have hwl := Br.wt_lo (.mk k v at_ ks)
  have HC := hide (ledR_cases 1048576 (by omega) ls (Br.mk k v at_ ks).wt ss hwl)
  have HTO := hide (fun (hs : LedS ls (Br.mk k v at_ ks).wt ss) wx (hx : Below w.heap.size w wx) => toLedger_any ls k v at_ ks ss la lc ka kc sa sc wx (hR.below hx) hs.n1 (by have h2 := hs.w2; have := unhide HW; simp only [Br.key, Br.val, Br.kids] at this; omega) hs.n3)
  obtain ⟨sz, sl, sm, rc, hro⟩ := so_cases ls (.mk k v at_ ks) ss
  have HRO := hide hro
  clear hro
  clear hf ht hR hk hv hwl hm1 hm2 hm3 z1 z3
  generalize ledR 1048576 ls (Br.mk k v at_ ks).wt ss = r at *
  go_enter Tryd.func3, Tryd.ntmps3
  go_wp2_with fail
  generalize w.alloc (.cells #[.slice la ls.length lc, .string k, .string v, .int .i64 at_, .slice ka ks.length kc, .slice sa ss.length sc] 28) = w0 at *
  refine (unhide HS w0 (unhide K0)).mono ?_
  rintro e w1 ⟨rfl, hb⟩
  have K1 := hide ((unhide K0).trans (hb.mono (unhide K0).size))
  have X1 := hide ((unhide X0).below hb)
  have x0 := (unhide X1).cell 0 rfl
  have x1 := (unhide X1).cell 1 rfl
  have x2 := (unhide X1).cell 2 rfl
  have x3 := (unhide X1).cell 3 rfl
  have x4 := (unhide X1).cell 4 rfl
  have x5 := (unhide X1).cell 5 rfl
  clear hb K0 X0 HS
  rcases unhide HC with hr | ⟨hr, _, hrs⟩
  · subst hr
    go_wp2_with fail
    go_ret
    exact ⟨rfl, unhide K1⟩
  have HSM := hide hrs
  have HTT := hide (unhide HTO hrs)
  have hr2 : ¬ r < 0 := by omega
  clear HTO hr hrs HC
  go_wp2_with fail
  refine (unhide HTT w1 (unhide K1)).mono ?_
  rintro e w2 ⟨p2, q2, r2, rfl, hO2, hb⟩
  have K2 := hide ((unhide K1).trans (hb.mono (unhide K1).size))
  have V2 := hide hO2
  have X2 := hide ((unhide X1).below hb)
  clear hb hO2 X1 x0 x1 x2 x3 x4 x5 K1
  go_wp2_with fail
  refine (specStateOf_any ls k v at_ ks ss p2 _ _ _ _ _ w2 (SA.own (unhide V2).1) (unhide V2).led (unhide HSM).t1 (unhide HZ).1 (unhide HZ).2 (unhide HSM).t3).mono ?_
  rintro e w3 ⟨rfl, hb⟩
  rw [unhide HRO]
  have BB := (Below.refl w3.heap.size w3).alloc (Nat.le_refl _) (.cells #[.int .i64 sz, .string sl, .string sm] 31)
  have K3 := hide (((unhide K2).trans (hb.mono (unhide K2).size)).trans (BB.mono ((unhide K2).trans (hb.mono (unhide K2).size)).size))
  have X3 := hide (((unhide X2).below hb).below BB)
  have U3 := hide (Blk.new w3 #[.int .i64 sz, .string sl, .string sm] 31 w3.heap.size rfl)
  clear hb BB X2 K2 V2
  have x0 := (unhide X3).cell 0 rfl
  have x1 := (unhide X3).cell 1 rfl
  have x2 := (unhide X3).cell 2 rfl
  have x3 := (unhide X3).cell 3 rfl
  have x4 := (unhide X3).cell 4 rfl
  have x5 := (unhide X3).cell 5 rfl
  go_wp2_with fail
  generalize w3.alloc (.cells #[.int .i64 sz, .string sl, .string sm] 31) = w3b at *
  generalize w3.heap.size = ub at *
  refine (unhide HTT w3b (unhide K3)).mono ?_
  rintro e w4 ⟨p4, q4, r4, rfl, hO4, hb⟩
  have BB := (Below.refl w4.heap.size w4).alloc (Nat.le_refl _) (.cells #[.slice (some ⟨p4, 0, none⟩) ls.length ls.length, .string k, .string v, .int .i64 at_, .slice (some ⟨q4, 0, none⟩) ks.length ks.length, .slice (some ⟨r4, 0, none⟩) ss.length ss.length] 39)
  have K4 := hide (((unhide K3).trans (hb.mono (unhide K3).size)).trans (BB.mono ((unhide K3).trans (hb.mono (unhide K3).size)).size))
  have X4 := hide (((unhide X3).below hb).below BB)
  have U4 := hide (((unhide U3).below hb).below BB)
  have V4 := hide (hO4.below BB)
  have Y4 := hide (Blk.new w4 #[.slice (some ⟨p4, 0, none⟩) ls.length ls.length, .string k, .string v, .int .i64 at_, .slice (some ⟨q4, 0, none⟩) ks.length ks.length, .slice (some ⟨r4, 0, none⟩) ss.length ss.length] 39 w4.heap.size rfl)
  clear hb BB hO4 X3 U3 K3 x0 x1 x2 x3 x4 x5
  have y0 := (unhide Y4).cell 0 rfl
  have y1 := (unhide Y4).cell 1 rfl
  have y2 := (unhide Y4).cell 2 rfl
  have y3 := (unhide Y4).cell 3 rfl
  have y4 := (unhide Y4).cell 4 rfl
  have y5 := (unhide Y4).cell 5 rfl
  go_wp2_with fail
  generalize w4.alloc (.cells #[.slice (some ⟨p4, 0, none⟩) ls.length ls.length, .string k, .string v, .int .i64 at_, .slice (some ⟨q4, 0, none⟩) ks.length ks.length, .slice (some ⟨r4, 0, none⟩) ss.length ss.length] 39) = w4b at *
  generalize w4.heap.size = yb at *
  refine (implStateOf_any ls k v at_ ks ss p4 0 _ _ _ _ _ w4b (SA.own (unhide V4).1) (unhide V4).led (unhide HSM).t1 (unhide HZ).1 (unhide HZ).2 (unhide HSM).t3 ((unhide HT).below (unhide K4))).mono ?_
  rintro e w5 ⟨rfl, hb⟩
  rw [unhide HRO]
  have BB := (Below.refl w5.heap.size w5).alloc (Nat.le_refl _) (.cells #[.int .i64 sz, .string sl, .string sm] 31)
  have bb := hb.trans (BB.mono hb.size)
  have K5 := hide ((unhide K4).trans (bb.mono (unhide K4).size))
  have X5 := hide ((unhide X4).below bb)
  have U5 := hide ((unhide U4).below bb)
  have V5 := hide ((unhide V4).below bb)
  have Y5 := hide ((unhide Y4).below bb)
  have G5 := hide (Blk.new w5 #[.int .i64 sz, .string sl, .string sm] 31 w5.heap.size rfl)
  clear hb BB bb K4 X4 U4 V4 Y4 y0 y1 y2 y3 y4 y5
  have u0 := (unhide U5).cell 0 rfl
  have u1 := (unhide U5).cell 1 rfl
  have u2 := (unhide U5).cell 2 rfl
  have g0 := (unhide G5).cell 0 rfl
  have g1 := (unhide G5).cell 1 rfl
  have g2 := (unhide G5).cell 2 rfl
  go_wp2_with fail
  generalize w5.alloc (.cells #[.int .i64 sz, .string sl, .string sm] 31) = w6 at *
  generalize w5.heap.size = gb at *
  refine (eqStatement_one sz sl sm w6).mono ?_
  rintro e w7 ⟨rfl, hb⟩
  have K7 := hide ((unhide K5).trans (hb.mono (unhide K5).size))
  have X7 := hide ((unhide X5).below hb)
  have V7 := hide ((unhide V5).below hb)
  have Y7 := hide ((unhide Y5).below hb)
  clear hb K5 X5 U5 V5 Y5 G5 u0 u1 u2 g0 g1 g2
  have b1 : (rc != rc) = false := by simp
  have b2 : (rc == rc) = true := by simp
  have hzx := (unhide X7).1
  have hzy := (unhide Y7).1
  have x0 := (unhide X7).cell 0 rfl
  have x1 := (unhide X7).cell 1 rfl
  have x2 := (unhide X7).cell 2 rfl
  have x3 := (unhide X7).cell 3 rfl
  have x4 := (unhide X7).cell 4 rfl
  have x5 := (unhide X7).cell 5 rfl
  have y0 := (unhide Y7).cell 0 rfl
  have y1 := (unhide Y7).cell 1 rfl
  have y2 := (unhide Y7).cell 2 rfl
  have y3 := (unhide Y7).cell 3 rfl
  have y4 := (unhide Y7).cell 4 rfl
  have y5 := (unhide Y7).cell 5 rfl
  go_upto_region 10 with fail
  refine wp_region_noPanic ?_
  refine wp_region_held_drew (S := (fun wx => wx.cell? ⟨yb, 0, none⟩ = some (.slice (some ⟨p4, 0, none⟩) ls.length ls.length) ∧ wx.cell? ⟨yb, 1, none⟩ = some (.string k) ∧ wx.cell? ⟨yb, 2, none⟩ = some (.string v) ∧ wx.cell? ⟨yb, 3, none⟩ = some (.int .i64 at_) ∧ wx.cell? ⟨yb, 4, none⟩ = some (.slice (some ⟨q4, 0, none⟩) ks.length ks.length) ∧ wx.cell? ⟨yb, 5, none⟩ = some (.slice (some ⟨r4, 0, none⟩) ss.length ss.length) ∧ wx.cell? ⟨w.heap.size, 0, none⟩ = some (.slice la ls.length lc) ∧ wx.cell? ⟨w.heap.size, 1, none⟩ = some (.string k) ∧ wx.cell? ⟨w.heap.size, 2, none⟩ = some (.string v) ∧ wx.cell? ⟨w.heap.size, 3, none⟩ = some (.int .i64 at_) ∧ wx.cell? ⟨w.heap.size, 4, none⟩ = some (.slice ka ks.length kc) ∧ wx.cell? ⟨w.heap.size, 5, none⟩ = some (.slice sa ss.length sc))) (by kernel_rfl) ?_ (fun hHeld => ?_)
  · exact ⟨y0, y1, y2, y3, y4, y5, x0, x1, x2, x3, x4, x5⟩
  have KD : Hid (Below w7.heap.size w7 w7.drew) := hide (below_drewN (Below.refl _ w7) 1)
  have K8 := hide ((unhide K7).trans ((unhide KD).mono (unhide K7).size))
  refine tkH 0 rfl ?_
  refine tkH 1 rfl ?_
  refine wpAnyH_ready (rs := [2]) (by kernel_rfl) (by simp) ?_
  refine AllReadyH.cons (o := _) rfl (fun K hK => ?_) AllReadyH.nil
  go_simp
  refine (unhide HTT _ (unhide K8)).mono ?_
  rintro e w8 ⟨p8, q8, r8, rfl, hO, hb⟩
  have KD8 := hide ((unhide KD).trans (hb.mono (unhide KD).size))
  have V8 := hide hO
  clear hb hO
  go_wp2_with fail
  refine hK.out _ _ ?_ (fun hHeld => ?_)
  · exact ⟨((unhide KD8).cell (p := ⟨yb, 0, none⟩) hzy).trans y0, ((unhide KD8).cell (p := ⟨yb, 1, none⟩) hzy).trans y1, ((unhide KD8).cell (p := ⟨yb, 2, none⟩) hzy).trans y2, ((unhide KD8).cell (p := ⟨yb, 3, none⟩) hzy).trans y3, ((unhide KD8).cell (p := ⟨yb, 4, none⟩) hzy).trans y4, ((unhide KD8).cell (p := ⟨yb, 5, none⟩) hzy).trans y5, ((unhide KD8).cell (p := ⟨w.heap.size, 0, none⟩) hzx).trans x0, ((unhide KD8).cell (p := ⟨w.heap.size, 1, none⟩) hzx).trans x1, ((unhide KD8).cell (p := ⟨w.heap.size, 2, none⟩) hzx).trans x2, ((unhide KD8).cell (p := ⟨w.heap.size, 3, none⟩) hzx).trans x3, ((unhide KD8).cell (p := ⟨w.heap.size, 4, none⟩) hzx).trans x4, ((unhide KD8).cell (p := ⟨w.heap.size, 5, none⟩) hzx).trans x5⟩
  clear hK K
  (try simp only [Act.put, List.getElem_toArray, List.getElem_cons_succ, List.getElem_cons_zero, List.setIfInBounds_toArray, List.set_cons_zero, List.set_cons_succ])
  refine wpAnyH_ready (rs := [3]) (by kernel_rfl) (by simp) ?_
  refine AllReadyH.cons (o := _) rfl (fun K hK => ?_) AllReadyH.nil
  go_simp
  refine (eqLedger_any ls k v at_ ks ss _ _ _ _ _ _ _ _ _ _ _ _ w8 ((unhide V7).below (unhide KD8)).led (unhide V8).led (unhide HSM).n1 (unhide HSM).n3).mono ?_
  rintro e w9 ⟨rfl, hb⟩
  have KD9 := hide ((unhide KD8).trans (hb.mono (unhide KD8).size))
  clear hb
  go_wp2_with fail
  refine hK.out _ _ ?_ (fun hHeld => ?_)
  · exact ⟨((unhide KD9).cell (p := ⟨yb, 0, none⟩) hzy).trans y0, ((unhide KD9).cell (p := ⟨yb, 1, none⟩) hzy).trans y1, ((unhide KD9).cell (p := ⟨yb, 2, none⟩) hzy).trans y2, ((unhide KD9).cell (p := ⟨yb, 3, none⟩) hzy).trans y3, ((unhide KD9).cell (p := ⟨yb, 4, none⟩) hzy).trans y4, ((unhide KD9).cell (p := ⟨yb, 5, none⟩) hzy).trans y5, ((unhide KD9).cell (p := ⟨w.heap.size, 0, none⟩) hzx).trans x0, ((unhide KD9).cell (p := ⟨w.heap.size, 1, none⟩) hzx).trans x1, ((unhide KD9).cell (p := ⟨w.heap.size, 2, none⟩) hzx).trans x2, ((unhide KD9).cell (p := ⟨w.heap.size, 3, none⟩) hzx).trans x3, ((unhide KD9).cell (p := ⟨w.heap.size, 4, none⟩) hzx).trans x4, ((unhide KD9).cell (p := ⟨w.heap.size, 5, none⟩) hzx).trans x5⟩
  clear hK K
  (try simp only [Act.put, List.getElem_toArray, List.getElem_cons_succ, List.getElem_cons_zero, List.setIfInBounds_toArray, List.set_cons_zero, List.set_cons_succ])
  refine tkH 4 rfl ?_
  refine wpAnyH_done (by kernel_rfl) (NoPanic.normal ?_) _
  have KF := hide ((unhide K7).trans ((unhide KD9).mono (unhide K7).size))
  go_wp2_with fail
  go_ret
  exact ⟨rfl, unhide KF⟩

theorem vars_of_laid {W : World} (h : laidMetH Tryd.prog Rows.fnExactStateOfRow.laid W) :
    W.var? Tryd.prog "loop.example/g00220/impl.firstWords" = some firstCells ∧ W.var? Tryd.prog "loop.example/g00220/impl.roundWords" = some roundCells := by
  rw [MakeChecks.laidMetH_plain _ _ _ (by kernel_rfl)] at h
  obtain ⟨ps, ⟨g0, t0, cs0, f0, p0, q0, hg0, ht0, hv0, hd0, ⟨g1, t1, cs1, f1, p1, q1, hg1, ht1, hv1, hd1, _, _⟩, _⟩, _, _⟩ := h
  obtain rfl := Option.some.inj (gFirst.symm.trans hg0)
  obtain rfl := Option.some.inj (gRound.symm.trans hg1)
  obtain rfl := Option.some.inj (gFirstType.symm.trans ht0)
  obtain rfl := Option.some.inj (gRoundType.symm.trans ht1)
  have e0 := Lib.cells_of_tab (k := .u32) (cs := cs0.toList) (zs := iL.map fun (n : Nat) => (n : Int)) Tryd.underlying140 Tryd.underlying130 cellsE cellsA hd0
  have e1 := Lib.cells_of_tab (k := .u32) (cs := cs1.toList) (zs := kL.map fun (n : Nat) => (n : Int)) Tryd.underlying144 Tryd.underlying130 cellsE cellsB hd1
  have a0 : cs0 = firstCells := by
    have : cs0.toList = firstCells.toList := e0.trans (by kernel_rfl)
    exact Array.toList_inj.1 this
  have a1 : cs1 = roundCells := by
    have : cs1.toList = roundCells.toList := e1.trans (by kernel_rfl)
    exact Array.toList_inj.1 this
  exact ⟨by rw [hv0, a0], by rw [hv1, a1]⟩
theorem door_met (os : Os) (args : Array Value) : laidMetH Tryd.prog Rows.fnExactStateOfRow.laid ((World.doorLaid Tryd.prog 19 os).forCall (fun _ _ => 0) ⟨#[], args, []⟩).memory :=
  laidMetH_of_parts3 (fuel := 8) (laidMet_of_run' 8 (by kernel_rfl) (by kernel_rfl)) (by kernel_rfl) (by kernel_rfl)
set_option maxRecDepth 100000 in
theorem lifted (os : Os) (started : os.Started) (H : Type) (enc : TypeId × Value → H) :
    ReturnsInHanded {} Tryd.checked os 3 .any (fun w args => (Rows.fnExactStateOfSpec.pre enc Tryd.prog Tryd.f3 [] false w args ∧ laidMetH Tryd.prog Rows.fnExactStateOfRow.laid w) ∧ sizedMet enc Tryd.prog Tryd.f3 (OpenSpec.ofChange Rows.fnExactStateOfSpec) false w args)
      (Rows.fnExactStateOfSpec.post enc Tryd.prog Tryd.f3 false true false false) := by
  refine returnsInHanded_of_change_and (C := Tryd.checked) (X := fun w _ => laidMetH Tryd.prog Rows.fnExactStateOfRow.laid w) (fun _ _ _ hh h => h.of_heap hh) own started (by kernel_rfl) Tryd.func3
    (ChangeSpec.witness_shaped (enc := enc) (C := Tryd.checked) (os := os) (X := fun w _ => laidMetH Tryd.prog Rows.fnExactStateOfRow.laid w) false (World.doorLaid Tryd.prog 19 os) #[.agg #[.slice none 0 0, .string ByteArray.empty, .string ByteArray.empty, .int .i64 0, .slice none 0 0, .slice none 0 0]] 8 rfl (World.shaped_of_RefB (by kernel_rfl) (by kernel_rfl)) (by kernel_rfl) (by kernel_rfl) (by kernel_rfl) (door_met os _)) ?_
  intro W base args ds gs before hval0 hW _ _ hL _
  have hval : ∀ (j : Nat) t v, Tryd.f3.params[j]? = some t → args[j]? = some v → Value.okWide Tryd.prog W .any base t v := hval0
  have hW' := hW
  obtain ⟨p, q, hA0, hV0, rfl, hfz, hnd⟩ := hW
  have hA : DataW.TrodAll enc Tryd.prog W 0 (fun _ => true) true Tryd.f3.params.toList args.toList ds p := hA0
  have hV : DataW.TrodVars enc Tryd.prog W (fun _ => true) ["loop.example/g00220/impl.firstWords", "loop.example/g00220/impl.roundWords"] gs q := hV0
  rw [Tryd.params3] at hA hval
  obtain ⟨v0, vs0, d0, ds0, p0, q0, hargs, rfl, rfl, h0, r0⟩ := trodAll_cons hA
  obtain ⟨rfl, rfl, rfl⟩ := trodAll_nil r0
  obtain rfl : args = #[v0] := by cases args; simp_all
  have k0 := h0
  have lt0 : ∀ x ∈ p0, x.block < W.heap.size := by obtain ⟨m, hm⟩ := k0; exact DataW.trod_lt m _ _ _ hm
  obtain ⟨lv0, ky0, va0, at0, kv0, sv0, ls0, ks0, ss0, rfl, hf0, hz0, hy0, hl0, hs0⟩ := open_ledger (hval 0 28 v0 rfl rfl) h0
  obtain ⟨hvA, hvB⟩ := vars_of_laid hL
  clear hA0 hV0 hval0
  refine (walk lv0 ky0 va0 at0 kv0 sv0 ls0 ks0 ss0 W hf0 hz0 hy0 hl0 hs0 (first_of hvA) (table_of hvB)).mono fun e W' ⟨he, bel⟩ => ?_
  subst he
  obtain ⟨rfl, pv, hvs⟩ := vars_again (sp := fun b => decide (b < W.heap.size)) hvA hvB hV bel
  exact ⟨_, rfl, _, _, _, [], _, pv, hW', trodAll_mk1 (shut_bool Tryd.underlying4 _), (trodAll_cons_mk (Below.trod laidOut (by kernel_rfl) (of_decide_eq_true (by kernel_rfl)) k0 bel lt0) trodAll_mk0), hvs, bel.frame _, fun h => by cases h⟩

theorem said : Rows.FnExactStateOfSaid :=
  OpenClaim.holds_of_wide 3 Tryd.f3 rfl rfl rfl rfl rfl rfl rfl ⟨rfl, rfl, rfl, rfl, rfl⟩ rfl rfl rfl rfl rfl (by kernel_rfl) Tryd.func3 (by kernel_rfl)
    (of_decide_eq_true (by kernel_rfl)) (by unfold Func.isWrapper; first | (rw [if_pos (by decide +kernel)]; kernel_rfl) | (rw [if_neg (by decide +kernel)]; exact ⟨rfl, rfl⟩))
    (fun os started H enc _ => lifted os started H enc)

theorem plain (f : FuncId) (fn : Func) (hf : Tryd.pinned.checked.prog.funcNamed "loop.example/g00220/laws.FnExactStateOf" = some f) (hfn : Tryd.pinned.checked.prog.funcs[f]? = some fn) :
    false = Tryd.pinned.checked.prog.looks [] ∧ ∀ (j : Nat) t, fn.params[j]? = some t → Tryd.pinned.checked.prog.wantsStandIn t = false := by
  obtain rfl : f = 3 := Option.some.inj ((show Tryd.prog.funcNamed "loop.example/g00220/laws.FnExactStateOf" = some 3 by kernel_rfl).symm.trans hf) |>.symm
  obtain rfl : fn = Tryd.f3 := (Option.some.inj (Tryd.func3.symm.trans hfn)).symm
  refine ⟨by kernel_rfl, fun j t ht => ?_⟩
  rw [Tryd.params3] at ht
  obtain rfl : t = 28 := by
    have := Array.mem_of_getElem? ht
    simpa using this
  exact (show Tryd.prog.wantsStandIn 28 = false by kernel_rfl)
end Go.Proofs.YtkojmnlfpccbiaaDoor.fnExactStateOf
namespace Go.Proofs.YtkojmnlfpccbiaaDoor
theorem fnExactStateOf_card : Rows.FnExactStateOfCardSaid :=
  Claim7.holds_tied_plain_at .later [] _ _ _ _ fnExactStateOf.said (fun _ h => by cases h) (by kernel_rfl) (fun _ h => by cases h) fnExactStateOf_row_tie rfl ⟨rfl, rfl⟩ (by kernel_rfl) rfl fnExactStateOf.plain (by kernel_rfl)
#print axioms fnExactStateOf_card
end Go.Proofs.YtkojmnlfpccbiaaDoor
