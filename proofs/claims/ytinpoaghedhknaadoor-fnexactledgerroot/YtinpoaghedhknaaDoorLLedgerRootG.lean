/- For every ledger that can be read, laws.FnExactLedgerRoot returns true, the ledger reads as it did, and so do the two tables of words, which the card ties to the program's text. Condition: the listed tables start as the program's text lays them. -/
import Derived.Test.YtinpoaghedhknaaDoorGsA
import Derived.Test.YtinpoaghedhknaaDoorLawG
import Derived.Test.YtinpoaghedhknaaDoorCards
import Derived.Test.YtinpoaghedhknaaDoorTie
namespace Go.Proofs.YtinpoaghedhknaaDoor.fnExactLedgerRoot
open Go.ChangeShapes Go.WideShapes Go.ChangeAt Go.RowKit Sha
open Go.ChangeMaps (open_string shut_string)
set_option linter.unusedVariables false

set_option maxRecDepth 100000 in
set_option maxHeartbeats 4000000 in
theorem walk (lv : Value) (k v : ByteArray) (at_ : Int) (kv sv : Value) (ls : List ByteArray) (ks : List Br) (ss : List Se) (w : World) (hR : LedR w lv kv sv ls ks ss) (hk : k.size ≤ maxLen) (hv : v.size ≤ maxLen) (z1 : ∀ i, i < ls.length → (ls.getD i ByteArray.empty).size ≤ maxLen) (z3 : ∀ i, i < ss.length → (ss.getD i default).vl.size ≤ maxLen) (hf : First w) (ht : Table w) :
    Calls Tryd.prog 3 #[.agg #[lv, .string k, .string v, .int .i64 at_, kv, sv]] w fun e w' => e = .returned (.bool true) ∧ Below w.heap.size w w' := by
  have HT := hide (show Tab w from ⟨hf, ht⟩)
  obtain ⟨la, lc, ka, kc, sa, sc, rfl, rfl, rfl, hm1, hm2, hm3⟩ := hR.shape
  have HR := hide hR
  have HZ := hide (And.intro hk hv)
  have B0 := hide ((Below.refl w.heap.size w).alloc (Nat.le_refl _) (.cells #[.slice la ls.length lc, .string k, .string v, .int .i64 at_, .slice ka ks.length kc, .slice sa ss.length sc] 28))
  have X0 := hide (Blk.new w #[.slice la ls.length lc, .string k, .string v, .int .i64 at_, .slice ka ks.length kc, .slice sa ss.length sc] 28 w.heap.size rfl)
  have HS := hide (fun wx (hx : Below w.heap.size w wx) => szLedger_any ls k v at_ ks ss la lc ka kc sa sc 1048576 wx (hR.below hx) (by omega) (by omega) z1 hk hv z3)
  have HW := hide (Br.wt_eq (.mk k v at_ ks))
  have hwl := Br.wt_lo (.mk k v at_ ks)
  have HC := hide (ledR_cases 1048576 (by omega) ls (Br.mk k v at_ ks).wt ss hwl)
  have HTO := hide (fun (hs : LedS ls (Br.mk k v at_ ks).wt ss) wx (hx : Below w.heap.size w wx) => toLedger_any ls k v at_ ks ss la lc ka kc sa sc wx (hR.below hx) hs.n1 (by have h2 := hs.w2; have := unhide HW; simp only [Br.key, Br.val, Br.kids] at this; omega) hs.n3)
  obtain ⟨ro, rc, hro⟩ := lr_cases ls (.mk k v at_ ks) ss
  have HRO := hide hro
  clear hro
  clear hf ht hR hk hv hwl hm1 hm2 hm3 z1 z3
  generalize ledR 1048576 ls (Br.mk k v at_ ks).wt ss = r at *
  go_enter Tryd.func3, Tryd.ntmps3
  go_wp2_with fail
  generalize w.alloc (.cells #[.slice la ls.length lc, .string k, .string v, .int .i64 at_, .slice ka ks.length kc, .slice sa ss.length sc] 28) = w0 at *
  refine (unhide HS w0 (unhide B0)).mono ?_
  rintro e w1 ⟨rfl, hb1⟩
  have K1 := hide ((unhide B0).trans (hb1.mono (unhide B0).size))
  have X1 := (unhide X0).below hb1
  have x10 := X1.cell 0 rfl
  have x11 := X1.cell 1 rfl
  have x12 := X1.cell 2 rfl
  have x13 := X1.cell 3 rfl
  have x14 := X1.cell 4 rfl
  have x15 := X1.cell 5 rfl
  have HX1 := hide X1
  clear hb1 B0 X0 X1 HS
  rcases unhide HC with hr | ⟨hr, _, hrs⟩
  · subst hr
    go_wp2_with fail
    go_ret
    exact ⟨rfl, unhide K1⟩
  have HSM := hide hrs
  have HTT := hide (unhide HTO hrs)
  have hr2 : ¬ r < 0 := by omega
  clear HTO hr hrs HC
  go_wp2_with fail
  refine (unhide HTT w1 (unhide K1)).mono ?_
  rintro e w2 ⟨p2, q2, r2, rfl, hO2, hb2⟩
  have K2 := hide ((unhide K1).trans (hb2.mono (unhide K1).size))
  have V2 := hide hO2
  have X2 := (unhide HX1).below hb2
  have x20 := X2.cell 0 rfl
  have x21 := X2.cell 1 rfl
  have x22 := X2.cell 2 rfl
  have x23 := X2.cell 3 rfl
  have x24 := X2.cell 4 rfl
  have x25 := X2.cell 5 rfl
  have HX2 := hide X2
  clear hb2 hO2 X2 HX1 x10 x11 x12 x13 x14 x15 K1
  go_wp2_with fail
  refine (specLedgerRoot_any ls k v at_ ks ss p2 _ _ _ _ _ w2 (SA.own (unhide V2).1) (unhide V2).led (unhide HSM).t1 (unhide HZ).1 (unhide HZ).2 (unhide HSM).t3).mono ?_
  rintro e w3 ⟨rfl, hb3⟩
  rw [unhide HRO]
  have K3 := hide ((unhide K2).trans (hb3.mono (unhide K2).size))
  have X3 := (unhide HX2).below hb3
  have x30 := X3.cell 0 rfl
  have x31 := X3.cell 1 rfl
  have x32 := X3.cell 2 rfl
  have x33 := X3.cell 3 rfl
  have x34 := X3.cell 4 rfl
  have x35 := X3.cell 5 rfl
  have HX3 := hide X3
  clear hb3 X3 HX2 x20 x21 x22 x23 x24 x25 K2 V2
  go_wp2_with fail
  refine (unhide HTT w3 (unhide K3)).mono ?_
  rintro e w4 ⟨p4, q4, r4, rfl, hO4, hb4⟩
  have K4 := hide ((unhide K3).trans (hb4.mono (unhide K3).size))
  have X4 := (unhide HX3).below hb4
  have BB := (Below.refl w4.heap.size w4).alloc (Nat.le_refl _) (.cells #[.slice (some ⟨p4, 0, none⟩) ls.length ls.length, .string k, .string v, .int .i64 at_, .slice (some ⟨q4, 0, none⟩) ks.length ks.length, .slice (some ⟨r4, 0, none⟩) ss.length ss.length] 37)
  have V4 := hide (hO4.below BB)
  have Y4 := hide (Blk.new w4 #[.slice (some ⟨p4, 0, none⟩) ls.length ls.length, .string k, .string v, .int .i64 at_, .slice (some ⟨q4, 0, none⟩) ks.length ks.length, .slice (some ⟨r4, 0, none⟩) ss.length ss.length] 37 w4.heap.size rfl)
  have K4b := hide ((unhide K4).trans (BB.mono (unhide K4).size))
  have HX4b := hide (X4.below BB)
  clear hb4 hO4 X4 HX3 x30 x31 x32 x33 x34 x35 K3 BB K4
  go_wp2_with fail
  generalize w4.alloc (.cells #[.slice (some ⟨p4, 0, none⟩) ls.length ls.length, .string k, .string v, .int .i64 at_, .slice (some ⟨q4, 0, none⟩) ks.length ks.length, .slice (some ⟨r4, 0, none⟩) ss.length ss.length] 37) = w4b at *
  generalize w4.heap.size = yb at *
  refine (implLedgerRoot_any ls k v at_ ks ss p4 0 _ _ _ _ _ w4b (SA.own (unhide V4).1) (unhide V4).led (unhide HSM).t1 (unhide HZ).1 (unhide HZ).2 (unhide HSM).t3 ((unhide HT).below (unhide K4b))).mono ?_
  rintro e w5 ⟨rfl, hb5⟩
  rw [unhide HRO]
  have K5 := hide ((unhide K4b).trans (hb5.mono (unhide K4b).size))
  have X5 := (unhide HX4b).below hb5
  have x50 := X5.cell 0 rfl
  have x51 := X5.cell 1 rfl
  have x52 := X5.cell 2 rfl
  have x53 := X5.cell 3 rfl
  have x54 := X5.cell 4 rfl
  have x55 := X5.cell 5 rfl
  have hzx := X5.1
  have V5 := hide ((unhide V4).below hb5)
  have Y5 := (unhide Y4).below hb5
  have y50 := Y5.cell 0 rfl
  have y51 := Y5.cell 1 rfl
  have y52 := Y5.cell 2 rfl
  have y53 := Y5.cell 3 rfl
  have y54 := Y5.cell 4 rfl
  have y55 := Y5.cell 5 rfl
  have hzy := Y5.1
  clear hb5 X5 HX4b V4 Y4 Y5 K4b
  have K5d := hide (below_drewN (unhide K5) 1)
  have V5d := hide ((unhide V5).below (below_drewN (Below.refl _ w5) 1))
  have HTW := hide (unhide HTT w5.drew (unhide K5d))
  all_goals
    go_wp2_with fail
    go_region_held3 (fun wx => wx.cell? ⟨yb, 0, none⟩ = some (.slice (some ⟨p4, 0, none⟩) ls.length ls.length) ∧ wx.cell? ⟨yb, 1, none⟩ = some (.string k) ∧ wx.cell? ⟨yb, 2, none⟩ = some (.string v) ∧ wx.cell? ⟨yb, 3, none⟩ = some (.int .i64 at_) ∧ wx.cell? ⟨yb, 4, none⟩ = some (.slice (some ⟨q4, 0, none⟩) ks.length ks.length) ∧ wx.cell? ⟨yb, 5, none⟩ = some (.slice (some ⟨r4, 0, none⟩) ss.length ss.length) ∧ wx.cell? ⟨w.heap.size, 0, none⟩ = some (.slice la ls.length lc) ∧ wx.cell? ⟨w.heap.size, 1, none⟩ = some (.string k) ∧ wx.cell? ⟨w.heap.size, 2, none⟩ = some (.string v) ∧ wx.cell? ⟨w.heap.size, 3, none⟩ = some (.int .i64 at_) ∧ wx.cell? ⟨w.heap.size, 4, none⟩ = some (.slice ka ks.length kc) ∧ wx.cell? ⟨w.heap.size, 5, none⟩ = some (.slice sa ss.length sc))
      (first | go_keep | exact ⟨(hb7.cell (p := ⟨yb, 0, none⟩) hq6).trans k60, (hb7.cell (p := ⟨yb, 1, none⟩) hq6).trans k61, (hb7.cell (p := ⟨yb, 2, none⟩) hq6).trans k62, (hb7.cell (p := ⟨yb, 3, none⟩) hq6).trans k63, (hb7.cell (p := ⟨yb, 4, none⟩) hq6).trans k64, (hb7.cell (p := ⟨yb, 5, none⟩) hq6).trans k65, (hb7.cell (p := ⟨w.heap.size, 0, none⟩) hp6).trans l60, (hb7.cell (p := ⟨w.heap.size, 1, none⟩) hp6).trans l61, (hb7.cell (p := ⟨w.heap.size, 2, none⟩) hp6).trans l62, (hb7.cell (p := ⟨w.heap.size, 3, none⟩) hp6).trans l63, (hb7.cell (p := ⟨w.heap.size, 4, none⟩) hp6).trans l64, (hb7.cell (p := ⟨w.heap.size, 5, none⟩) hp6).trans l65⟩ | exact ⟨k60, k61, k62, k63, k64, k65, l60, l61, l62, l63, l64, l65⟩)
      (first
        | (go_at_call 9; refine (eqLedger_any ls k v at_ ks ss _ _ _ _ _ _ _ _ _ _ _ _ w6 ((unhide V5d).below hb6).led hO6.led (unhide HSM).n1 (unhide HSM).n3).mono ?_; rintro e w7 ⟨rfl, hb7⟩)
        | (go_at_call 7; refine (unhide HTW).mono ?_; rintro e w6 ⟨p6, q6, r6, rfl, hO6, hb6⟩; have hq6 : yb < w6.heap.size := Nat.lt_of_lt_of_le hzy hb6.size; have hp6 : w.heap.size < w6.heap.size := Nat.lt_of_lt_of_le hzx hb6.size; have k60 := (hb6.cell (p := ⟨yb, 0, none⟩) hzy).trans y50; have k61 := (hb6.cell (p := ⟨yb, 1, none⟩) hzy).trans y51; have k62 := (hb6.cell (p := ⟨yb, 2, none⟩) hzy).trans y52; have k63 := (hb6.cell (p := ⟨yb, 3, none⟩) hzy).trans y53; have k64 := (hb6.cell (p := ⟨yb, 4, none⟩) hzy).trans y54; have k65 := (hb6.cell (p := ⟨yb, 5, none⟩) hzy).trans y55; have l60 := (hb6.cell (p := ⟨w.heap.size, 0, none⟩) hzx).trans x50; have l61 := (hb6.cell (p := ⟨w.heap.size, 1, none⟩) hzx).trans x51; have l62 := (hb6.cell (p := ⟨w.heap.size, 2, none⟩) hzx).trans x52; have l63 := (hb6.cell (p := ⟨w.heap.size, 3, none⟩) hzx).trans x53; have l64 := (hb6.cell (p := ⟨w.heap.size, 4, none⟩) hzx).trans x54; have l65 := (hb6.cell (p := ⟨w.heap.size, 5, none⟩) hzx).trans x55))
    all_goals
      have K7 := hide ((unhide K5d).trans ((hb6.mono (unhide K5d).size).trans (hb7.mono (Nat.le_trans (unhide K5d).size hb6.size))))
      clear hb6 hb7 hO6
      go_wp2_with fail
      go_ret
      exact ⟨rfl, unhide K7⟩

theorem vars_of_laid {W : World} (h : laidMetH Tryd.prog Rows.fnExactLedgerRootRow.laid W) :
    W.var? Tryd.prog "loop.example/g00220/impl.firstWords" = some firstCells ∧ W.var? Tryd.prog "loop.example/g00220/impl.roundWords" = some roundCells := by
  rw [MakeChecks.laidMetH_plain _ _ _ (by kernel_rfl)] at h
  obtain ⟨ps, ⟨g0, t0, cs0, f0, p0, q0, hg0, ht0, hv0, hd0, ⟨g1, t1, cs1, f1, p1, q1, hg1, ht1, hv1, hd1, _, _⟩, _⟩, _, _⟩ := h
  obtain rfl := Option.some.inj (gFirst.symm.trans hg0)
  obtain rfl := Option.some.inj (gRound.symm.trans hg1)
  obtain rfl := Option.some.inj (gFirstType.symm.trans ht0)
  obtain rfl := Option.some.inj (gRoundType.symm.trans ht1)
  have e0 := Lib.cells_of_tab (k := .u32) (cs := cs0.toList) (zs := iL.map fun (n : Nat) => (n : Int)) Tryd.underlying117 Tryd.underlying103 cellsE cellsA hd0
  have e1 := Lib.cells_of_tab (k := .u32) (cs := cs1.toList) (zs := kL.map fun (n : Nat) => (n : Int)) Tryd.underlying121 Tryd.underlying103 cellsE cellsB hd1
  have a0 : cs0 = firstCells := by
    have : cs0.toList = firstCells.toList := e0.trans (by kernel_rfl)
    exact Array.toList_inj.1 this
  have a1 : cs1 = roundCells := by
    have : cs1.toList = roundCells.toList := e1.trans (by kernel_rfl)
    exact Array.toList_inj.1 this
  exact ⟨by rw [hv0, a0], by rw [hv1, a1]⟩
theorem door_met (os : Os) (args : Array Value) : laidMetH Tryd.prog Rows.fnExactLedgerRootRow.laid ((World.doorLaid Tryd.prog 34 os).forCall (fun _ _ => 0) ⟨#[], args, []⟩).memory :=
  laidMetH_of_parts3 (fuel := 8) (laidMet_of_run' 8 (by kernel_rfl) (by kernel_rfl)) (by kernel_rfl) (by kernel_rfl)
set_option maxRecDepth 100000 in
theorem lifted (os : Os) (started : os.Started) (H : Type) (enc : TypeId × Value → H) :
    ReturnsInHanded {} Tryd.checked os 3 .any (fun w args => (Rows.fnExactLedgerRootSpec.pre enc Tryd.prog Tryd.f3 [] false w args ∧ laidMetH Tryd.prog Rows.fnExactLedgerRootRow.laid w) ∧ sizedMet enc Tryd.prog Tryd.f3 (OpenSpec.ofChange Rows.fnExactLedgerRootSpec) false w args)
      (Rows.fnExactLedgerRootSpec.post enc Tryd.prog Tryd.f3 false true false false) := by
  refine returnsInHanded_of_change_and (C := Tryd.checked) (X := fun w _ => laidMetH Tryd.prog Rows.fnExactLedgerRootRow.laid w) (fun _ _ _ hh h => h.of_heap hh) own started (by kernel_rfl) Tryd.func3
    (ChangeSpec.witness_shaped (enc := enc) (C := Tryd.checked) (os := os) (X := fun w _ => laidMetH Tryd.prog Rows.fnExactLedgerRootRow.laid w) false (World.doorLaid Tryd.prog 34 os) #[.agg #[.slice none 0 0, .string ByteArray.empty, .string ByteArray.empty, .int .i64 0, .slice none 0 0, .slice none 0 0]] 8 rfl (World.shaped_of_RefB (by kernel_rfl) (by kernel_rfl)) (by kernel_rfl) (by kernel_rfl) (by kernel_rfl) (door_met os _)) ?_
  intro W base args ds gs before hval0 hW _ _ hL _
  have hval : ∀ (j : Nat) t v, Tryd.f3.params[j]? = some t → args[j]? = some v → Value.okWide Tryd.prog W .any base t v := hval0
  have hW' := hW
  obtain ⟨p, q, hA0, hV0, rfl, hfz, hnd⟩ := hW
  have hA : DataW.TrodAll enc Tryd.prog W 0 (fun _ => true) true Tryd.f3.params.toList args.toList ds p := hA0
  have hV : DataW.TrodVars enc Tryd.prog W (fun _ => true) ["loop.example/g00220/impl.firstWords", "loop.example/g00220/impl.roundWords"] gs q := hV0
  rw [Tryd.params3] at hA hval
  obtain ⟨v0, vs0, d0, ds0, p0, q0, hargs, rfl, rfl, h0, r0⟩ := trodAll_cons hA
  obtain ⟨rfl, rfl, rfl⟩ := trodAll_nil r0
  obtain rfl : args = #[v0] := by cases args; simp_all
  have k0 := h0
  have lt0 : ∀ x ∈ p0, x.block < W.heap.size := by obtain ⟨m, hm⟩ := k0; exact DataW.trod_lt m _ _ _ hm
  obtain ⟨lv0, ky0, va0, at0, kv0, sv0, ls0, ks0, ss0, rfl, hf0, hz0, hy0, hl0, hs0⟩ := open_ledger (hval 0 28 v0 rfl rfl) h0
  obtain ⟨hvA, hvB⟩ := vars_of_laid hL
  clear hA0 hV0 hval0
  refine (walk lv0 ky0 va0 at0 kv0 sv0 ls0 ks0 ss0 W hf0 hz0 hy0 hl0 hs0 (first_of hvA) (table_of hvB)).mono fun e W' ⟨he, bel⟩ => ?_
  subst he
  obtain ⟨rfl, pv, hvs⟩ := vars_again (sp := fun b => decide (b < W.heap.size)) hvA hvB hV bel
  exact ⟨_, rfl, _, _, _, [], _, pv, hW', trodAll_mk1 (shut_bool Tryd.underlying4 _), (trodAll_cons_mk (Below.trod laidOut (by kernel_rfl) (of_decide_eq_true (by kernel_rfl)) k0 bel lt0) trodAll_mk0), hvs, bel.frame _, fun h => by cases h⟩

theorem said : Rows.FnExactLedgerRootSaid :=
  OpenClaim.holds_of_wide 3 Tryd.f3 rfl rfl rfl rfl rfl rfl rfl ⟨rfl, rfl, rfl, rfl, rfl⟩ rfl rfl rfl rfl rfl (by kernel_rfl) Tryd.func3 (by kernel_rfl)
    (of_decide_eq_true (by kernel_rfl)) (by unfold Func.isWrapper; first | (rw [if_pos (by decide +kernel)]; kernel_rfl) | (rw [if_neg (by decide +kernel)]; exact ⟨rfl, rfl⟩))
    (fun os started H enc _ => lifted os started H enc)

theorem plain (f : FuncId) (fn : Func) (hf : Tryd.pinned.checked.prog.funcNamed "loop.example/g00220/laws.FnExactLedgerRoot" = some f) (hfn : Tryd.pinned.checked.prog.funcs[f]? = some fn) :
    false = Tryd.pinned.checked.prog.looks [] ∧ ∀ (j : Nat) t, fn.params[j]? = some t → Tryd.pinned.checked.prog.wantsStandIn t = false := by
  obtain rfl : f = 3 := Option.some.inj ((show Tryd.prog.funcNamed "loop.example/g00220/laws.FnExactLedgerRoot" = some 3 by kernel_rfl).symm.trans hf) |>.symm
  obtain rfl : fn = Tryd.f3 := (Option.some.inj (Tryd.func3.symm.trans hfn)).symm
  refine ⟨by kernel_rfl, fun j t ht => ?_⟩
  rw [Tryd.params3] at ht
  obtain rfl : t = 28 := by
    have := Array.mem_of_getElem? ht
    simpa using this
  exact (show Tryd.prog.wantsStandIn 28 = false by kernel_rfl)
end Go.Proofs.YtinpoaghedhknaaDoor.fnExactLedgerRoot
namespace Go.Proofs.YtinpoaghedhknaaDoor
theorem fnExactLedgerRoot_card : Rows.FnExactLedgerRootCardSaid :=
  Claim7.holds_tied_plain_at .later [] _ _ _ _ fnExactLedgerRoot.said (fun _ h => by cases h) (by kernel_rfl) (fun _ h => by cases h) fnExactLedgerRoot_row_tie rfl ⟨rfl, rfl⟩ (by kernel_rfl) rfl fnExactLedgerRoot.plain (by kernel_rfl)
#print axioms fnExactLedgerRoot_card
end Go.Proofs.YtinpoaghedhknaaDoor
