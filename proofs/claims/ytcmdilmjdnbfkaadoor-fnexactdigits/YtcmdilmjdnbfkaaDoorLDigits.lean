/- For every text, laws.FnExactDigits returns true, and the two tables of words, which the card ties to the program's text, read as they did. Condition: the listed tables start as the program's text lays them. -/
import Derived.Test.YtcmdilmjdnbfkaaDoorSiF
import Derived.Test.YtcmdilmjdnbfkaaDoorLawG
import Derived.Test.YtcmdilmjdnbfkaaDoorCards
import Derived.Test.YtcmdilmjdnbfkaaDoorTie
namespace Go.Proofs.YtcmdilmjdnbfkaaDoor.fnExactDigits
open Go.ChangeShapes Go.WideShapes Go.ChangeAt Go.RowKit Sha
open Go.ChangeMaps (open_string shut_string)
set_option linter.unusedVariables false

theorem below_touch {v : Value} {w wx wy : World} (h : Below w.heap.size w wx) (ht : Touch (fun k => v.ownBlock = some k) wx wy) (hv : ∀ k, v.ownBlock = some k → w.heap.size ≤ k) : Below w.heap.size w wy :=
  h.trans (ht.below h.size (fun k hk e => by have := hv k e; omega))
set_option maxRecDepth 100000 in
set_option maxHeartbeats 2000000 in
theorem walk (s : ByteArray) (w : World) (hs : s.size ≤ maxLen) (hf : First w) (ht : Table w) :
    Calls Tryd.prog 3 #[.string s] w fun e w' => e = .returned (.bool true) ∧ Below w.heap.size w w' := by
  have HT := hide (show Tab w from ⟨hf, ht⟩)
  have HM := hide hs
  clear hf ht
  unfold maxLen at hs
  by_cases hbig : 1048576 < s.size
  · go_enter Tryd.func3, Tryd.ntmps3
    go_wp2_with fail
    go_ret
    exact ⟨rfl, Below.refl _ _⟩
  · have HSP := hide (specDigits_any s w (by omega))
    have HIM := hide (fun wx (h : Tab wx) => implDigits_any s wx (unhide HM) h)
    have hlen := dgOut_len s
    generalize (dgOut s).1 = l at *
    generalize (dgOut s).2 = c at *
    have hl2 : l.length ≤ 1048576 := by omega
    have hl3 : l.length ≤ maxLen := by unfold maxLen; omega
    have HL := hide (And.intro hl2 hl3)
    clear hl2 hl3 hlen
    go_enter Tryd.func3, Tryd.ntmps3
    go_wp2_with fail
    refine (unhide HSP).mono ?_
    rintro e w1 ⟨wv, rfl, hO1, hb1⟩
    have B1 := hide hb1
    have O1 := hide hO1
    clear hb1 hO1
    go_wp2_with fail
    refine (unhide HIM w1 ((unhide HT).below (unhide B1))).mono ?_
    rintro e w2 ⟨gv, rfl, hO2, hb2⟩
    have B2 := hide ((unhide B1).trans (hb2.mono (unhide B1).size))
    have O2 := hide ((unhide O1).below hb2)
    have G2 := hide hO2
    have Z2 := hide (And.intro (unhide B1).size (And.intro (fun k hk => ((unhide O1).lt k hk).2) (fun k hk => (hO2.lt k hk).1)))
    clear hb2 hO2 O1 B1
    go_wp2_with fail
    refine (eqIntS_any _ _ l _ ((unhide G2).ints (unhide HL).2) (unhide O2).ints (unhide HL).1).mono ?_
    rintro e w3 ⟨rfl, n3, rfl⟩
    have hd3 := below_drewN (Below.refl w2.heap.size w2) n3
    have B3 := hide ((unhide B2).trans (hd3.mono (unhide B2).size))
    have O3 := hide ((unhide O2).below hd3)
    have G3 := hide ((unhide G2).below hd3)
    clear hd3 B2 O2 G2
    generalize w2.drewN n3 = w3 at *
    go_wp2_with fail
    refine (markR_any _ _ l _ (unhide G3) (unhide HL).1).mono ?_
    rintro e w4 ⟨rfl, hO4, hT4⟩
    have B4 := hide (below_touch (unhide B3) hT4 (fun k hk => by have := (unhide Z2).2.2 k hk; have := (unhide Z2).1; omega))
    have O4 := hide ((unhide O3).kept hT4 (fun k hk e => by have h1 := (unhide Z2).2.1 k hk; have h2 := (unhide Z2).2.2 k e; omega))
    have G4 := hide hO4
    clear hO4 hT4 B3 O3 G3
    have hn0 : ¬ (1 + (l.length : Int)) < 0 := by omega
    generalize hnn : l.length = n at *
    have HNN := hide hnn
    clear hnn
    go_wp2_with fail
    refine (heldR_any _ _ n _ (unhide G4) (unhide HL).1).mono ?_
    rintro e w9 ⟨rfl, hw9⟩
    subst w9
    go_wp2_with fail
    refine (unhide HIM w4 ((unhide HT).below (unhide B4))).mono ?_
    rintro e w5 ⟨hv, rfl, hO5, hb5⟩
    have B5 := hide ((unhide B4).trans (hb5.mono (unhide B4).size))
    have O5 := hide ((unhide O4).below hb5)
    have G5 := hide ((unhide G4).below hb5)
    have H5 := hide hO5
    clear hb5 hO5 B4 O4 G4
    go_wp2_with fail
    refine (eqIntS_any _ _ l _ ((unhide H5).ints (by rw [unhide HNN]; exact (unhide HL).2)) (unhide O5).ints (by rw [unhide HNN]; exact (unhide HL).1)).mono ?_
    rintro e w6 ⟨rfl, n6, rfl⟩
    have hd6 := below_drewN (Below.refl w5.heap.size w5) n6
    have B6 := hide ((unhide B5).trans (hd6.mono (unhide B5).size))
    have G6 := hide ((unhide G5).below hd6)
    clear hd6 B5 O5 G5 H5
    generalize w5.drewN n6 = w6 at *
    go_wp2_with fail
    refine (heldR_any _ _ n _ (unhide G6) (unhide HL).1).mono ?_
    rintro e w9 ⟨rfl, hw9⟩
    subst w9
    go_wp2_with fail
    go_ret
    exact ⟨rfl, unhide B6⟩

theorem vars_of_laid {W : World} (h : laidMetH Tryd.prog Rows.fnExactDigitsRow.laid W) :
    W.var? Tryd.prog "loop.example/g00220/impl.firstWords" = some firstCells ∧ W.var? Tryd.prog "loop.example/g00220/impl.roundWords" = some roundCells := by
  rw [MakeChecks.laidMetH_plain _ _ _ (by kernel_rfl)] at h
  obtain ⟨ps, ⟨g0, t0, cs0, f0, p0, q0, hg0, ht0, hv0, hd0, ⟨g1, t1, cs1, f1, p1, q1, hg1, ht1, hv1, hd1, _, _⟩, _⟩, _, _⟩ := h
  obtain rfl := Option.some.inj (gFirst.symm.trans hg0)
  obtain rfl := Option.some.inj (gRound.symm.trans hg1)
  obtain rfl := Option.some.inj (gFirstType.symm.trans ht0)
  obtain rfl := Option.some.inj (gRoundType.symm.trans ht1)
  have e0 := Lib.cells_of_tab (k := .u32) (cs := cs0.toList) (zs := iL.map fun (n : Nat) => (n : Int)) Tryd.underlying118 Tryd.underlying113 cellsE cellsA hd0
  have e1 := Lib.cells_of_tab (k := .u32) (cs := cs1.toList) (zs := kL.map fun (n : Nat) => (n : Int)) Tryd.underlying122 Tryd.underlying113 cellsE cellsB hd1
  have a0 : cs0 = firstCells := by
    have : cs0.toList = firstCells.toList := e0.trans (by kernel_rfl)
    exact Array.toList_inj.1 this
  have a1 : cs1 = roundCells := by
    have : cs1.toList = roundCells.toList := e1.trans (by kernel_rfl)
    exact Array.toList_inj.1 this
  exact ⟨by rw [hv0, a0], by rw [hv1, a1]⟩
theorem door_met (os : Os) (args : Array Value) : laidMetH Tryd.prog Rows.fnExactDigitsRow.laid ((World.doorLaid Tryd.prog 19 os).forCall (fun _ _ => 0) ⟨#[], args, []⟩).memory :=
  laidMetH_of_parts3 (fuel := 8) (laidMet_of_run' 8 (by kernel_rfl) (by kernel_rfl)) (by kernel_rfl) (by kernel_rfl)
set_option maxRecDepth 100000 in
theorem lifted (os : Os) (started : os.Started) (H : Type) (enc : TypeId × Value → H) :
    ReturnsInHanded {} Tryd.checked os 3 .any (fun w args => (Rows.fnExactDigitsSpec.pre enc Tryd.prog Tryd.f3 [] false w args ∧ laidMetH Tryd.prog Rows.fnExactDigitsRow.laid w) ∧ sizedMet enc Tryd.prog Tryd.f3 (OpenSpec.ofChange Rows.fnExactDigitsSpec) false w args)
      (Rows.fnExactDigitsSpec.post enc Tryd.prog Tryd.f3 false true false false) := by
  refine returnsInHanded_of_change_and (C := Tryd.checked) (X := fun w _ => laidMetH Tryd.prog Rows.fnExactDigitsRow.laid w) (fun _ _ _ hh h => h.of_heap hh) own started (by kernel_rfl) Tryd.func3
    (ChangeSpec.witness_shaped (enc := enc) (C := Tryd.checked) (os := os) (X := fun w _ => laidMetH Tryd.prog Rows.fnExactDigitsRow.laid w) false (World.doorLaid Tryd.prog 19 os) #[.string ByteArray.empty] 8 rfl (World.shaped_of_RefB (by kernel_rfl) (by kernel_rfl)) (by kernel_rfl) (by kernel_rfl) (by kernel_rfl) (door_met os _)) ?_
  intro W base args ds gs before hval0 hW _ _ hL _
  have hval : ∀ (j : Nat) t v, Tryd.f3.params[j]? = some t → args[j]? = some v → Value.okWide Tryd.prog W .any base t v := hval0
  have hW' := hW
  obtain ⟨p, q, hA0, hV0, rfl, hfz, hnd⟩ := hW
  have hA : DataW.TrodAll enc Tryd.prog W 0 (fun _ => true) true Tryd.f3.params.toList args.toList ds p := hA0
  have hV : DataW.TrodVars enc Tryd.prog W (fun _ => true) ["loop.example/g00220/impl.firstWords", "loop.example/g00220/impl.roundWords"] gs q := hV0
  rw [Tryd.params3] at hA hval
  obtain ⟨v0, vs0, d0, ds0, p0, q0, hargs, rfl, rfl, h0, r0⟩ := trodAll_cons hA
  obtain ⟨rfl, rfl, rfl⟩ := trodAll_nil r0
  obtain rfl : args = #[v0] := by cases args; simp_all
  have k0 := h0
  have lt0 : ∀ x ∈ p0, x.block < W.heap.size := by obtain ⟨m, hm⟩ := k0; exact DataW.trod_lt m _ _ _ hm
  obtain ⟨a0, rfl, _, _, w0⟩ := open_string Tryd.underlying9 (hval 0 9 v0 rfl rfl) h0
  obtain ⟨hv1, hv2⟩ := vars_of_laid hL
  clear hA0 hV0 hval0
  refine (walk a0 W w0 (first_of hv1) (table_of hv2)).mono fun e W' ⟨he, bel⟩ => ?_
  subst he
  obtain ⟨rfl, pv, hvs⟩ := vars_again (sp := fun b => decide (b < W.heap.size)) hv1 hv2 hV bel
  exact ⟨_, rfl, _, _, _, [], _, pv, hW', trodAll_mk1 (shut_bool Tryd.underlying4 _), (trodAll_cons_mk (Below.trod laidOut (by kernel_rfl) (of_decide_eq_true (by kernel_rfl)) k0 bel lt0) trodAll_mk0), hvs, bel.frame _, fun h => by cases h⟩

theorem said : Rows.FnExactDigitsSaid :=
  OpenClaim.holds_of_wide 3 Tryd.f3 rfl rfl rfl rfl rfl rfl rfl ⟨rfl, rfl, rfl, rfl, rfl⟩ rfl rfl rfl rfl rfl (by kernel_rfl) Tryd.func3 (by kernel_rfl)
    (of_decide_eq_true (by kernel_rfl)) (by unfold Func.isWrapper; first | (rw [if_pos (by decide +kernel)]; kernel_rfl) | (rw [if_neg (by decide +kernel)]; exact ⟨rfl, rfl⟩))
    (fun os started H enc _ => lifted os started H enc)

theorem plain (f : FuncId) (fn : Func) (hf : Tryd.pinned.checked.prog.funcNamed "loop.example/g00220/laws.FnExactDigits" = some f) (hfn : Tryd.pinned.checked.prog.funcs[f]? = some fn) :
    false = Tryd.pinned.checked.prog.looks [] ∧ ∀ (j : Nat) t, fn.params[j]? = some t → Tryd.pinned.checked.prog.wantsStandIn t = false := by
  obtain rfl : f = 3 := Option.some.inj ((show Tryd.prog.funcNamed "loop.example/g00220/laws.FnExactDigits" = some 3 by kernel_rfl).symm.trans hf) |>.symm
  obtain rfl : fn = Tryd.f3 := (Option.some.inj (Tryd.func3.symm.trans hfn)).symm
  refine ⟨by kernel_rfl, fun j t ht => ?_⟩
  rw [Tryd.params3] at ht
  obtain rfl : t = 9 := by
    have := Array.mem_of_getElem? ht
    simpa using this
  exact (show Tryd.prog.wantsStandIn 9 = false by kernel_rfl)
end Go.Proofs.YtcmdilmjdnbfkaaDoor.fnExactDigits
namespace Go.Proofs.YtcmdilmjdnbfkaaDoor
theorem fnExactDigits_card : Rows.FnExactDigitsCardSaid :=
  Claim7.holds_tied_plain_at .later [] _ _ _ _ fnExactDigits.said (fun _ h => by cases h) (by kernel_rfl) (fun _ h => by cases h) fnExactDigits_row_tie rfl ⟨rfl, rfl⟩ (by kernel_rfl) rfl fnExactDigits.plain (by kernel_rfl)
#print axioms fnExactDigits_card
end Go.Proofs.YtcmdilmjdnbfkaaDoor
