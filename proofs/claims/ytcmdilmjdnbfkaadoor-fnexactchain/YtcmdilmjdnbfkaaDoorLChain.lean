/- For every text and every two numbers, laws.FnExactChain returns true, and the two tables of words, which the card ties to the program's text, read as they did. Condition: the listed tables start as the program's text lays them. -/
import Derived.Test.YtcmdilmjdnbfkaaDoorSiC
import Derived.Test.YtcmdilmjdnbfkaaDoorLawG
import Derived.Test.YtcmdilmjdnbfkaaDoorCards
import Derived.Test.YtcmdilmjdnbfkaaDoorTie
namespace Go.Proofs.YtcmdilmjdnbfkaaDoor.fnExactChain
open Go.ChangeShapes Go.WideShapes Go.ChangeAt Go.RowKit Sha
open Go.ChangeMaps (open_string shut_string)
set_option linter.unusedVariables false

set_option maxRecDepth 100000 in
set_option maxHeartbeats 1000000 in
theorem walk (s : ByteArray) (i c : Int) (w : World) (hs : s.size ≤ maxLen) (hi : (Lit.int .i64 i).wf = true) (hc : (Lit.int .i64 c).wf = true) (hf : First w) (ht : Table w) :
    Calls Tryd.prog 4 #[.string s, .int .i64 i, .int .i64 c] w fun e w' => e = .returned (.bool true) ∧ Below w.heap.size w w' := by
  have HT := hide (show Tab w from ⟨hf, ht⟩)
  have HM := hide hs
  clear hf ht hi hc
  unfold maxLen at hs
  by_cases h : 1048576 < s.size
  · go_enter Tryd.func4, Tryd.ntmps4
    go_wp2_with fail
    go_ret
    exact ⟨rfl, Below.refl _ _⟩
  · obtain ⟨x, k, hx⟩ := chOut_form s i c
    go_enter Tryd.func4, Tryd.ntmps4
    go_wp2_with fail
    refine (specChain_any s i c w (by omega)).mono ?_
    rintro e w1 ⟨rfl, hb1⟩
    rw [hx]
    have B1 := hide hb1
    clear hb1
    go_wp2_with fail
    refine (implChain_any s i c w1 (unhide HM) ((unhide HT).below (unhide B1))).mono ?_
    rintro e w2 ⟨rfl, hb2⟩
    rw [hx]
    have B2 := hide ((unhide B1).trans (hb2.mono (unhide B1).size))
    clear hb2 hx
    go_wp2_with fail
    go_ret
    exact ⟨rfl, unhide B2⟩

theorem vars_of_laid {W : World} (h : laidMetH Tryd.prog Rows.fnExactChainRow.laid W) :
    W.var? Tryd.prog "loop.example/g00220/impl.firstWords" = some firstCells ∧ W.var? Tryd.prog "loop.example/g00220/impl.roundWords" = some roundCells := by
  rw [MakeChecks.laidMetH_plain _ _ _ (by kernel_rfl)] at h
  obtain ⟨ps, ⟨g0, t0, cs0, f0, p0, q0, hg0, ht0, hv0, hd0, ⟨g1, t1, cs1, f1, p1, q1, hg1, ht1, hv1, hd1, _, _⟩, _⟩, _, _⟩ := h
  obtain rfl := Option.some.inj (gFirst.symm.trans hg0)
  obtain rfl := Option.some.inj (gRound.symm.trans hg1)
  obtain rfl := Option.some.inj (gFirstType.symm.trans ht0)
  obtain rfl := Option.some.inj (gRoundType.symm.trans ht1)
  have e0 := Lib.cells_of_tab (k := .u32) (cs := cs0.toList) (zs := iL.map fun (n : Nat) => (n : Int)) Tryd.underlying118 Tryd.underlying113 cellsE cellsA hd0
  have e1 := Lib.cells_of_tab (k := .u32) (cs := cs1.toList) (zs := kL.map fun (n : Nat) => (n : Int)) Tryd.underlying122 Tryd.underlying113 cellsE cellsB hd1
  have a0 : cs0 = firstCells := by
    have : cs0.toList = firstCells.toList := e0.trans (by kernel_rfl)
    exact Array.toList_inj.1 this
  have a1 : cs1 = roundCells := by
    have : cs1.toList = roundCells.toList := e1.trans (by kernel_rfl)
    exact Array.toList_inj.1 this
  exact ⟨by rw [hv0, a0], by rw [hv1, a1]⟩
theorem door_met (os : Os) (args : Array Value) : laidMetH Tryd.prog Rows.fnExactChainRow.laid ((World.doorLaid Tryd.prog 19 os).forCall (fun _ _ => 0) ⟨#[], args, []⟩).memory :=
  laidMetH_of_parts3 (fuel := 8) (laidMet_of_run' 8 (by kernel_rfl) (by kernel_rfl)) (by kernel_rfl) (by kernel_rfl)
set_option maxRecDepth 100000 in
theorem lifted (os : Os) (started : os.Started) (H : Type) (enc : TypeId × Value → H) :
    ReturnsInHanded {} Tryd.checked os 4 .any (fun w args => (Rows.fnExactChainSpec.pre enc Tryd.prog Tryd.f4 [] false w args ∧ laidMetH Tryd.prog Rows.fnExactChainRow.laid w) ∧ sizedMet enc Tryd.prog Tryd.f4 (OpenSpec.ofChange Rows.fnExactChainSpec) false w args)
      (Rows.fnExactChainSpec.post enc Tryd.prog Tryd.f4 false true false false) := by
  refine returnsInHanded_of_change_and (C := Tryd.checked) (X := fun w _ => laidMetH Tryd.prog Rows.fnExactChainRow.laid w) (fun _ _ _ hh h => h.of_heap hh) own started (by kernel_rfl) Tryd.func4
    (ChangeSpec.witness_shaped (enc := enc) (C := Tryd.checked) (os := os) (X := fun w _ => laidMetH Tryd.prog Rows.fnExactChainRow.laid w) false (World.doorLaid Tryd.prog 19 os) #[.string ByteArray.empty, .int .i64 0, .int .i64 0] 8 rfl (World.shaped_of_RefB (by kernel_rfl) (by kernel_rfl)) (by kernel_rfl) (by kernel_rfl) (by kernel_rfl) (door_met os _)) ?_
  intro W base args ds gs before hval0 hW _ _ hL _
  have hval : ∀ (j : Nat) t v, Tryd.f4.params[j]? = some t → args[j]? = some v → Value.okWide Tryd.prog W .any base t v := hval0
  have hW' := hW
  obtain ⟨p, q, hA0, hV0, rfl, hfz, hnd⟩ := hW
  have hA : DataW.TrodAll enc Tryd.prog W 0 (fun _ => true) true Tryd.f4.params.toList args.toList ds p := hA0
  have hV : DataW.TrodVars enc Tryd.prog W (fun _ => true) ["loop.example/g00220/impl.firstWords", "loop.example/g00220/impl.roundWords"] gs q := hV0
  rw [Tryd.params4] at hA hval
  obtain ⟨v0, vs0, d0, ds0, p0, q0, hargs, rfl, rfl, h0, r0⟩ := trodAll_cons hA
  obtain ⟨v1, vs1, d1, ds1, p1, q1, rfl, rfl, rfl, h1, r1⟩ := trodAll_cons r0
  obtain ⟨v2, vs2, d2, ds2, p2, q2, rfl, rfl, rfl, h2, r2⟩ := trodAll_cons r1
  obtain ⟨rfl, rfl, rfl⟩ := trodAll_nil r2
  obtain rfl : args = #[v0, v1, v2] := by cases args; simp_all
  have k0 := h0
  have lt0 : ∀ x ∈ p0, x.block < W.heap.size := by obtain ⟨m, hm⟩ := k0; exact DataW.trod_lt m _ _ _ hm
  obtain ⟨a0, rfl, _, _, w0⟩ := open_string Tryd.underlying9 (hval 0 9 v0 rfl rfl) h0
  have k1 := h1
  have lt1 : ∀ x ∈ p1, x.block < W.heap.size := by obtain ⟨m, hm⟩ := k1; exact DataW.trod_lt m _ _ _ hm
  obtain ⟨a1, rfl, _, _, w1⟩ := open_int Tryd.underlying3 (hval 1 3 v1 rfl rfl) h1
  have k2 := h2
  have lt2 : ∀ x ∈ p2, x.block < W.heap.size := by obtain ⟨m, hm⟩ := k2; exact DataW.trod_lt m _ _ _ hm
  obtain ⟨a2, rfl, _, _, w2⟩ := open_int Tryd.underlying3 (hval 2 3 v2 rfl rfl) h2
  obtain ⟨hv1, hv2⟩ := vars_of_laid hL
  clear hA0 hV0 hval0
  refine (walk a0 a1 a2 W w0 w1 w2 (first_of hv1) (table_of hv2)).mono fun e W' ⟨he, bel⟩ => ?_
  subst he
  obtain ⟨rfl, pv, hvs⟩ := vars_again (sp := fun b => decide (b < W.heap.size)) hv1 hv2 hV bel
  exact ⟨_, rfl, _, _, _, [], _, pv, hW', trodAll_mk1 (shut_bool Tryd.underlying4 _), (trodAll_cons_mk (Below.trod laidOut (by kernel_rfl) (of_decide_eq_true (by kernel_rfl)) k0 bel lt0) (trodAll_cons_mk (Below.trod laidOut (by kernel_rfl) (of_decide_eq_true (by kernel_rfl)) k1 bel lt1) (trodAll_cons_mk (Below.trod laidOut (by kernel_rfl) (of_decide_eq_true (by kernel_rfl)) k2 bel lt2) trodAll_mk0))), hvs, bel.frame _, fun h => by cases h⟩

theorem said : Rows.FnExactChainSaid :=
  OpenClaim.holds_of_wide 4 Tryd.f4 rfl rfl rfl rfl rfl rfl rfl ⟨rfl, rfl, rfl, rfl, rfl⟩ rfl rfl rfl rfl rfl (by kernel_rfl) Tryd.func4 (by kernel_rfl)
    (of_decide_eq_true (by kernel_rfl)) (by unfold Func.isWrapper; first | (rw [if_pos (by decide +kernel)]; kernel_rfl) | (rw [if_neg (by decide +kernel)]; exact ⟨rfl, rfl⟩))
    (fun os started H enc _ => lifted os started H enc)

theorem plain (f : FuncId) (fn : Func) (hf : Tryd.pinned.checked.prog.funcNamed "loop.example/g00220/laws.FnExactChain" = some f) (hfn : Tryd.pinned.checked.prog.funcs[f]? = some fn) :
    false = Tryd.pinned.checked.prog.looks [] ∧ ∀ (j : Nat) t, fn.params[j]? = some t → Tryd.pinned.checked.prog.wantsStandIn t = false := by
  obtain rfl : f = 4 := Option.some.inj ((show Tryd.prog.funcNamed "loop.example/g00220/laws.FnExactChain" = some 4 by kernel_rfl).symm.trans hf) |>.symm
  obtain rfl : fn = Tryd.f4 := (Option.some.inj (Tryd.func4.symm.trans hfn)).symm
  refine ⟨by kernel_rfl, fun j t ht => ?_⟩
  rw [Tryd.params4] at ht
  have hmem : t = 9 ∨ t = 3 := by
    have := Array.mem_of_getElem? ht
    simp at this
    omega
  rcases hmem with rfl | rfl
  · exact (show Tryd.prog.wantsStandIn 9 = false by kernel_rfl)
  · exact (show Tryd.prog.wantsStandIn 3 = false by kernel_rfl)
end Go.Proofs.YtcmdilmjdnbfkaaDoor.fnExactChain
namespace Go.Proofs.YtcmdilmjdnbfkaaDoor
theorem fnExactChain_card : Rows.FnExactChainCardSaid :=
  Claim7.holds_tied_plain_at .later [] _ _ _ _ fnExactChain.said (fun _ h => by cases h) (by kernel_rfl) (fun _ h => by cases h) fnExactChain_row_tie rfl ⟨rfl, rfl⟩ (by kernel_rfl) rfl fnExactChain.plain (by kernel_rfl)
#print axioms fnExactChain_card
end Go.Proofs.YtcmdilmjdnbfkaaDoor
