/- For every two numbers, every text and every list of texts that can be read, laws.FnExactConsistencyRoots returns true, the list reads as it did, and so do the two tables of words, which the card ties to the program's text. Condition: the listed tables start as the program's text lays them. -/
import Derived.Test.YthabemlcabmmaaaDoorMkQ
import Derived.Test.YthabemlcabmmaaaDoorStrL
import Derived.Test.YthabemlcabmmaaaDoorLawG
import Derived.Test.YthabemlcabmmaaaDoorCards
import Derived.Test.YthabemlcabmmaaaDoorTie
namespace Go.Proofs.YthabemlcabmmaaaDoor.fnExactConsistencyRoots
open Go.ChangeShapes Go.WideShapes Go.ChangeAt Go.RowKit Sha
open Go.ChangeMaps (open_string shut_string)
set_option linter.unusedVariables false

set_option maxRecDepth 100000 in
set_option maxHeartbeats 2000000 in
theorem walk (p n : Int) (leaf : ByteArray) (v : Value) (l : List ByteArray) (w : World) (hp : (Lit.int .i64 p).wf = true) (hn : (Lit.int .i64 n).wf = true) (hlz : leaf.size ≤ maxLen) (hs : Strs w v l) (hz : ∀ i, i < l.length → (l.getD i ByteArray.empty).size ≤ maxLen) (hf : First w) (ht : Table w) :
    Calls Tryd.prog 8 #[.int .i64 p, .int .i64 n, .string leaf, v] w fun e w' => e = .returned (.bool true) ∧ Below w.heap.size w w' := by
  have HT := hide (show Tab w from ⟨hf, ht⟩)
  have HS := hide hs
  have HM := hide (szStringS_any 1048576 (by omega) (by omega) v l w hs hz)
  have HR := hide (sszR_cases 1048576 l)
  have HQ := hide (ssmall_of 1048576 (by omega) l)
  unfold maxLen at hlz
  by_cases hl : 1048576 < leaf.size
  · clear hf ht hz hs hp hn
    go_enter Tryd.func8, Tryd.ntmps8
    go_wp2_with fail
    go_ret
    exact ⟨rfl, Below.refl _ _⟩
  have HSP := hide (fun b off cap wx hx hy => specCR_any p n leaf l b off cap wx (by omega) hx hy)
  have HIM := hide (fun b off cap wx hx hy hz => implCR_any p n leaf l b off cap wx (by omega) hx hy hz)
  clear hf ht hz hs hp hn
  generalize (crOut p n leaf l).1.1 = x at *
  generalize (crOut p n leaf l).1.2 = y at *
  generalize (crOut p n leaf l).2 = c at *
  generalize sszR 1048576 l = r at *
  go_enter Tryd.func8, Tryd.ntmps8
  go_wp2_with fail
  refine (unhide HM).mono ?_
  rintro e w1 ⟨rfl, hb1⟩
  have B1 := hide hb1
  clear hb1
  rcases unhide HR with hr | ⟨hr, _⟩
  · subst hr
    go_wp2_with fail
    go_ret
    exact ⟨rfl, unhide B1⟩
  have HSM := hide (unhide HQ hr)
  have hr2 : ¬ r < 0 := by omega
  go_wp2_with fail
  refine (toStringS_any v l w1 ((unhide HS).below (unhide B1)) (unhide HSM).1).mono ?_
  rintro e w2 ⟨rfl, hO2, hz2, hb2⟩
  have B2 := hide ((unhide B1).trans (hb2.mono (unhide B1).size))
  have O2 := hide (SA.own hO2)
  clear hO2 hz2 hb2
  go_wp2_with fail
  refine (unhide HSP _ _ _ w2 (unhide O2) (unhide HSM).2).mono ?_
  rintro e w3 ⟨rfl, hb3⟩
  have B3 := hide ((unhide B2).trans (hb3.mono (unhide B2).size))
  clear hb3 O2 B2
  go_wp2_with fail
  refine (toStringS_any v l w3 ((unhide HS).below (unhide B3)) (unhide HSM).1).mono ?_
  rintro e w4 ⟨rfl, hO4, hz4, hb4⟩
  have B4 := hide ((unhide B3).trans (hb4.mono (unhide B3).size))
  have O4 := hide hO4
  clear hO4 hz4 hb4
  go_wp2_with fail
  refine (unhide HIM _ _ _ w4 (SA.own (unhide O4)) (unhide HSM).2 ((unhide HT).below (unhide B4))).mono ?_
  rintro e w5 ⟨rfl, hb5⟩
  have B5 := hide ((unhide B4).trans (hb5.mono (unhide B4).size))
  have O5 := hide ((unhide O4).below hb5)
  clear hb5 O4 B4
  go_wp2_with fail
  refine (toStringS_any v l w5 ((unhide HS).below (unhide B5)) (unhide HSM).1).mono ?_
  rintro e w6 ⟨rfl, hO6, hz6, hb6⟩
  have B6 := hide ((unhide B5).trans (hb6.mono (unhide B5).size))
  have O6 := hide hO6
  have O6' := hide ((unhide O5).below hb6)
  clear hO6 hz6 hb6 O5 B5
  go_wp2_with fail
  refine (eqStringS_any _ _ l w6 (unhide O6').strs (unhide O6).strs (unhide HSM).1).mono ?_
  rintro e w7 ⟨rfl, n, hw7⟩
  subst w7
  go_wp2_with fail
  go_ret
  exact ⟨rfl, below_drewN (unhide B6) n⟩

theorem vars_of_laid {W : World} (h : laidMetH Tryd.prog Rows.fnExactConsistencyRootsRow.laid W) :
    W.var? Tryd.prog "loop.example/g00220/impl.firstWords" = some firstCells ∧ W.var? Tryd.prog "loop.example/g00220/impl.roundWords" = some roundCells := by
  rw [MakeChecks.laidMetH_plain _ _ _ (by kernel_rfl)] at h
  obtain ⟨ps, ⟨g0, t0, cs0, f0, p0, q0, hg0, ht0, hv0, hd0, ⟨g1, t1, cs1, f1, p1, q1, hg1, ht1, hv1, hd1, _, _⟩, _⟩, _, _⟩ := h
  obtain rfl := Option.some.inj (gFirst.symm.trans hg0)
  obtain rfl := Option.some.inj (gRound.symm.trans hg1)
  obtain rfl := Option.some.inj (gFirstType.symm.trans ht0)
  obtain rfl := Option.some.inj (gRoundType.symm.trans ht1)
  have e0 := Lib.cells_of_tab (k := .u32) (cs := cs0.toList) (zs := iL.map fun (n : Nat) => (n : Int)) Tryd.underlying149 Tryd.underlying148 cellsE cellsA hd0
  have e1 := Lib.cells_of_tab (k := .u32) (cs := cs1.toList) (zs := kL.map fun (n : Nat) => (n : Int)) Tryd.underlying153 Tryd.underlying148 cellsE cellsB hd1
  have a0 : cs0 = firstCells := by
    have : cs0.toList = firstCells.toList := e0.trans (by kernel_rfl)
    exact Array.toList_inj.1 this
  have a1 : cs1 = roundCells := by
    have : cs1.toList = roundCells.toList := e1.trans (by kernel_rfl)
    exact Array.toList_inj.1 this
  exact ⟨by rw [hv0, a0], by rw [hv1, a1]⟩
theorem door_met (os : Os) (args : Array Value) : laidMetH Tryd.prog Rows.fnExactConsistencyRootsRow.laid ((World.doorLaid Tryd.prog 19 os).forCall (fun _ _ => 0) ⟨#[], args, []⟩).memory :=
  laidMetH_of_parts3 (fuel := 8) (laidMet_of_run' 8 (by kernel_rfl) (by kernel_rfl)) (by kernel_rfl) (by kernel_rfl)
set_option maxRecDepth 100000 in
theorem lifted (os : Os) (started : os.Started) (H : Type) (enc : TypeId × Value → H) :
    ReturnsInHanded {} Tryd.checked os 8 .any (fun w args => (Rows.fnExactConsistencyRootsSpec.pre enc Tryd.prog Tryd.f8 [] false w args ∧ laidMetH Tryd.prog Rows.fnExactConsistencyRootsRow.laid w) ∧ sizedMet enc Tryd.prog Tryd.f8 (OpenSpec.ofChange Rows.fnExactConsistencyRootsSpec) false w args)
      (Rows.fnExactConsistencyRootsSpec.post enc Tryd.prog Tryd.f8 false true false false) := by
  refine returnsInHanded_of_change_and (C := Tryd.checked) (X := fun w _ => laidMetH Tryd.prog Rows.fnExactConsistencyRootsRow.laid w) (fun _ _ _ hh h => h.of_heap hh) own started (by kernel_rfl) Tryd.func8
    (ChangeSpec.witness_shaped (enc := enc) (C := Tryd.checked) (os := os) (X := fun w _ => laidMetH Tryd.prog Rows.fnExactConsistencyRootsRow.laid w) false (World.doorLaid Tryd.prog 19 os) #[.int .i64 0, .int .i64 0, .string ByteArray.empty, .slice none 0 0] 8 rfl (World.shaped_of_RefB (by kernel_rfl) (by kernel_rfl)) (by kernel_rfl) (by kernel_rfl) (by kernel_rfl) (door_met os _)) ?_
  intro W base args ds gs before hval0 hW _ _ hL _
  have hval : ∀ (j : Nat) t v, Tryd.f8.params[j]? = some t → args[j]? = some v → Value.okWide Tryd.prog W .any base t v := hval0
  have hW' := hW
  obtain ⟨p, q, hA0, hV0, rfl, hfz, hnd⟩ := hW
  have hA : DataW.TrodAll enc Tryd.prog W 0 (fun _ => true) true Tryd.f8.params.toList args.toList ds p := hA0
  have hV : DataW.TrodVars enc Tryd.prog W (fun _ => true) ["loop.example/g00220/impl.firstWords", "loop.example/g00220/impl.roundWords"] gs q := hV0
  rw [Tryd.params8] at hA hval
  obtain ⟨v0, vs0, d0, ds0, p0, q0, hargs, rfl, rfl, h0, r0⟩ := trodAll_cons hA
  obtain ⟨v1, vs1, d1, ds1, p1, q1, rfl, rfl, rfl, h1, r1⟩ := trodAll_cons r0
  obtain ⟨v2, vs2, d2, ds2, p2, q2, rfl, rfl, rfl, h2, r2⟩ := trodAll_cons r1
  obtain ⟨v3, vs3, d3, ds3, p3, q3, rfl, rfl, rfl, h3, r3⟩ := trodAll_cons r2
  obtain ⟨rfl, rfl, rfl⟩ := trodAll_nil r3
  obtain rfl : args = #[v0, v1, v2, v3] := by cases args; simp_all
  have k0 := h0
  have lt0 : ∀ x ∈ p0, x.block < W.heap.size := by obtain ⟨m, hm⟩ := k0; exact DataW.trod_lt m _ _ _ hm
  obtain ⟨a0, rfl, _, _, w0⟩ := open_int Tryd.underlying3 (hval 0 3 v0 rfl rfl) h0
  have k1 := h1
  have lt1 : ∀ x ∈ p1, x.block < W.heap.size := by obtain ⟨m, hm⟩ := k1; exact DataW.trod_lt m _ _ _ hm
  obtain ⟨a1, rfl, _, _, w1⟩ := open_int Tryd.underlying3 (hval 1 3 v1 rfl rfl) h1
  have k2 := h2
  have lt2 : ∀ x ∈ p2, x.block < W.heap.size := by obtain ⟨m, hm⟩ := k2; exact DataW.trod_lt m _ _ _ hm
  obtain ⟨a2, rfl, _, _, w2⟩ := open_string Tryd.underlying9 (hval 2 9 v2 rfl rfl) h2
  have k3 := h3
  have lt3 : ∀ x ∈ p3, x.block < W.heap.size := by obtain ⟨m, hm⟩ := k3; exact DataW.trod_lt m _ _ _ hm
  obtain ⟨l3, hf3, hz3⟩ := open_texts (hval 3 25 v3 rfl rfl) h3
  obtain ⟨hvA, hvB⟩ := vars_of_laid hL
  clear hA0 hV0 hval0
  refine (walk a0 a1 a2 v3 l3 W w0 w1 w2 hf3 hz3 (first_of hvA) (table_of hvB)).mono fun e W' ⟨he, bel⟩ => ?_
  subst he
  obtain ⟨rfl, pv, hvs⟩ := vars_again (sp := fun b => decide (b < W.heap.size)) hvA hvB hV bel
  exact ⟨_, rfl, _, _, _, [], _, pv, hW', trodAll_mk1 (shut_bool Tryd.underlying4 _), (trodAll_cons_mk (Below.trod laidOut (by kernel_rfl) (of_decide_eq_true (by kernel_rfl)) k0 bel lt0) (trodAll_cons_mk (Below.trod laidOut (by kernel_rfl) (of_decide_eq_true (by kernel_rfl)) k1 bel lt1) (trodAll_cons_mk (Below.trod laidOut (by kernel_rfl) (of_decide_eq_true (by kernel_rfl)) k2 bel lt2) (trodAll_cons_mk (Below.trod laidOut (by kernel_rfl) (of_decide_eq_true (by kernel_rfl)) k3 bel lt3) trodAll_mk0)))), hvs, bel.frame _, fun h => by cases h⟩

theorem said : Rows.FnExactConsistencyRootsSaid :=
  OpenClaim.holds_of_wide 8 Tryd.f8 rfl rfl rfl rfl rfl rfl rfl ⟨rfl, rfl, rfl, rfl, rfl⟩ rfl rfl rfl rfl rfl (by kernel_rfl) Tryd.func8 (by kernel_rfl)
    (of_decide_eq_true (by kernel_rfl)) (by unfold Func.isWrapper; first | (rw [if_pos (by decide +kernel)]; kernel_rfl) | (rw [if_neg (by decide +kernel)]; exact ⟨rfl, rfl⟩))
    (fun os started H enc _ => lifted os started H enc)

theorem plain (f : FuncId) (fn : Func) (hf : Tryd.pinned.checked.prog.funcNamed "loop.example/g00220/laws.FnExactConsistencyRoots" = some f) (hfn : Tryd.pinned.checked.prog.funcs[f]? = some fn) :
    false = Tryd.pinned.checked.prog.looks [] ∧ ∀ (j : Nat) t, fn.params[j]? = some t → Tryd.pinned.checked.prog.wantsStandIn t = false := by
  obtain rfl : f = 8 := Option.some.inj ((show Tryd.prog.funcNamed "loop.example/g00220/laws.FnExactConsistencyRoots" = some 8 by kernel_rfl).symm.trans hf) |>.symm
  obtain rfl : fn = Tryd.f8 := (Option.some.inj (Tryd.func8.symm.trans hfn)).symm
  refine ⟨by kernel_rfl, fun j t ht => ?_⟩
  rw [Tryd.params8] at ht
  have hmem : t = 3 ∨ t = 9 ∨ t = 25 := by
    have := Array.mem_of_getElem? ht
    simp only [List.mem_toArray, List.mem_cons, List.not_mem_nil, or_false] at this
    rcases this with h | h | h | h
    all_goals (subst h; simp)
  rcases hmem with rfl | rfl | rfl
  · exact (show Tryd.prog.wantsStandIn 3 = false by kernel_rfl)
  · exact (show Tryd.prog.wantsStandIn 9 = false by kernel_rfl)
  · exact (show Tryd.prog.wantsStandIn 25 = false by kernel_rfl)
end Go.Proofs.YthabemlcabmmaaaDoor.fnExactConsistencyRoots
namespace Go.Proofs.YthabemlcabmmaaaDoor
theorem fnExactConsistencyRoots_card : Rows.FnExactConsistencyRootsCardSaid :=
  Claim7.holds_tied_plain_at .later [] _ _ _ _ fnExactConsistencyRoots.said (fun _ h => by cases h) (by kernel_rfl) (fun _ h => by cases h) fnExactConsistencyRoots_row_tie rfl ⟨rfl, rfl⟩ (by kernel_rfl) rfl fnExactConsistencyRoots.plain (by kernel_rfl)
#print axioms fnExactConsistencyRoots_card
end Go.Proofs.YthabemlcabmmaaaDoor
