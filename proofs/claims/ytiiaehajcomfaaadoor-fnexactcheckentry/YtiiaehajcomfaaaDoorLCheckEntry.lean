/- For every trust, text, number and list of texts that can be read, laws.FnExactCheckEntry returns true, the list reads as it did, and so do the two tables of words, which the card ties to the program's text. Condition: the listed variables start as the program's text lays them. -/
import Derived.Test.YtiiaehajcomfaaaDoorChkS
import Derived.Test.YtiiaehajcomfaaaDoorStrL
import Derived.Test.YtiiaehajcomfaaaDoorLawG
import Derived.LaidHandle
import Derived.Test.YtiiaehajcomfaaaDoorCards
import Derived.Test.YtiiaehajcomfaaaDoorTie
namespace Go.Proofs.YtiiaehajcomfaaaDoor.fnExactCheckEntry
open Go.ChangeShapes Go.WideShapes Go.ChangeAt Go.RowKit Sha
open Go.ChangeMaps (open_string shut_string)
set_option linter.unusedVariables false

set_option maxRecDepth 100000 in
set_option maxHeartbeats 4000000 in
theorem walk (ky : ByteArray) (hs : Bool) (z : Int) (lg mp d : ByteArray) (p : Int) (va : Value) (pr : List ByteArray) (w : World) (wz : (Lit.int .i64 z).wf = true) (hk : ky.size ≤ maxLen) (hl : lg.size ≤ maxLen) (hm : mp.size ≤ maxLen) (hd : d.size ≤ maxLen) (wp : (Lit.int .i64 p).wf = true) (hsa : Strs w va pr) (hza : ∀ i, i < pr.length → (pr.getD i ByteArray.empty).size ≤ maxLen) (hf : First w) (ht : Table w) (hg : ErrT w) :
    Calls Tryd.prog 5 #[.agg #[.string ky, .bool hs, .int .i64 z, .string lg, .string mp], .string d, .int .i64 p, va] w fun e w' => e = .returned (.bool true) ∧ Below w.heap.size w w' := by
  have HT := hide (show Tab w from ⟨hf, ht⟩)
  have HG := hide hg
  have HSA := hide hsa
  have B0 := hide ((Below.refl w.heap.size w).alloc (Nat.le_refl _) (.cells #[.string ky, .bool hs, .int .i64 z, .string lg, .string mp] 35))
  have X0 := hide (Blk.new w #[.string ky, .bool hs, .int .i64 z, .string lg, .string mp] 35 w.heap.size rfl)
  have HM2 := hide (fun L h0 h1 wx (hb : Below w.heap.size w wx) => szStringS_any L h0 h1 va pr wx (hsa.below hb) hza)
  have HR2 := hide (fun L => sszR_cases L pr)
  have HQ2 := hide (fun L hL => ssmall_of L hL pr)
  have HY := hide (fun h wx => szTrust_yes hs z 1048576 ky lg mp wx (by omega) (by omega) h)
  have HN := hide (fun h wx => szTrust_no hs z 1048576 ky lg mp wx (by omega) (by omega) hk hl hm h)
  have HTO := hide (fun wx => toTrust_any hs z ky lg mp wx)
  have HSP := hide (fun h b off cap wx h1 h2 => specCheckEntry_any ky hs z lg mp d p pr b off cap wx hk hl hm h wz h1 h2)
  have HIM := hide (fun h h4 b off cap wx h1 h2 h3 h5 => implCheckEntry_any ky hs z lg mp d p pr b off cap wx hk h4 hm h wz h1 h2 h3 h5)
  unfold maxLen at hd
  by_cases hbig : 1048576 < d.size
  · clear hf ht hza hsa wz wp hk hl hm
    go_enter Tryd.func5, Tryd.ntmps5
    go_wp2_with fail
    go_ret
    exact ⟨rfl, unhide B0⟩
  clear hf ht hza hsa wz wp hk hl hm hg
  have hbig2 : ¬ (1048576 : Int) < (d.size : Int) := by omega
  by_cases h : (ky.size : Int) + (lg.size : Int) + (mp.size : Int) ≤ 1048576
  case neg =>
    have HN := hide (unhide HN (by omega))
    go_enter Tryd.func5, Tryd.ntmps5
    go_wp2_with fail
    refine (unhide HN _).mono ?_
    rintro e w1 ⟨rfl, hb1⟩
    have B1 := hide ((unhide B0).trans (hb1.mono (by simp)))
    clear hb1
    go_wp2_with fail
    go_ret
    exact ⟨rfl, unhide B1⟩
  have HY := hide (unhide HY h)
  have HSP := hide (unhide HSP (by omega))
  have HIM := hide (unhide HIM (by omega) (by omega))
  have hr0 : 0 ≤ 1048576 - (ky.size : Int) - (lg.size : Int) - (mp.size : Int) := by omega
  have hr1 : 1048576 - (ky.size : Int) - (lg.size : Int) - (mp.size : Int) ≤ 1048576 := by omega
  have hr : ¬ (1048576 - (ky.size : Int) - (lg.size : Int) - (mp.size : Int)) < 0 := by omega
  generalize ckOut ky hs z lg mp d p pr = out at *
  clear h
  go_enter Tryd.func5, Tryd.ntmps5
  go_wp2_with fail
  generalize w.alloc (.cells #[.string ky, .bool hs, .int .i64 z, .string lg, .string mp] 35) = w0 at *
  refine (unhide HY _).mono ?_
  rintro e w1 ⟨rfl, hb1⟩
  have B1 := hide ((unhide B0).trans (hb1.mono (unhide B0).size))
  have X1 := hide ((unhide X0).below hb1)
  clear hb1 B0 X0 HN HY
  generalize (1048576 - (ky.size : Int) - (lg.size : Int) - (mp.size : Int)) = r at *
  have HMM := hide (unhide HM2 r hr0 hr1 w1 (unhide B1))
  have HRR := hide (unhide HR2 r)
  have HQQ := hide (unhide HQ2 r hr1)
  clear HM2 HR2 HQ2
  generalize sszR r pr = s at *
  go_wp2_with fail
  refine (unhide HMM).mono ?_
  rintro e w2 ⟨rfl, hb2⟩
  have B2 := hide ((unhide B1).trans (hb2.mono (unhide B1).size))
  have X2 := hide ((unhide X1).below hb2)
  clear hb2 HMM B1 X1
  rcases unhide HRR with hs' | ⟨hs', hs1⟩
  · subst hs'
    go_wp2_with fail
    go_ret
    exact ⟨rfl, unhide B2⟩
  have HSN := hide (unhide HQQ hs')
  have hs2 : ¬ s < 0 := by omega
  have c0 := (unhide X2).cell 0 rfl
  have c1 := (unhide X2).cell 1 rfl
  have c2 := (unhide X2).cell 2 rfl
  have c3 := (unhide X2).cell 3 rfl
  have c4 := (unhide X2).cell 4 rfl
  clear HRR HQQ
  go_wp2_with fail
  refine (unhide HTO _).mono ?_
  rintro e w3 ⟨rfl, hb3⟩
  have B3 := hide ((unhide B2).trans (hb3.mono (unhide B2).size))
  have X3 := hide ((unhide X2).below hb3)
  clear hb3 c0 c1 c2 c3 c4 B2 X2
  go_wp2_with fail
  refine (toStringS_any va pr w3 ((unhide HSA).below (unhide B3)) (unhide HSN).1).mono ?_
  rintro e w4 ⟨rfl, hO4, hz4, hb4⟩
  have B4 := hide ((unhide B3).trans (hb4.mono (unhide B3).size))
  have X4 := hide ((unhide X3).below hb4)
  have O4 := hide (SA.own hO4)
  clear hO4 hz4 hb4 B3 X3
  go_wp2_with fail
  refine (unhide HSP _ _ _ w4 (unhide O4) (unhide HSN).2).mono ?_
  rintro e w5 ⟨rfl, hb5⟩
  have B5 := hide ((unhide B4).trans (hb5.mono (unhide B4).size))
  have X5 := hide ((unhide X4).below hb5)
  clear hb5 B4 X4 O4 HSP
  go_wp2_with fail
  refine (toStringS_any va pr w5 ((unhide HSA).below (unhide B5)) (unhide HSN).1).mono ?_
  rintro e w6 ⟨rfl, hO6, hz6, hb6⟩
  have B6 := hide ((unhide B5).trans (hb6.mono (unhide B5).size))
  have X6 := hide ((unhide X5).below hb6)
  have O6 := hide hO6
  have c0 := (unhide X6).cell 0 rfl
  have c1 := (unhide X6).cell 1 rfl
  have c2 := (unhide X6).cell 2 rfl
  have c3 := (unhide X6).cell 3 rfl
  have c4 := (unhide X6).cell 4 rfl
  clear hO6 hz6 hb6 B5 X5
  go_wp2_with fail
  refine (unhide HTO _).mono ?_
  rintro e w7 ⟨rfl, hb7⟩
  have B7 := hide ((unhide B6).trans (hb7.mono (unhide B6).size))
  have O7 := hide ((unhide O6).below hb7)
  clear hb7 c0 c1 c2 c3 c4 B6 X6 O6
  go_wp2_with fail
  refine (unhide HIM _ _ _ w7 (SA.own (unhide O7)) (unhide HSN).2 ((unhide HT).below (unhide B7)) ((unhide HG).below (unhide B7))).mono ?_
  rintro e w8 ⟨rfl, hb8⟩
  have B8 := hide ((unhide B7).trans (hb8.mono (unhide B7).size))
  have O8 := hide ((unhide O7).below hb8)
  clear hb8 B7 O7 HIM
  go_wp2_with fail
  refine (toStringS_any va pr w8 ((unhide HSA).below (unhide B8)) (unhide HSN).1).mono ?_
  rintro e w9 ⟨rfl, hO9, hz9, hb9⟩
  have B9 := hide ((unhide B8).trans (hb9.mono (unhide B8).size))
  have Q9 := hide hO9
  have O9 := hide ((unhide O8).below hb9)
  clear hO9 hz9 hb9 B8 O8
  go_wp2_with fail
  refine (eqStringS_any _ _ pr w9 (unhide O9).strs (unhide Q9).strs (unhide HSN).1).mono ?_
  rintro e w10 ⟨rfl, m1, hw10⟩
  have B10 := hide (below_drewN (unhide B9) m1)
  rw [← hw10] at B10
  clear hw10 B9 O9 Q9
  go_wp2_with fail
  go_ret
  exact ⟨rfl, unhide B10⟩

theorem vars_of_laid {W : World} (h : laidMetH Tryd.prog Rows.fnExactCheckEntryRow.laid W) :
    (W.var? Tryd.prog "loop.example/g00220/impl.firstWords" = some firstCells ∧ W.var? Tryd.prog "loop.example/g00220/impl.roundWords" = some roundCells) ∧ W.cell? ⟨0, 0, none⟩ = some (.iface 151 (.agg #[.pointer (some ⟨11, 65, none⟩)])) := by
  have h' : laidMet Tryd.prog [("loop.example/g00220/impl.firstWords", Rows.laid_loop_example_g00220_impl_firstWords), ("loop.example/g00220/impl.roundWords", Rows.laid_loop_example_g00220_impl_roundWords)] W ∧ handlesMet Tryd.prog [("errors.errorType", Rows.laid_errors_errorType)] W := h
  constructor
  · obtain ⟨ps, ⟨g0, t0, cs0, f0, p0, q0, hg0, ht0, hv0, hd0, ⟨g1, t1, cs1, f1, p1, q1, hg1, ht1, hv1, hd1, _, _⟩, _⟩, _, _⟩ := h'.1
    obtain rfl := Option.some.inj (gFirst.symm.trans hg0)
    obtain rfl := Option.some.inj (gRound.symm.trans hg1)
    obtain rfl := Option.some.inj (gFirstType.symm.trans ht0)
    obtain rfl := Option.some.inj (gRoundType.symm.trans ht1)
    have e0 := Lib.cells_of_tab (k := .u32) (cs := cs0.toList) (zs := iL.map fun (n : Nat) => (n : Int)) Tryd.underlying163 Tryd.underlying114 cellsE cellsA hd0
    have e1 := Lib.cells_of_tab (k := .u32) (cs := cs1.toList) (zs := kL.map fun (n : Nat) => (n : Int)) Tryd.underlying167 Tryd.underlying114 cellsE cellsB hd1
    have a0 : cs0 = firstCells := by
      have : cs0.toList = firstCells.toList := e0.trans (by kernel_rfl)
      exact Array.toList_inj.1 this
    have a1 : cs1 = roundCells := by
      have : cs1.toList = roundCells.toList := e1.trans (by kernel_rfl)
      exact Array.toList_inj.1 this
    exact ⟨by rw [hv0, a0], by rw [hv1, a1]⟩
  · obtain ⟨name, u, ty, e1, e2, e3, e4, e5⟩ := h'.2 _ (List.mem_singleton.2 rfl)
    have en : name = [101, 114, 114, 111, 114] := (Option.some.inj e1).symm
    subst en
    have rt : (Tryd.prog.cutTypes.find? (·.1 == "internal/reflectlite.rtype")).map (·.2) = some 151 := by kernel_rfl
    have oneRow : ((List.range 225).filter fun t => Tryd.prog.rowNamed t [101, 114, 114, 111, 114]) = [65] := by kernel_rfl
    have size : Tryd.prog.types.size = 225 := by kernel_rfl
    have et : Tryd.prog.globalNamed "errors.errorType" = some 0 := by kernel_rfl
    have hh : typeHandle Tryd.prog 65 = .pointer (some ⟨11, 65, none⟩) := by kernel_rfl
    obtain rfl := Option.some.inj (rt.symm.trans e2)
    have hm : ty ∈ (List.range 225).filter fun t => Tryd.prog.rowNamed t [101, 114, 114, 111, 114] := List.mem_filter.2 ⟨List.mem_range.2 (by rw [← size]; exact e3), e4⟩
    rw [oneRow] at hm
    obtain rfl := List.mem_singleton.1 hm
    rw [hh] at e5
    simpa using World.var?_cell et e5 0
theorem door_met (os : Os) (args : Array Value) : laidMetH Tryd.prog Rows.fnExactCheckEntryRow.laid ((World.doorLaid Tryd.prog 89 os).forCall (fun _ _ => 0) ⟨#[], args, []⟩).memory :=
  laidMetH_of_parts3 (fuel := 8) (laidMet_of_run' 8 (by kernel_rfl) (by kernel_rfl)) (by kernel_rfl) (by kernel_rfl)
set_option maxRecDepth 100000 in
theorem lifted (os : Os) (started : os.Started) (H : Type) (enc : TypeId × Value → H) :
    ReturnsInHanded {} Tryd.checked os 5 .any (fun w args => (Rows.fnExactCheckEntrySpec.pre enc Tryd.prog Tryd.f5 [] false w args ∧ laidMetH Tryd.prog Rows.fnExactCheckEntryRow.laid w) ∧ sizedMet enc Tryd.prog Tryd.f5 (OpenSpec.ofChange Rows.fnExactCheckEntrySpec) false w args)
      (Rows.fnExactCheckEntrySpec.post enc Tryd.prog Tryd.f5 false true false false) := by
  refine returnsInHanded_of_change_and (C := Tryd.checked) (X := fun w _ => laidMetH Tryd.prog Rows.fnExactCheckEntryRow.laid w) (fun _ _ _ hh h => h.of_heap hh) own started (by kernel_rfl) Tryd.func5
    (ChangeSpec.witness_shaped (enc := enc) (C := Tryd.checked) (os := os) (X := fun w _ => laidMetH Tryd.prog Rows.fnExactCheckEntryRow.laid w) false (World.doorLaid Tryd.prog 89 os) #[.agg #[.string ByteArray.empty, .bool false, .int .i64 0, .string ByteArray.empty, .string ByteArray.empty], .string ByteArray.empty, .int .i64 0, .slice none 0 0] 8 rfl (World.shaped_of_RefB (by kernel_rfl) (by kernel_rfl)) (by kernel_rfl) (by kernel_rfl) (by kernel_rfl) (door_met os _)) ?_
  intro W base args ds gs before hval0 hW _ _ hL _
  have hval : ∀ (j : Nat) t v, Tryd.f5.params[j]? = some t → args[j]? = some v → Value.okWide Tryd.prog W .any base t v := hval0
  have hW' := hW
  obtain ⟨p, q, hA0, hV0, rfl, hfz, hnd⟩ := hW
  have hA : DataW.TrodAll enc Tryd.prog W 0 (fun _ => true) true Tryd.f5.params.toList args.toList ds p := hA0
  have hV : DataW.TrodVars enc Tryd.prog W (fun _ => true) ["loop.example/g00220/impl.firstWords", "loop.example/g00220/impl.roundWords"] gs q := hV0
  rw [Tryd.params5] at hA hval
  obtain ⟨v0, vs0, d0, ds0, p0, q0, hargs, rfl, rfl, h0, r0⟩ := trodAll_cons hA
  obtain ⟨v1, vs1, d1, ds1, p1, q1, rfl, rfl, rfl, h1, r1⟩ := trodAll_cons r0
  obtain ⟨v2, vs2, d2, ds2, p2, q2, rfl, rfl, rfl, h2, r2⟩ := trodAll_cons r1
  obtain ⟨v3, vs3, d3, ds3, p3, q3, rfl, rfl, rfl, h3, r3⟩ := trodAll_cons r2
  obtain ⟨rfl, rfl, rfl⟩ := trodAll_nil r3
  obtain rfl : args = #[v0, v1, v2, v3] := by cases args; simp_all
  have k0 := h0
  have lt0 : ∀ x ∈ p0, x.block < W.heap.size := by obtain ⟨m, hm⟩ := k0; exact DataW.trod_lt m _ _ _ hm
  obtain ⟨ky0, hs0, sz0, lg0, mp0, rfl, wz0, hk0, hl0, hm0⟩ := open_trust (hval 0 35 v0 rfl rfl) h0
  have k1 := h1
  have lt1 : ∀ x ∈ p1, x.block < W.heap.size := by obtain ⟨m, hm⟩ := k1; exact DataW.trod_lt m _ _ _ hm
  obtain ⟨a1, rfl, _, _, w1⟩ := open_string Tryd.underlying9 (hval 1 9 v1 rfl rfl) h1
  have k2 := h2
  have lt2 : ∀ x ∈ p2, x.block < W.heap.size := by obtain ⟨m, hm⟩ := k2; exact DataW.trod_lt m _ _ _ hm
  obtain ⟨a2, rfl, _, _, w2⟩ := open_int Tryd.underlying3 (hval 2 3 v2 rfl rfl) h2
  have k3 := h3
  have lt3 : ∀ x ∈ p3, x.block < W.heap.size := by obtain ⟨m, hm⟩ := k3; exact DataW.trod_lt m _ _ _ hm
  obtain ⟨l3, hf3, hz3⟩ := open_texts (hval 3 36 v3 rfl rfl) h3
  obtain ⟨⟨hvA, hvB⟩, hgE⟩ := vars_of_laid hL
  clear hA0 hV0 hval0
  refine (walk ky0 hs0 sz0 lg0 mp0 a1 a2 v3 l3 W wz0 hk0 hl0 hm0 w1 w2 hf3 hz3 (first_of hvA) (table_of hvB) hgE).mono fun e W' ⟨he, bel⟩ => ?_
  subst he
  obtain ⟨rfl, pv, hvs⟩ := vars_again (sp := fun b => decide (b < W.heap.size)) hvA hvB hV bel
  exact ⟨_, rfl, _, _, _, [], _, pv, hW', trodAll_mk1 (shut_bool Tryd.underlying4 _), (trodAll_cons_mk (Below.trod laidOut (by kernel_rfl) (of_decide_eq_true (by kernel_rfl)) k0 bel lt0) (trodAll_cons_mk (Below.trod laidOut (by kernel_rfl) (of_decide_eq_true (by kernel_rfl)) k1 bel lt1) (trodAll_cons_mk (Below.trod laidOut (by kernel_rfl) (of_decide_eq_true (by kernel_rfl)) k2 bel lt2) (trodAll_cons_mk (Below.trod laidOut (by kernel_rfl) (of_decide_eq_true (by kernel_rfl)) k3 bel lt3) trodAll_mk0)))), hvs, bel.frame _, fun h => by cases h⟩

theorem said : Rows.FnExactCheckEntrySaid :=
  OpenClaim.holds_of_wide 5 Tryd.f5 rfl rfl rfl rfl rfl rfl rfl ⟨rfl, rfl, rfl, rfl, rfl⟩ rfl rfl rfl rfl rfl (by kernel_rfl) Tryd.func5 (by kernel_rfl)
    (of_decide_eq_true (by kernel_rfl)) (by unfold Func.isWrapper; first | (rw [if_pos (by decide +kernel)]; kernel_rfl) | (rw [if_neg (by decide +kernel)]; exact ⟨rfl, rfl⟩))
    (fun os started H enc _ => lifted os started H enc)

theorem plain (f : FuncId) (fn : Func) (hf : Tryd.pinned.checked.prog.funcNamed "loop.example/g00220/laws.FnExactCheckEntry" = some f) (hfn : Tryd.pinned.checked.prog.funcs[f]? = some fn) :
    true = Tryd.pinned.checked.prog.looks [] ∧ ∀ (j : Nat) t, fn.params[j]? = some t → Tryd.pinned.checked.prog.wantsStandIn t = false := by
  obtain rfl : f = 5 := Option.some.inj ((show Tryd.prog.funcNamed "loop.example/g00220/laws.FnExactCheckEntry" = some 5 by kernel_rfl).symm.trans hf) |>.symm
  obtain rfl : fn = Tryd.f5 := (Option.some.inj (Tryd.func5.symm.trans hfn)).symm
  refine ⟨by kernel_rfl, fun j t ht => ?_⟩
  rw [Tryd.params5] at ht
  have hmem : t = 35 ∨ t = 9 ∨ t = 3 ∨ t = 36 := by
    have := Array.mem_of_getElem? ht
    simp only [List.mem_toArray, List.mem_cons, List.not_mem_nil, or_false] at this
    rcases this with h | h | h | h
    all_goals (subst h; simp)
  rcases hmem with rfl | rfl | rfl | rfl
  · exact (show Tryd.prog.wantsStandIn 35 = false by kernel_rfl)
  · exact (show Tryd.prog.wantsStandIn 9 = false by kernel_rfl)
  · exact (show Tryd.prog.wantsStandIn 3 = false by kernel_rfl)
  · exact (show Tryd.prog.wantsStandIn 36 = false by kernel_rfl)
end Go.Proofs.YtiiaehajcomfaaaDoor.fnExactCheckEntry
namespace Go.Proofs.YtiiaehajcomfaaaDoor
theorem fnExactCheckEntry_card : Rows.FnExactCheckEntryCardSaid :=
  Claim7.holds_tied_plain_at .later [] _ _ _ _ fnExactCheckEntry.said (fun _ h => by cases h) (by kernel_rfl) (fun _ h => by cases h) fnExactCheckEntry_row_tie rfl ⟨rfl, rfl⟩ (by kernel_rfl) rfl fnExactCheckEntry.plain (by kernel_rfl)
#print axioms fnExactCheckEntry_card
end Go.Proofs.YtiiaehajcomfaaaDoor
