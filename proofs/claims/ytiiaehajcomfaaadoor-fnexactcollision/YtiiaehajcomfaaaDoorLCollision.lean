/- For every two numbers, two texts and two lists of texts that can be read, laws.FnExactCollision returns true, the lists read as they did, and so do the two tables of words, which the card ties to the program's text. Condition: the listed tables start as the program's text lays them. -/
import Derived.Test.YtiiaehajcomfaaaDoorColI
import Derived.Test.YtiiaehajcomfaaaDoorStrL
import Derived.Test.YtiiaehajcomfaaaDoorLawG
import Derived.Test.YtiiaehajcomfaaaDoorCards
import Derived.Test.YtiiaehajcomfaaaDoorTie
namespace Go.Proofs.YtiiaehajcomfaaaDoor.fnExactCollision
open Go.ChangeShapes Go.WideShapes Go.ChangeAt Go.RowKit Sha
open Go.ChangeMaps (open_string shut_string)
set_option linter.unusedVariables false

set_option maxRecDepth 100000 in
set_option maxHeartbeats 4000000 in
theorem walk (p n : Int) (la : ByteArray) (va : Value) (pa : List ByteArray) (lb : ByteArray) (vb : Value) (pb : List ByteArray) (w : World) (hp : (Lit.int .i64 p).wf = true) (hn : (Lit.int .i64 n).wf = true) (hla : la.size ≤ maxLen) (hsa : Strs w va pa) (hza : ∀ i, i < pa.length → (pa.getD i ByteArray.empty).size ≤ maxLen) (hlb : lb.size ≤ maxLen) (hsb : Strs w vb pb) (hzb : ∀ i, i < pb.length → (pb.getD i ByteArray.empty).size ≤ maxLen) (hf : First w) (ht : Table w) :
    Calls Tryd.prog 6 #[.int .i64 p, .int .i64 n, .string la, va, .string lb, vb] w fun e w' => e = .returned (.bool true) ∧ Below w.heap.size w w' := by
  have HT := hide (show Tab w from ⟨hf, ht⟩)
  have HSA := hide hsa
  have HSB := hide hsb
  have HM := hide (szStringS_any 1048576 (by omega) (by omega) va pa w hsa hza)
  have HR := hide (sszR_cases 1048576 pa)
  have HQ := hide (ssmall_of 1048576 (by omega) pa)
  have HM2 := hide (fun L h0 h1 wx (hb : Below w.heap.size w wx) => szStringS_any L h0 h1 vb pb wx (hsb.below hb) hzb)
  have HR2 := hide (fun L => sszR_cases L pb)
  have HQ2 := hide (fun L hL => ssmall_of L hL pb)
  unfold maxLen at hla hlb
  by_cases hl : 1048576 < la.size
  · clear hf ht hza hzb hsa hsb hp hn
    go_enter Tryd.func6, Tryd.ntmps6
    go_wp2_with fail
    go_ret
    exact ⟨rfl, Below.refl _ _⟩
  by_cases hl2 : 1048576 < lb.size
  · clear hf ht hza hzb hsa hsb hp hn
    go_enter Tryd.func6, Tryd.ntmps6
    go_wp2_with fail
    go_ret
    exact ⟨rfl, Below.refl _ _⟩
  have HSP := hide (fun ba oa ca bb ob cb wx h1 h2 h3 h4 => specCol_any p n la pa lb pb ba oa ca bb ob cb wx (by omega) (by omega) hn h1 h2 h3 h4)
  have HIM := hide (fun ba oa ca bb ob cb wx h1 h2 h3 h4 h5 => implCol_any p n la pa lb pb ba oa ca bb ob cb wx (by omega) (by omega) hn h1 h2 h3 h4 h5)
  clear hf ht hza hzb hsa hsb hp hn
  generalize colOut p n la pa lb pb = out at *
  obtain ⟨o1, o2, o3⟩ := out
  dsimp only [colV] at HSP HIM
  generalize sszR 1048576 pa = r at *
  go_enter Tryd.func6, Tryd.ntmps6
  go_wp2_with fail
  refine (unhide HM).mono ?_
  rintro e w1 ⟨rfl, hb1⟩
  have B1 := hide hb1
  clear hb1
  rcases unhide HR with hr | ⟨hr, hr1⟩
  · subst hr
    go_wp2_with fail
    go_ret
    exact ⟨rfl, unhide B1⟩
  have HSM := hide (unhide HQ hr)
  have hr2 : ¬ r < 0 := by omega
  have HMM := hide (unhide HM2 r hr hr1 w1 (unhide B1))
  have HRR := hide (unhide HR2 r)
  have HQQ := hide (unhide HQ2 r hr1)
  clear HM2 HR2 HQ2 HM HR HQ
  generalize sszR r pb = s at *
  go_wp2_with fail
  refine (unhide HMM).mono ?_
  rintro e w1b ⟨rfl, hb1⟩
  have B1b := hide ((unhide B1).trans (hb1.mono (unhide B1).size))
  clear hb1 HMM B1
  rcases unhide HRR with hs | ⟨hs, hs1⟩
  · subst hs
    go_wp2_with fail
    go_ret
    exact ⟨rfl, unhide B1b⟩
  have HSN := hide (unhide HQQ hs)
  have hs2 : ¬ s < 0 := by omega
  clear HRR HQQ
  go_wp2_with fail
  refine (toStringS_any va pa w1b ((unhide HSA).below (unhide B1b)) (unhide HSM).1).mono ?_
  rintro e w2 ⟨rfl, hO2, hz2, hb2⟩
  have B2 := hide ((unhide B1b).trans (hb2.mono (unhide B1b).size))
  have O2 := hide (SA.own hO2)
  clear hO2 hz2 hb2 B1b
  go_wp2_with fail
  refine (toStringS_any vb pb w2 ((unhide HSB).below (unhide B2)) (unhide HSN).1).mono ?_
  rintro e w3 ⟨rfl, hO3, hz3, hb3⟩
  have B3 := hide ((unhide B2).trans (hb3.mono (unhide B2).size))
  have O3 := hide (SA.own hO3)
  have O2b := hide ((unhide O2).below hb3)
  clear hO3 hz3 hb3 B2 O2
  go_wp2_with fail
  refine (unhide HSP _ _ _ _ _ _ w3 (unhide O2b) (unhide HSM).2 (unhide O3) (unhide HSN).2).mono ?_
  rintro e w4 ⟨rfl, hb4⟩
  have B4 := hide ((unhide B3).trans (hb4.mono (unhide B3).size))
  clear hb4 B3 O2b O3 HSP
  go_wp2_with fail
  refine (toStringS_any va pa w4 ((unhide HSA).below (unhide B4)) (unhide HSM).1).mono ?_
  rintro e w5 ⟨rfl, hO5, hz5, hb5⟩
  have B5 := hide ((unhide B4).trans (hb5.mono (unhide B4).size))
  have O5 := hide hO5
  clear hO5 hz5 hb5 B4
  go_wp2_with fail
  refine (toStringS_any vb pb w5 ((unhide HSB).below (unhide B5)) (unhide HSN).1).mono ?_
  rintro e w6 ⟨rfl, hO6, hz6, hb6⟩
  have B6 := hide ((unhide B5).trans (hb6.mono (unhide B5).size))
  have O6 := hide hO6
  have P6 := hide ((unhide O5).below hb6)
  clear hO6 hz6 hb6 B5 O5
  go_wp2_with fail
  refine (unhide HIM _ _ _ _ _ _ w6 (SA.own (unhide P6)) (unhide HSM).2 (SA.own (unhide O6)) (unhide HSN).2 ((unhide HT).below (unhide B6))).mono ?_
  rintro e w7 ⟨rfl, hb7⟩
  have B7 := hide ((unhide B6).trans (hb7.mono (unhide B6).size))
  have O7 := hide ((unhide O6).below hb7)
  have P7 := hide ((unhide P6).below hb7)
  clear hb7 B6 O6 P6 HIM
  go_wp2_with fail
  refine (toStringS_any va pa w7 ((unhide HSA).below (unhide B7)) (unhide HSM).1).mono ?_
  rintro e w8 ⟨rfl, hO8, hz8, hb8⟩
  have B8 := hide ((unhide B7).trans (hb8.mono (unhide B7).size))
  have Q8 := hide hO8
  have O8 := hide ((unhide O7).below hb8)
  have P8 := hide ((unhide P7).below hb8)
  clear hO8 hz8 hb8 B7 O7 P7
  go_wp2_with fail
  refine (eqStringS_any _ _ pa w8 (unhide P8).strs (unhide Q8).strs (unhide HSM).1).mono ?_
  rintro e w9 ⟨rfl, m1, hw9⟩
  have B9 := hide (below_drewN (unhide B8) m1)
  have O9 := hide ((unhide O8).drewN m1)
  rw [← hw9] at B9 O9
  clear hw9 B8 O8 P8 Q8
  go_wp2_with fail
  refine (toStringS_any vb pb w9 ((unhide HSB).below (unhide B9)) (unhide HSN).1).mono ?_
  rintro e w10 ⟨rfl, hO10, hz10, hb10⟩
  have B10 := hide ((unhide B9).trans (hb10.mono (unhide B9).size))
  have Q10 := hide hO10
  have O10 := hide ((unhide O9).below hb10)
  clear hO10 hz10 hb10 B9 O9
  go_wp2_with fail
  refine (eqStringS_any _ _ pb w10 (unhide O10).strs (unhide Q10).strs (unhide HSN).1).mono ?_
  rintro e w11 ⟨rfl, m2, hw11⟩
  have B11 := hide (below_drewN (unhide B10) m2)
  rw [← hw11] at B11
  clear hw11 B10 O10 Q10
  go_wp2_with fail
  go_ret
  exact ⟨rfl, unhide B11⟩

theorem vars_of_laid {W : World} (h : laidMetH Tryd.prog Rows.fnExactCollisionRow.laid W) :
    W.var? Tryd.prog "loop.example/g00220/impl.firstWords" = some firstCells ∧ W.var? Tryd.prog "loop.example/g00220/impl.roundWords" = some roundCells := by
  rw [MakeChecks.laidMetH_plain _ _ _ (by kernel_rfl)] at h
  obtain ⟨ps, ⟨g0, t0, cs0, f0, p0, q0, hg0, ht0, hv0, hd0, ⟨g1, t1, cs1, f1, p1, q1, hg1, ht1, hv1, hd1, _, _⟩, _⟩, _, _⟩ := h
  obtain rfl := Option.some.inj (gFirst.symm.trans hg0)
  obtain rfl := Option.some.inj (gRound.symm.trans hg1)
  obtain rfl := Option.some.inj (gFirstType.symm.trans ht0)
  obtain rfl := Option.some.inj (gRoundType.symm.trans ht1)
  have e0 := Lib.cells_of_tab (k := .u32) (cs := cs0.toList) (zs := iL.map fun (n : Nat) => (n : Int)) Tryd.underlying163 Tryd.underlying114 cellsE cellsA hd0
  have e1 := Lib.cells_of_tab (k := .u32) (cs := cs1.toList) (zs := kL.map fun (n : Nat) => (n : Int)) Tryd.underlying167 Tryd.underlying114 cellsE cellsB hd1
  have a0 : cs0 = firstCells := by
    have : cs0.toList = firstCells.toList := e0.trans (by kernel_rfl)
    exact Array.toList_inj.1 this
  have a1 : cs1 = roundCells := by
    have : cs1.toList = roundCells.toList := e1.trans (by kernel_rfl)
    exact Array.toList_inj.1 this
  exact ⟨by rw [hv0, a0], by rw [hv1, a1]⟩
theorem door_met (os : Os) (args : Array Value) : laidMetH Tryd.prog Rows.fnExactCollisionRow.laid ((World.doorLaid Tryd.prog 89 os).forCall (fun _ _ => 0) ⟨#[], args, []⟩).memory :=
  laidMetH_of_parts3 (fuel := 8) (laidMet_of_run' 8 (by kernel_rfl) (by kernel_rfl)) (by kernel_rfl) (by kernel_rfl)
set_option maxRecDepth 100000 in
theorem lifted (os : Os) (started : os.Started) (H : Type) (enc : TypeId × Value → H) :
    ReturnsInHanded {} Tryd.checked os 6 .any (fun w args => (Rows.fnExactCollisionSpec.pre enc Tryd.prog Tryd.f6 [] false w args ∧ laidMetH Tryd.prog Rows.fnExactCollisionRow.laid w) ∧ sizedMet enc Tryd.prog Tryd.f6 (OpenSpec.ofChange Rows.fnExactCollisionSpec) false w args)
      (Rows.fnExactCollisionSpec.post enc Tryd.prog Tryd.f6 false true false false) := by
  refine returnsInHanded_of_change_and (C := Tryd.checked) (X := fun w _ => laidMetH Tryd.prog Rows.fnExactCollisionRow.laid w) (fun _ _ _ hh h => h.of_heap hh) own started (by kernel_rfl) Tryd.func6
    (ChangeSpec.witness_shaped (enc := enc) (C := Tryd.checked) (os := os) (X := fun w _ => laidMetH Tryd.prog Rows.fnExactCollisionRow.laid w) false (World.doorLaid Tryd.prog 89 os) #[.int .i64 0, .int .i64 0, .string ByteArray.empty, .slice none 0 0, .string ByteArray.empty, .slice none 0 0] 8 rfl (World.shaped_of_RefB (by kernel_rfl) (by kernel_rfl)) (by kernel_rfl) (by kernel_rfl) (by kernel_rfl) (door_met os _)) ?_
  intro W base args ds gs before hval0 hW _ _ hL _
  have hval : ∀ (j : Nat) t v, Tryd.f6.params[j]? = some t → args[j]? = some v → Value.okWide Tryd.prog W .any base t v := hval0
  have hW' := hW
  obtain ⟨p, q, hA0, hV0, rfl, hfz, hnd⟩ := hW
  have hA : DataW.TrodAll enc Tryd.prog W 0 (fun _ => true) true Tryd.f6.params.toList args.toList ds p := hA0
  have hV : DataW.TrodVars enc Tryd.prog W (fun _ => true) ["loop.example/g00220/impl.firstWords", "loop.example/g00220/impl.roundWords"] gs q := hV0
  rw [Tryd.params6] at hA hval
  obtain ⟨v0, vs0, d0, ds0, p0, q0, hargs, rfl, rfl, h0, r0⟩ := trodAll_cons hA
  obtain ⟨v1, vs1, d1, ds1, p1, q1, rfl, rfl, rfl, h1, r1⟩ := trodAll_cons r0
  obtain ⟨v2, vs2, d2, ds2, p2, q2, rfl, rfl, rfl, h2, r2⟩ := trodAll_cons r1
  obtain ⟨v3, vs3, d3, ds3, p3, q3, rfl, rfl, rfl, h3, r3⟩ := trodAll_cons r2
  obtain ⟨v4, vs4, d4, ds4, p4, q4, rfl, rfl, rfl, h4, r4⟩ := trodAll_cons r3
  obtain ⟨v5, vs5, d5, ds5, p5, q5, rfl, rfl, rfl, h5, r5⟩ := trodAll_cons r4
  obtain ⟨rfl, rfl, rfl⟩ := trodAll_nil r5
  obtain rfl : args = #[v0, v1, v2, v3, v4, v5] := by cases args; simp_all
  have k0 := h0
  have lt0 : ∀ x ∈ p0, x.block < W.heap.size := by obtain ⟨m, hm⟩ := k0; exact DataW.trod_lt m _ _ _ hm
  obtain ⟨a0, rfl, _, _, w0⟩ := open_int Tryd.underlying3 (hval 0 3 v0 rfl rfl) h0
  have k1 := h1
  have lt1 : ∀ x ∈ p1, x.block < W.heap.size := by obtain ⟨m, hm⟩ := k1; exact DataW.trod_lt m _ _ _ hm
  obtain ⟨a1, rfl, _, _, w1⟩ := open_int Tryd.underlying3 (hval 1 3 v1 rfl rfl) h1
  have k2 := h2
  have lt2 : ∀ x ∈ p2, x.block < W.heap.size := by obtain ⟨m, hm⟩ := k2; exact DataW.trod_lt m _ _ _ hm
  obtain ⟨a2, rfl, _, _, w2⟩ := open_string Tryd.underlying9 (hval 2 9 v2 rfl rfl) h2
  have k3 := h3
  have lt3 : ∀ x ∈ p3, x.block < W.heap.size := by obtain ⟨m, hm⟩ := k3; exact DataW.trod_lt m _ _ _ hm
  obtain ⟨l3, hf3, hz3⟩ := open_texts (hval 3 36 v3 rfl rfl) h3
  have k4 := h4
  have lt4 : ∀ x ∈ p4, x.block < W.heap.size := by obtain ⟨m, hm⟩ := k4; exact DataW.trod_lt m _ _ _ hm
  obtain ⟨a4, rfl, _, _, w4⟩ := open_string Tryd.underlying9 (hval 4 9 v4 rfl rfl) h4
  have k5 := h5
  have lt5 : ∀ x ∈ p5, x.block < W.heap.size := by obtain ⟨m, hm⟩ := k5; exact DataW.trod_lt m _ _ _ hm
  obtain ⟨l5, hf5, hz5⟩ := open_texts (hval 5 36 v5 rfl rfl) h5
  obtain ⟨hvA, hvB⟩ := vars_of_laid hL
  clear hA0 hV0 hval0
  refine (walk a0 a1 a2 v3 l3 a4 v5 l5 W w0 w1 w2 hf3 hz3 w4 hf5 hz5 (first_of hvA) (table_of hvB)).mono fun e W' ⟨he, bel⟩ => ?_
  subst he
  obtain ⟨rfl, pv, hvs⟩ := vars_again (sp := fun b => decide (b < W.heap.size)) hvA hvB hV bel
  exact ⟨_, rfl, _, _, _, [], _, pv, hW', trodAll_mk1 (shut_bool Tryd.underlying4 _), (trodAll_cons_mk (Below.trod laidOut (by kernel_rfl) (of_decide_eq_true (by kernel_rfl)) k0 bel lt0) (trodAll_cons_mk (Below.trod laidOut (by kernel_rfl) (of_decide_eq_true (by kernel_rfl)) k1 bel lt1) (trodAll_cons_mk (Below.trod laidOut (by kernel_rfl) (of_decide_eq_true (by kernel_rfl)) k2 bel lt2) (trodAll_cons_mk (Below.trod laidOut (by kernel_rfl) (of_decide_eq_true (by kernel_rfl)) k3 bel lt3) (trodAll_cons_mk (Below.trod laidOut (by kernel_rfl) (of_decide_eq_true (by kernel_rfl)) k4 bel lt4) (trodAll_cons_mk (Below.trod laidOut (by kernel_rfl) (of_decide_eq_true (by kernel_rfl)) k5 bel lt5) trodAll_mk0)))))), hvs, bel.frame _, fun h => by cases h⟩

theorem said : Rows.FnExactCollisionSaid :=
  OpenClaim.holds_of_wide 6 Tryd.f6 rfl rfl rfl rfl rfl rfl rfl ⟨rfl, rfl, rfl, rfl, rfl⟩ rfl rfl rfl rfl rfl (by kernel_rfl) Tryd.func6 (by kernel_rfl)
    (of_decide_eq_true (by kernel_rfl)) (by unfold Func.isWrapper; first | (rw [if_pos (by decide +kernel)]; kernel_rfl) | (rw [if_neg (by decide +kernel)]; exact ⟨rfl, rfl⟩))
    (fun os started H enc _ => lifted os started H enc)

theorem plain (f : FuncId) (fn : Func) (hf : Tryd.pinned.checked.prog.funcNamed "loop.example/g00220/laws.FnExactCollision" = some f) (hfn : Tryd.pinned.checked.prog.funcs[f]? = some fn) :
    true = Tryd.pinned.checked.prog.looks [] ∧ ∀ (j : Nat) t, fn.params[j]? = some t → Tryd.pinned.checked.prog.wantsStandIn t = false := by
  obtain rfl : f = 6 := Option.some.inj ((show Tryd.prog.funcNamed "loop.example/g00220/laws.FnExactCollision" = some 6 by kernel_rfl).symm.trans hf) |>.symm
  obtain rfl : fn = Tryd.f6 := (Option.some.inj (Tryd.func6.symm.trans hfn)).symm
  refine ⟨by kernel_rfl, fun j t ht => ?_⟩
  rw [Tryd.params6] at ht
  have hmem : t = 3 ∨ t = 9 ∨ t = 36 := by
    have := Array.mem_of_getElem? ht
    simp only [List.mem_toArray, List.mem_cons, List.not_mem_nil, or_false] at this
    rcases this with h | h | h | h | h | h
    all_goals (subst h; simp)
  rcases hmem with rfl | rfl | rfl
  · exact (show Tryd.prog.wantsStandIn 3 = false by kernel_rfl)
  · exact (show Tryd.prog.wantsStandIn 9 = false by kernel_rfl)
  · exact (show Tryd.prog.wantsStandIn 36 = false by kernel_rfl)
end Go.Proofs.YtiiaehajcomfaaaDoor.fnExactCollision
namespace Go.Proofs.YtiiaehajcomfaaaDoor
theorem fnExactCollision_card : Rows.FnExactCollisionCardSaid :=
  Claim7.holds_tied_plain_at .later [] _ _ _ _ fnExactCollision.said (fun _ h => by cases h) (by kernel_rfl) (fun _ h => by cases h) fnExactCollision_row_tie rfl ⟨rfl, rfl⟩ (by kernel_rfl) rfl fnExactCollision.plain (by kernel_rfl)
#print axioms fnExactCollision_card
end Go.Proofs.YtiiaehajcomfaaaDoor
