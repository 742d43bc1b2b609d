/- For every list of peaks and every text that can be read, laws.FnExactAddPeak returns true, the list reads as it did, and so do the two tables of words, which the card ties to the program's text. Condition: the listed tables start as the program's text lays them. -/
import Derived.Test.YthabemlcabmmaaaDoorPkC
import Derived.Test.YthabemlcabmmaaaDoorPkM
import Derived.Test.YthabemlcabmmaaaDoorLawG
import Derived.Test.YthabemlcabmmaaaDoorCards
import Derived.Test.YthabemlcabmmaaaDoorTie
namespace Go.Proofs.YthabemlcabmmaaaDoor.fnExactAddPeak
open Go.ChangeShapes Go.WideShapes Go.ChangeAt Go.RowKit Sha
open Go.ChangeMaps (open_string shut_string)
set_option linter.unusedVariables false

theorem add_len (l : List Pk) (q : ByteArray) : (addOut l q).1.length ≤ 65 := by
  unfold addOut
  split
  · rename_i h
    split
    · simp
    · exact Nat.le_trans (mrg_len l _ _) (by have := ok_len (pfC_ok (mxP_ok h).1).1; omega)
  · simp
/-- What is carried on: all that was there, the specification's answer, the argument handed in, the program's answer. -/
structure Pw (w : World) (s X G : Nat) (wv xv gv : Value) (p lx pg : List Pk) (wx : World) : Prop where
  b : Below w.heap.size w wx
  ow : OwnP s wx wv p
  ox : OwnP X wx xv lx
  og : OwnP G wx gv pg
  k1 : ∀ k, wv.ownBlock = some k → k < X
  k2 : ∀ k, xv.ownBlock = some k → k < G
  s0 : w.heap.size ≤ s
  s1 : w.heap.size ≤ X
  s2 : w.heap.size ≤ G
  s3 : X ≤ G
theorem Pw.below {w : World} {s X G : Nat} {wv xv gv : Value} {p lx pg : List Pk} {wx wy : World} (h : Pw w s X G wv xv gv p lx pg wx) (hb : Below wx.heap.size wx wy) : Pw w s X G wv xv gv p lx pg wy :=
  ⟨h.b.trans (hb.mono h.b.size), h.ow.below hb, h.ox.below hb, h.og.below hb, h.k1, h.k2, h.s0, h.s1, h.s2, h.s3⟩
theorem Pw.markX {w : World} {s X G : Nat} {wv xv gv : Value} {p lx lx' pg : List Pk} {wx wy : World} (h : Pw w s X G wv xv gv p lx pg wx) (ho : OwnP X wy xv lx') (ht : Touch (fun k => xv.ownBlock = some k) wx wy) : Pw w s X G wv xv gv p lx' pg wy :=
  ⟨h.b.trans (ht.below h.b.size (fun k hk e => by have := (h.ox.lt k e).1; have := h.s1; omega)), h.ow.kept ht (fun k hk e => by have := h.k1 k hk; have := (h.ox.lt k e).1; omega), ho, h.og.kept ht (fun k hk e => by have := (h.og.lt k hk).1; have := h.k2 k e; omega), h.k1, h.k2, h.s0, h.s1, h.s2, h.s3⟩
theorem Pw.markG {w : World} {s X G : Nat} {wv xv gv : Value} {p lx pg pg' : List Pk} {wx wy : World} (h : Pw w s X G wv xv gv p lx pg wx) (ho : OwnP G wy gv pg') (ht : Touch (fun k => gv.ownBlock = some k) wx wy) : Pw w s X G wv xv gv p lx pg' wy :=
  ⟨h.b.trans (ht.below h.b.size (fun k hk e => by have := (h.og.lt k e).1; have := h.s2; omega)), h.ow.kept ht (fun k hk e => by have := h.k1 k hk; have := (h.og.lt k e).1; have := h.s3; omega), h.ox.kept ht (fun k hk e => by have := (h.og.lt k e).1; have := h.k2 k hk; omega), ho, h.k1, h.k2, h.s0, h.s1, h.s2, h.s3⟩

set_option maxRecDepth 100000 in
set_option maxHeartbeats 4000000 in
theorem walk (v : Value) (l : List Pk) (q : ByteArray) (w : World) (hs : Pks w v l) (hz : ∀ i, i < l.length → (l.getD i default).h.size ≤ maxLen) (hq : q.size ≤ maxLen) (hf : First w) (ht : Table w) :
    Calls Tryd.prog 9 #[v, .string q] w fun e w' => e = .returned (.bool true) ∧ Below w.heap.size w w' := by
  have HT := hide (show Tab w from ⟨hf, ht⟩)
  have HS := hide hs
  have HM := hide (szPeakS_any 1048576 (by omega) (by omega) v l w hs hz)
  have HR := hide (pszR_cases 1048576 l)
  have HQ := hide (psmall_of 1048576 (by omega) l)
  have HSP := hide (fun hq1 b off cap wx hx hy => specAdd_any l q b off cap wx hx hy hq1)
  have HIM := hide (fun hq1 b off cap wx hx hy hz => implAdd_any l q b off cap wx hx hy hq1 hz)
  have hpl := add_len l q
  clear hf ht hz hs
  unfold maxLen at hq
  generalize (addOut l q).1 = p at *
  generalize (addOut l q).2 = c at *
  generalize pszR 1048576 l = r at *
  go_enter Tryd.func9, Tryd.ntmps9
  by_cases hq1 : 1048576 < q.size
  · have hq2 : (1048576 : Int) < (q.size : Int) := by omega
    go_wp2_with fail
    go_ret
    exact ⟨rfl, Below.refl _ _⟩
  have hq2 : ¬ (1048576 : Int) < (q.size : Int) := by omega
  replace hq1 : q.size ≤ 1048576 := by omega
  go_wp2_with fail
  refine (unhide HM).mono ?_
  rintro e w1 ⟨rfl, hb1⟩
  have B1 := hide hb1
  clear hb1
  rcases unhide HR with hr | ⟨hr, _⟩
  · subst hr
    go_wp2_with fail
    go_ret
    exact ⟨rfl, unhide B1⟩
  have HSM := hide (unhide HQ hr)
  have hpl2 : p.length ≤ 1048576 := by omega
  have hll2 : l.length ≤ 1048576 := (unhide HSM).1
  have HPL := hide hpl2
  have hr2 : ¬ r < 0 := by omega
  clear hpl
  go_wp2_with fail
  refine (toPeakS_any v l w1 ((unhide HS).below (unhide B1)) (unhide HSM).1).mono ?_
  rintro e w2 ⟨rfl, hO2, hz2, hb2⟩
  have B2 := hide ((unhide B1).trans (hb2.mono (unhide B1).size))
  have O2 := hide (PA.own hO2)
  clear hO2 hz2 hb2
  go_wp2_with fail
  refine (unhide HSP hq1 _ _ _ w2 (unhide O2) (unhide HSM).2).mono ?_
  rintro e w3 ⟨wv, rfl, hO3, hb3⟩
  have B3 := hide ((unhide B2).trans (hb3.mono (unhide B2).size))
  have O3 := hide hO3
  have S2 := hide (unhide B2).size
  clear hb3 hO3 O2 B2
  go_wp2_with fail
  refine (toPeakS_any v l w3 ((unhide HS).below (unhide B3)) (unhide HSM).1).mono ?_
  rintro e w4 ⟨rfl, hO4, hz4, hb4⟩
  have B4 := hide ((unhide B3).trans (hb4.mono (unhide B3).size))
  have O4 := hide hO4
  have OW4 := hide ((unhide O3).below hb4)
  have S3 := hide (And.intro (unhide B3).size (And.intro hz4 (fun k hk => ((unhide O3).lt k hk).2)))
  clear hO4 hz4 hb4 O3 B3
  go_wp2_with fail
  refine (unhide HIM hq1 _ _ _ w4 (PA.own (unhide O4)) (unhide HSM).2 ((unhide HT).below (unhide B4))).mono ?_
  rintro e w5 ⟨gv, rfl, hO5, hb5⟩
  have P5 : Hid (Pw w w2.heap.size w3.heap.size w4.heap.size wv (.slice (some ⟨w3.heap.size, 0, none⟩) l.length l.length) gv p l p w5) := hide
    ⟨(unhide B4).trans (hb5.mono (unhide B4).size), (unhide OW4).below hb5, (unhide O4).below hb5, hO5, (unhide S3).2.2, fun k hk => by
      have e : w3.heap.size = k := by simpa [Value.ownBlock] using hk
      have := (unhide S3).2.1; omega, unhide S2, (unhide S3).1, (unhide B4).size, by have := (unhide S3).2.1; omega⟩
  clear hO5 hb5 O4 OW4 B4 S2 S3
  generalize w2.heap.size = s at *
  generalize w3.heap.size = X at *
  generalize w4.heap.size = G at *
  go_wp2_with fail
  refine (eqPeakS_any _ _ p w5 (unhide P5).og.pks (unhide P5).ow.pks (unhide HPL)).mono ?_
  rintro e w6 ⟨rfl, hb6⟩
  have P6 := hide ((unhide P5).below hb6)
  clear hb6 P5
  go_wp2_with fail
  refine (toPeakS_any v l w6 ((unhide HS).below (unhide P6).b) (unhide HSM).1).mono ?_
  rintro e w7 ⟨rfl, hO7, hz7, hb7⟩
  have P7 := hide ((unhide P6).below hb7)
  have O7 := hide hO7
  clear hO7 hz7 hb7 P6
  go_wp2_with fail
  refine (eqPeakS_any _ _ l w7 (unhide P7).ox.pks (unhide O7).pks (unhide HSM).1).mono ?_
  rintro e w8 ⟨rfl, hb8⟩
  have P8 := hide ((unhide P7).below hb8)
  clear hb8 P7 O7
  go_wp2_with fail
  refine (markPeakS_any 1 (by omega) (by omega) X _ l w8 (unhide P8).ox (unhide HSM).1).mono ?_
  rintro e w9 ⟨rfl, hO9, hT9⟩
  have P9 := hide ((unhide P8).markX hO9 hT9)
  clear hO9 hT9 P8
  have hk9 : ¬ ((1 : Nat) : Int) + 2 * (l.length : Int) < 0 := by omega
  go_wp2_with fail
  refine (eqPeakS_any _ _ p w9 (unhide P9).og.pks (unhide P9).ow.pks (unhide HPL)).mono ?_
  rintro e w10 ⟨rfl, hb10⟩
  have P10 := hide ((unhide P9).below hb10)
  clear hb10 P9
  go_wp2_with fail
  refine (markPeakS_any 1 (by omega) (by omega) G gv p w10 (unhide P10).og (unhide HPL)).mono ?_
  rintro e w11 ⟨rfl, hO11, hT11⟩
  have P11 := hide ((unhide P10).markG hO11 hT11)
  clear hO11 hT11 P10
  go_wp2_with fail
  refine (heldPeakS_any 1 (by omega) (by omega) G gv p.length w11 (unhide P11).og (unhide HPL)).mono ?_
  rintro e w12 ⟨rfl, hb12⟩
  have P12 := hide ((unhide P11).below hb12)
  clear hb12 P11
  have hk12 : ¬ ((1 : Nat) : Int) + 2 * (p.length : Int) < 0 := by omega
  go_wp2_with fail
  refine (toPeakS_any v l w12 ((unhide HS).below (unhide P12).b) (unhide HSM).1).mono ?_
  rintro e w13 ⟨rfl, hO13, hz13, hb13⟩
  have P13 := hide ((unhide P12).below hb13)
  have O13 := hide hO13
  clear hO13 hz13 hb13 P12
  go_wp2_with fail
  refine (unhide HIM hq1 _ _ _ w13 (PA.own (unhide O13)) (unhide HSM).2 ((unhide HT).below (unhide P13).b)).mono ?_
  rintro e w14 ⟨hv, rfl, hO14, hb14⟩
  have P14 := hide ((unhide P13).below hb14)
  have O14 := hide hO14
  clear hO14 hb14 O13 P13
  go_wp2_with fail
  refine (eqPeakS_any _ _ p w14 (unhide O14).pks (unhide P14).ow.pks (unhide HPL)).mono ?_
  rintro e w15 ⟨rfl, hb15⟩
  have P15 := hide ((unhide P14).below hb15)
  clear hb15 P14 O14
  go_wp2_with fail
  refine (heldPeakS_any 1 (by omega) (by omega) G gv p.length w15 (unhide P15).og (unhide HPL)).mono ?_
  rintro e w16 ⟨rfl, hb16⟩
  have P16 := hide ((unhide P15).below hb16)
  clear hb16 P15
  go_wp2_with fail
  go_ret
  exact ⟨rfl, (unhide P16).b⟩

theorem vars_of_laid {W : World} (h : laidMetH Tryd.prog Rows.fnExactAddPeakRow.laid W) :
    W.var? Tryd.prog "loop.example/g00220/impl.firstWords" = some firstCells ∧ W.var? Tryd.prog "loop.example/g00220/impl.roundWords" = some roundCells := by
  rw [MakeChecks.laidMetH_plain _ _ _ (by kernel_rfl)] at h
  obtain ⟨ps, ⟨g0, t0, cs0, f0, p0, q0, hg0, ht0, hv0, hd0, ⟨g1, t1, cs1, f1, p1, q1, hg1, ht1, hv1, hd1, _, _⟩, _⟩, _, _⟩ := h
  obtain rfl := Option.some.inj (gFirst.symm.trans hg0)
  obtain rfl := Option.some.inj (gRound.symm.trans hg1)
  obtain rfl := Option.some.inj (gFirstType.symm.trans ht0)
  obtain rfl := Option.some.inj (gRoundType.symm.trans ht1)
  have e0 := Lib.cells_of_tab (k := .u32) (cs := cs0.toList) (zs := iL.map fun (n : Nat) => (n : Int)) Tryd.underlying149 Tryd.underlying148 cellsE cellsA hd0
  have e1 := Lib.cells_of_tab (k := .u32) (cs := cs1.toList) (zs := kL.map fun (n : Nat) => (n : Int)) Tryd.underlying153 Tryd.underlying148 cellsE cellsB hd1
  have a0 : cs0 = firstCells := by
    have : cs0.toList = firstCells.toList := e0.trans (by kernel_rfl)
    exact Array.toList_inj.1 this
  have a1 : cs1 = roundCells := by
    have : cs1.toList = roundCells.toList := e1.trans (by kernel_rfl)
    exact Array.toList_inj.1 this
  exact ⟨by rw [hv0, a0], by rw [hv1, a1]⟩
theorem door_met (os : Os) (args : Array Value) : laidMetH Tryd.prog Rows.fnExactAddPeakRow.laid ((World.doorLaid Tryd.prog 19 os).forCall (fun _ _ => 0) ⟨#[], args, []⟩).memory :=
  laidMetH_of_parts3 (fuel := 8) (laidMet_of_run' 8 (by kernel_rfl) (by kernel_rfl)) (by kernel_rfl) (by kernel_rfl)
set_option maxRecDepth 100000 in
theorem lifted (os : Os) (started : os.Started) (H : Type) (enc : TypeId × Value → H) :
    ReturnsInHanded {} Tryd.checked os 9 .any (fun w args => (Rows.fnExactAddPeakSpec.pre enc Tryd.prog Tryd.f9 [] false w args ∧ laidMetH Tryd.prog Rows.fnExactAddPeakRow.laid w) ∧ sizedMet enc Tryd.prog Tryd.f9 (OpenSpec.ofChange Rows.fnExactAddPeakSpec) false w args)
      (Rows.fnExactAddPeakSpec.post enc Tryd.prog Tryd.f9 false true false false) := by
  refine returnsInHanded_of_change_and (C := Tryd.checked) (X := fun w _ => laidMetH Tryd.prog Rows.fnExactAddPeakRow.laid w) (fun _ _ _ hh h => h.of_heap hh) own started (by kernel_rfl) Tryd.func9
    (ChangeSpec.witness_shaped (enc := enc) (C := Tryd.checked) (os := os) (X := fun w _ => laidMetH Tryd.prog Rows.fnExactAddPeakRow.laid w) false (World.doorLaid Tryd.prog 19 os) #[.slice none 0 0, .string ByteArray.empty] 8 rfl (World.shaped_of_RefB (by kernel_rfl) (by kernel_rfl)) (by kernel_rfl) (by kernel_rfl) (by kernel_rfl) (door_met os _)) ?_
  intro W base args ds gs before hval0 hW _ _ hL _
  have hval : ∀ (j : Nat) t v, Tryd.f9.params[j]? = some t → args[j]? = some v → Value.okWide Tryd.prog W .any base t v := hval0
  have hW' := hW
  obtain ⟨p, q, hA0, hV0, rfl, hfz, hnd⟩ := hW
  have hA : DataW.TrodAll enc Tryd.prog W 0 (fun _ => true) true Tryd.f9.params.toList args.toList ds p := hA0
  have hV : DataW.TrodVars enc Tryd.prog W (fun _ => true) ["loop.example/g00220/impl.firstWords", "loop.example/g00220/impl.roundWords"] gs q := hV0
  rw [Tryd.params9] at hA hval
  obtain ⟨v0, vs0, d0, ds0, p0, q0, hargs, rfl, rfl, h0, r0⟩ := trodAll_cons hA
  obtain ⟨v1, vs1, d1, ds1, p1, q1, rfl, rfl, rfl, h1, r1⟩ := trodAll_cons r0
  obtain ⟨rfl, rfl, rfl⟩ := trodAll_nil r1
  obtain rfl : args = #[v0, v1] := by cases args; simp_all
  have k0 := h0
  have lt0 : ∀ x ∈ p0, x.block < W.heap.size := by obtain ⟨m, hm⟩ := k0; exact DataW.trod_lt m _ _ _ hm
  obtain ⟨l0, hf0, hz0⟩ := open_peaks (hval 0 39 v0 rfl rfl) h0
  have k1 := h1
  have lt1 : ∀ x ∈ p1, x.block < W.heap.size := by obtain ⟨m, hm⟩ := k1; exact DataW.trod_lt m _ _ _ hm
  obtain ⟨a1, rfl, _, _, w1⟩ := open_string Tryd.underlying9 (hval 1 9 v1 rfl rfl) h1
  obtain ⟨hvA, hvB⟩ := vars_of_laid hL
  clear hA0 hV0 hval0
  refine (walk v0 l0 a1 W hf0 hz0 w1 (first_of hvA) (table_of hvB)).mono fun e W' ⟨he, bel⟩ => ?_
  subst he
  obtain ⟨rfl, pv, hvs⟩ := vars_again (sp := fun b => decide (b < W.heap.size)) hvA hvB hV bel
  exact ⟨_, rfl, _, _, _, [], _, pv, hW', trodAll_mk1 (shut_bool Tryd.underlying4 _), (trodAll_cons_mk (Below.trod laidOut (by kernel_rfl) (of_decide_eq_true (by kernel_rfl)) k0 bel lt0) (trodAll_cons_mk (Below.trod laidOut (by kernel_rfl) (of_decide_eq_true (by kernel_rfl)) k1 bel lt1) trodAll_mk0)), hvs, bel.frame _, fun h => by cases h⟩

theorem said : Rows.FnExactAddPeakSaid :=
  OpenClaim.holds_of_wide 9 Tryd.f9 rfl rfl rfl rfl rfl rfl rfl ⟨rfl, rfl, rfl, rfl, rfl⟩ rfl rfl rfl rfl rfl (by kernel_rfl) Tryd.func9 (by kernel_rfl)
    (of_decide_eq_true (by kernel_rfl)) (by unfold Func.isWrapper; first | (rw [if_pos (by decide +kernel)]; kernel_rfl) | (rw [if_neg (by decide +kernel)]; exact ⟨rfl, rfl⟩))
    (fun os started H enc _ => lifted os started H enc)

theorem plain (f : FuncId) (fn : Func) (hf : Tryd.pinned.checked.prog.funcNamed "loop.example/g00220/laws.FnExactAddPeak" = some f) (hfn : Tryd.pinned.checked.prog.funcs[f]? = some fn) :
    false = Tryd.pinned.checked.prog.looks [] ∧ ∀ (j : Nat) t, fn.params[j]? = some t → Tryd.pinned.checked.prog.wantsStandIn t = false := by
  obtain rfl : f = 9 := Option.some.inj ((show Tryd.prog.funcNamed "loop.example/g00220/laws.FnExactAddPeak" = some 9 by kernel_rfl).symm.trans hf) |>.symm
  obtain rfl : fn = Tryd.f9 := (Option.some.inj (Tryd.func9.symm.trans hfn)).symm
  refine ⟨by kernel_rfl, fun j t ht => ?_⟩
  rw [Tryd.params9] at ht
  have hmem : t = 39 ∨ t = 9 := by
    have := Array.mem_of_getElem? ht
    simp only [List.mem_toArray, List.mem_cons, List.not_mem_nil, or_false] at this
    rcases this with h | h
    all_goals (subst h; simp)
  rcases hmem with rfl | rfl
  · exact (show Tryd.prog.wantsStandIn 39 = false by kernel_rfl)
  · exact (show Tryd.prog.wantsStandIn 9 = false by kernel_rfl)
end Go.Proofs.YthabemlcabmmaaaDoor.fnExactAddPeak
namespace Go.Proofs.YthabemlcabmmaaaDoor
theorem fnExactAddPeak_card : Rows.FnExactAddPeakCardSaid :=
  Claim7.holds_tied_plain_at .later [] _ _ _ _ fnExactAddPeak.said (fun _ h => by cases h) (by kernel_rfl) (fun _ h => by cases h) fnExactAddPeak_row_tie rfl ⟨rfl, rfl⟩ (by kernel_rfl) rfl fnExactAddPeak.plain (by kernel_rfl)
#print axioms fnExactAddPeak_card
end Go.Proofs.YthabemlcabmmaaaDoor
