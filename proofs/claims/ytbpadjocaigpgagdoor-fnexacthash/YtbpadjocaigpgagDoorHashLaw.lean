/- For every slice of bytes that can be read, laws.FnExactHash returns true, the slice reads as it did, and so do the two tables of words, which the card ties to the program's text. Condition: the listed tables start as the program's text lays them. -/
import Derived.Test.YtbpadjocaigpgagDoorShaH
import Derived.Test.YtbpadjocaigpgagDoorCards
import Derived.Test.YtbpadjocaigpgagDoorTie
import Derived.WalkSmall
import Derived.LaidMore
import Derived.Stop.Joined
import Derived.Lib.LaidTab
import Derived.ChangeVars
namespace Go.Proofs.YtbpadjocaigpgagDoor.fnExactHash
open Go.ChangeShapes Go.WideShapes Go.ChangeAt Go.RowKit Sha
set_option linter.unusedVariables false

theorem own : ownKnob Tryd.prog.godebug = none := by kernel_rfl
theorem laidOut : laidOutB Tryd.prog = true := by kernel_rfl
theorem gFirst : Tryd.prog.globalNamed "loop.example/g00220/impl.firstWords" = some 1 := by kernel_rfl
theorem gFirstType : (Tryd.prog.globals[1]?).map (·.type) = some 34 := by kernel_rfl
theorem gRound : Tryd.prog.globalNamed "loop.example/g00220/impl.roundWords" = some 2 := by kernel_rfl
theorem gRoundType : (Tryd.prog.globals[2]?).map (·.type) = some 37 := by kernel_rfl
theorem cellsA : Tryd.prog.cellsOf 34 = 8 := by kernel_rfl
theorem cellsB : Tryd.prog.cellsOf 37 = 64 := by kernel_rfl
theorem cellsE : Tryd.prog.cellsOf 33 = 1 := by kernel_rfl
def firstCells : Array Value := (cells32 8 iW).toArray
def roundCells : Array Value := (cells32 64 kW).toArray
def firstH {H : Type} : DataW H := .agg ((List.range 8).map fun j => .lit (.int .u32 (iW j)))
def roundH {H : Type} : DataW H := .agg ((List.range 64).map fun j => .lit (.int .u32 (kW j)))
theorem vars_of_laid {W : World} (h : laidMetH Tryd.prog Rows.fnExactHashRow.laid W) :
    W.var? Tryd.prog "loop.example/g00220/impl.firstWords" = some firstCells ∧ W.var? Tryd.prog "loop.example/g00220/impl.roundWords" = some roundCells := by
  rw [MakeChecks.laidMetH_plain _ _ _ (by kernel_rfl)] at h
  obtain ⟨ps, ⟨g0, t0, cs0, f0, p0, q0, hg0, ht0, hv0, hd0, ⟨g1, t1, cs1, f1, p1, q1, hg1, ht1, hv1, hd1, _, _⟩, _⟩, _, _⟩ := h
  obtain rfl := Option.some.inj (gFirst.symm.trans hg0)
  obtain rfl := Option.some.inj (gRound.symm.trans hg1)
  obtain rfl := Option.some.inj (gFirstType.symm.trans ht0)
  obtain rfl := Option.some.inj (gRoundType.symm.trans ht1)
  have e0 := Lib.cells_of_tab (k := .u32) (cs := cs0.toList) (zs := iL.map fun (n : Nat) => (n : Int)) Tryd.underlying34 Tryd.underlying33 cellsE cellsA hd0
  have e1 := Lib.cells_of_tab (k := .u32) (cs := cs1.toList) (zs := kL.map fun (n : Nat) => (n : Int)) Tryd.underlying37 Tryd.underlying33 cellsE cellsB hd1
  have a0 : cs0 = firstCells := by
    have : cs0.toList = firstCells.toList := e0.trans (by kernel_rfl)
    exact Array.toList_inj.1 this
  have a1 : cs1 = roundCells := by
    have : cs1.toList = roundCells.toList := e1.trans (by kernel_rfl)
    exact Array.toList_inj.1 this
  exact ⟨by rw [hv0, a0], by rw [hv1, a1]⟩
theorem first_of {W : World} (h : W.var? Tryd.prog "loop.example/g00220/impl.firstWords" = some firstCells) : First W := by
  have hc : ∀ i, i < 8 → W.cell? ⟨1, i, none⟩ = some (.int .u32 (iW i)) := fun i hi => by
    rw [World.var?_cell gFirst h i]; simp [firstCells, cells32, hi]
  exact ⟨World.block_lt_of_cell? W _ (hc 0 (by omega)), hc⟩
theorem table_of {W : World} (h : W.var? Tryd.prog "loop.example/g00220/impl.roundWords" = some roundCells) : Table W := by
  have hc : ∀ i, i < 64 → W.cell? ⟨2, i, none⟩ = some (.int .u32 (kW i)) := fun i hi => by
    rw [World.var?_cell gRound h i]; simp [roundCells, cells32, hi]
  exact ⟨World.block_lt_of_cell? W _ (hc 0 (by omega)), hc⟩
theorem reads_first {H : Type} (enc : TypeId × Value → H) (W : World) (sp : Nat → Bool) : DataW.trod enc Tryd.prog W 0 sp true 3 34 firstCells.toList = some (firstH, []) := by kernel_rfl
theorem reads_round {H : Type} (enc : TypeId × Value → H) (W : World) (sp : Nat → Bool) : DataW.trod enc Tryd.prog W 0 sp true 3 37 roundCells.toList = some (roundH, []) := by kernel_rfl
theorem vars_again {H : Type} {enc : TypeId × Value → H} {W W' : World} {sp : Nat → Bool} {gs : List (DataW H)} {q : List MemPlace}
    (hv1 : W.var? Tryd.prog "loop.example/g00220/impl.firstWords" = some firstCells) (hv2 : W.var? Tryd.prog "loop.example/g00220/impl.roundWords" = some roundCells)
    (hV : DataW.TrodVars enc Tryd.prog W (fun _ => true) ["loop.example/g00220/impl.firstWords", "loop.example/g00220/impl.roundWords"] gs q) (hb : Below W.heap.size W W') :
    gs = [firstH, roundH] ∧ ∃ pv, DataW.TrodVars enc Tryd.prog W' sp ["loop.example/g00220/impl.firstWords", "loop.example/g00220/impl.roundWords"] [firstH, roundH] pv := by
  match gs, hV with
  | d1 :: gs1, ⟨g, t, cs, fuel, p, q1, hg, ht, hvar, hd, hV1, _⟩ =>
    match gs1, hV1 with
    | d2 :: gs2, ⟨g', t', cs', fuel', p', q2, hg', ht', hvar', hd', hV2, _⟩ =>
      match gs2, hV2 with
      | [], _ =>
        obtain rfl := Option.some.inj (gFirst.symm.trans hg)
        obtain rfl := Option.some.inj (gFirstType.symm.trans ht)
        obtain rfl := Option.some.inj (gRound.symm.trans hg')
        obtain rfl := Option.some.inj (gRoundType.symm.trans ht')
        obtain rfl : cs = firstCells := Option.some.inj (hvar.symm.trans hv1)
        obtain rfl : cs' = roundCells := Option.some.inj (hvar'.symm.trans hv2)
        obtain ⟨rfl, rfl⟩ := DataW.Trod.unique (v := .agg firstCells) ⟨fuel, hd⟩ ⟨3, reads_first enc W _⟩
        obtain ⟨rfl, rfl⟩ := DataW.Trod.unique (v := .agg roundCells) ⟨fuel', hd'⟩ ⟨3, reads_round enc W _⟩
        exact ⟨rfl, _, 1, 34, firstCells, 3, [], _, hg, ht, var?_below hb gFirst (first_of hv1).1 hv1, reads_first enc W' sp,
          ⟨2, 37, roundCells, 3, [], [], hg', ht', var?_below hb gRound (table_of hv2).1 hv2, reads_round enc W' sp, rfl, rfl⟩, rfl⟩
theorem First.below {w w' : World} (h : First w) (hb : Below w.heap.size w w') : First w' :=
  ⟨Nat.lt_of_lt_of_le h.1 hb.size, fun i hi => by rw [hb.cell (p := ⟨1, i, none⟩) h.1]; exact h.2 i hi⟩

set_option maxRecDepth 100000 in
set_option maxHeartbeats 1000000 in
theorem walk (a0 : Option Addr) (len0 cap0 : Nat) (z0 : List Int) (w : World) (w0 : IsRow .u8 w a0 len0 cap0 z0) (hf : First w) (ht : Table w) :
    Calls Tryd.prog 5 #[.slice a0 len0 cap0] w fun e w' => e = .returned (.bool true) ∧ Below w.heap.size w w' := by
  have hB := bytes_of_row w0
  obtain ⟨a, cap, hv, hm, hc, hr⟩ := id hB
  have hlen : len0 = (z0.take len0).length := by simp only [Value.slice.injEq] at hv; exact hv.2.1
  have hmx : len0 ≤ 9223372036854775807 := by unfold maxLen at hm; omega
  have HB := hide hB
  have HF := hide hf
  have HT := hide ht
  clear hv hc hr hm hB w0 hf ht
  generalize z0.take len0 = l at *
  by_cases h : len0 ≤ 1048576
  · have HL := hide hlen
    clear hlen
    go_enter Tryd.func5, Tryd.ntmps5
    go_wp2_with fail
    refine (toByteS_any _ l _ (unhide HB) (by rw [← unhide HL]; exact h)).mono ?_
    rintro e w1 ⟨g1, rfl, hg1, hB1, hb1⟩
    go_wp2_with fail
    refine (specHash_any _ _ l _ hB1).mono ?_
    rintro e w2 ⟨rfl, hb2⟩
    have hb12 := hb1.trans (hb2.mono hb1.size)
    have hA2 := hide ((unhide HB).below hb12)
    clear hB1
    go_wp2_with fail
    refine (toByteS_any _ l _ (unhide hA2) (by rw [← unhide HL]; exact h)).mono ?_
    rintro e w3 ⟨g3, rfl, hg3, hB3, hb3⟩
    have HB3 := hide hB3
    have hA3 := hide ((unhide hA2).below hb3)
    have hb13 := hb12.trans (hb3.mono hb12.size)
    clear hB3
    go_wp2_with fail
    refine (implHash_any _ l _ (unhide HB3) ((unhide HT).below hb13 (Nat.le_refl _)) (First.below (unhide HF) hb13)).mono ?_
    rintro e w4 ⟨rfl, hb4⟩
    have hA4 := hide ((unhide hA3).below hb4)
    have HB4 := hide ((unhide HB3).below hb4)
    have hb14 := hb13.trans (hb4.mono hb13.size)
    generalize hashV l = hx at *
    go_wp2_with fail
    refine (toByteS_any _ l _ (unhide hA4) (by rw [← unhide HL]; exact h)).mono ?_
    rintro e w5 ⟨g5, rfl, hg5, hB5, hb5⟩
    have HB5 := hide hB5
    have hb15 := hb14.trans (hb5.mono hb14.size)
    clear hB5
    go_wp2_with fail
    refine (eqByteS_any _ _ l _ ((unhide HB4).below hb5) (unhide HB5) (by rw [← unhide HL]; exact h)).mono ?_
    rintro e w6 ⟨rfl, n, rfl⟩
    go_wp2_with fail
    go_ret
    exact ⟨rfl, below_drewN hb15 n⟩
  · go_enter Tryd.func5, Tryd.ntmps5
    go_wp2_with fail
    go_ret
    exact ⟨rfl, Below.refl _ _⟩

theorem door_met (os : Os) (args : Array Value) : laidMetH Tryd.prog Rows.fnExactHashRow.laid ((World.doorLaid Tryd.prog 24 os).forCall (fun _ _ => 0) ⟨#[], args, []⟩).memory :=
  laidMetH_of_parts3 (fuel := 8) (laidMet_of_run' 8 (by kernel_rfl) (by kernel_rfl)) (by kernel_rfl) (by kernel_rfl)
set_option maxRecDepth 100000 in
theorem lifted (os : Os) (started : os.Started) (H : Type) (enc : TypeId × Value → H) :
    ReturnsInHanded {} Tryd.checked os 5 .any (fun w args => (Rows.fnExactHashSpec.pre enc Tryd.prog Tryd.f5 [] false w args ∧ laidMetH Tryd.prog Rows.fnExactHashRow.laid w) ∧ sizedMet enc Tryd.prog Tryd.f5 (OpenSpec.ofChange Rows.fnExactHashSpec) false w args)
      (Rows.fnExactHashSpec.post enc Tryd.prog Tryd.f5 false true false false) := by
  refine returnsInHanded_of_change_and (C := Tryd.checked) (X := fun w _ => laidMetH Tryd.prog Rows.fnExactHashRow.laid w) (fun _ _ _ hh h => h.of_heap hh) own started (by kernel_rfl) Tryd.func5
    (ChangeSpec.witness_shaped (enc := enc) (C := Tryd.checked) (os := os) (X := fun w _ => laidMetH Tryd.prog Rows.fnExactHashRow.laid w) false (World.doorLaid Tryd.prog 24 os) #[.slice none 0 0] 8 rfl (World.shaped_of_RefB (by kernel_rfl) (by kernel_rfl)) (by kernel_rfl) (by kernel_rfl) (by kernel_rfl) (door_met os _)) ?_
  intro W base args ds gs before hval0 hW _ _ hL _
  have hval : ∀ (j : Nat) t v, Tryd.f5.params[j]? = some t → args[j]? = some v → Value.okWide Tryd.prog W .any base t v := hval0
  have hW' := hW
  obtain ⟨p, q, hA0, hV0, rfl, hfz, hnd⟩ := hW
  have hA : DataW.TrodAll enc Tryd.prog W 0 (fun _ => true) true Tryd.f5.params.toList args.toList ds p := hA0
  have hV : DataW.TrodVars enc Tryd.prog W (fun _ => true) ["loop.example/g00220/impl.firstWords", "loop.example/g00220/impl.roundWords"] gs q := hV0
  rw [Tryd.params5] at hA hval
  obtain ⟨v0, vs0, d0, ds0, p0, q0, hargs, rfl, rfl, h0, r0⟩ := trodAll_cons hA
  obtain ⟨rfl, rfl, rfl⟩ := trodAll_nil r0
  obtain rfl : args = #[v0] := by cases args; simp_all
  obtain ⟨a0, len0, cap0, rfl⟩ := okWide_slice Tryd.underlying26 (hval 0 26 v0 rfl rfl)
  have k0 := h0
  have lt0 : ∀ x ∈ p0, x.block < W.heap.size := by obtain ⟨m, hm⟩ := k0; exact DataW.trod_lt m _ _ _ hm
  obtain ⟨z0, w0⟩ : ∃ zs, IsRow .u8 W a0 len0 cap0 zs := by
    obtain ⟨fuel, hf⟩ := h0
    rcases open_ints Tryd.underlying26 Tryd.underlying5 (by kernel_rfl) hf with ⟨hcs, _⟩ | ⟨x, l, c, zs, hcs, _, hl, hm, hz, _, hcell, hwz⟩
    · simp [Value.cells] at hcs
      obtain ⟨rfl, rfl, rfl⟩ := hcs
      exact ⟨[], .inl ⟨rfl, rfl, rfl, rfl⟩⟩
    · simp [Value.cells] at hcs
      obtain ⟨rfl, rfl, rfl⟩ := hcs
      exact ⟨zs, .inr ⟨_, rfl, hl, hm, by simpa using hz, hcell, hwz⟩⟩
  obtain ⟨hv1, hv2⟩ := vars_of_laid hL
  clear hA0 hV0 hval0
  refine (walk a0 len0 cap0 z0 W w0 (first_of hv1) (table_of hv2)).mono fun e W' ⟨he, bel⟩ => ?_
  subst he
  obtain ⟨rfl, pv, hvs⟩ := vars_again (sp := fun b => decide (b < W.heap.size)) hv1 hv2 hV bel
  exact ⟨_, rfl, _, _, _, [], _, pv, hW', trodAll_mk1 (shut_bool Tryd.underlying4 _), (trodAll_cons_mk (Below.trod laidOut (by kernel_rfl) (of_decide_eq_true (by kernel_rfl)) k0 bel lt0) trodAll_mk0), hvs, bel.frame _, fun h => by cases h⟩

theorem said : Rows.FnExactHashSaid :=
  OpenClaim.holds_of_wide 5 Tryd.f5 rfl rfl rfl rfl rfl rfl rfl ⟨rfl, rfl, rfl, rfl, rfl⟩ rfl rfl rfl rfl rfl (by kernel_rfl) Tryd.func5 (by kernel_rfl)
    (of_decide_eq_true (by kernel_rfl)) (by unfold Func.isWrapper; first | (rw [if_pos (by decide +kernel)]; kernel_rfl) | (rw [if_neg (by decide +kernel)]; exact ⟨rfl, rfl⟩))
    (fun os started H enc _ => lifted os started H enc)

theorem plain (f : FuncId) (fn : Func) (hf : Tryd.pinned.checked.prog.funcNamed "loop.example/g00220/laws.FnExactHash" = some f) (hfn : Tryd.pinned.checked.prog.funcs[f]? = some fn) :
    false = Tryd.pinned.checked.prog.looks [] ∧ ∀ (j : Nat) t, fn.params[j]? = some t → Tryd.pinned.checked.prog.wantsStandIn t = false := by
  obtain rfl : f = 5 := Option.some.inj ((show Tryd.prog.funcNamed "loop.example/g00220/laws.FnExactHash" = some 5 by kernel_rfl).symm.trans hf) |>.symm
  obtain rfl : fn = Tryd.f5 := (Option.some.inj (Tryd.func5.symm.trans hfn)).symm
  refine ⟨by kernel_rfl, fun j t ht => ?_⟩
  rw [Tryd.params5] at ht
  obtain rfl : t = 26 := by simpa using Array.mem_of_getElem? ht
  exact (show Tryd.prog.wantsStandIn 26 = false by kernel_rfl)
end Go.Proofs.YtbpadjocaigpgagDoor.fnExactHash
namespace Go.Proofs.YtbpadjocaigpgagDoor
theorem fnExactHash_card : Rows.FnExactHashCardSaid :=
  Claim7.holds_tied_plain_at .later [] _ _ _ _ fnExactHash.said (fun _ h => by cases h) (by kernel_rfl) (fun _ h => by cases h) fnExactHash_row_tie rfl ⟨rfl, rfl⟩ (by kernel_rfl) rfl fnExactHash.plain (by kernel_rfl)
#print axioms fnExactHash_card
end Go.Proofs.YtbpadjocaigpgagDoor
