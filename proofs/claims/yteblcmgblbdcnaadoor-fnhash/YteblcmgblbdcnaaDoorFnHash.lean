/- For every slice of bytes that can be read, laws.FnHash returns true, the slice reads as it did, and so do the two tables of words, which the card ties to the program's text. Condition: the listed tables start as the program's text lays them. -/
import Derived.Test.YteblcmgblbdcnaaDoorShaH
import Derived.Test.YteblcmgblbdcnaaDoorHashPure
import Derived.Test.YteblcmgblbdcnaaDoorSrcB
import Derived.Test.YteblcmgblbdcnaaDoorCheck32
import Derived.Test.YteblcmgblbdcnaaDoorCards
import Derived.Test.YteblcmgblbdcnaaDoorTie
import Derived.WalkSmall
import Derived.LaidMore
import Derived.Stop.Joined
import Derived.Lib.LaidTab
import Derived.ChangeVars
namespace Go.Proofs.YteblcmgblbdcnaaDoor.fnHash
open Go.ChangeShapes Go.WideShapes Go.ChangeAt Go.RowKit Sha
set_option linter.unusedVariables false

theorem own : ownKnob Tryd.prog.godebug = none := by kernel_rfl
theorem laidOut : laidOutB Tryd.prog = true := by kernel_rfl
theorem gFirst : Tryd.prog.globalNamed "loop.example/g00220/impl.firstWords" = some 0 := by kernel_rfl
theorem gFirstType : (Tryd.prog.globals[0]?).map (·.type) = some 33 := by kernel_rfl
theorem gRound : Tryd.prog.globalNamed "loop.example/g00220/impl.roundWords" = some 1 := by kernel_rfl
theorem gRoundType : (Tryd.prog.globals[1]?).map (·.type) = some 37 := by kernel_rfl
theorem cellsA : Tryd.prog.cellsOf 33 = 8 := by kernel_rfl
theorem cellsB : Tryd.prog.cellsOf 37 = 64 := by kernel_rfl
theorem cellsE : Tryd.prog.cellsOf 32 = 1 := by kernel_rfl
def firstCells : Array Value := (cells32 8 iW).toArray
def roundCells : Array Value := (cells32 64 kW).toArray
def firstH {H : Type} : DataW H := .agg ((List.range 8).map fun j => .lit (.int .u32 (iW j)))
def roundH {H : Type} : DataW H := .agg ((List.range 64).map fun j => .lit (.int .u32 (kW j)))
theorem vars_of_laid {W : World} (h : laidMetH Tryd.prog Rows.fnHashRow.laid W) :
    W.var? Tryd.prog "loop.example/g00220/impl.firstWords" = some firstCells ∧ W.var? Tryd.prog "loop.example/g00220/impl.roundWords" = some roundCells := by
  rw [MakeChecks.laidMetH_plain _ _ _ (by kernel_rfl)] at h
  obtain ⟨ps, ⟨g0, t0, cs0, f0, p0, q0, hg0, ht0, hv0, hd0, ⟨g1, t1, cs1, f1, p1, q1, hg1, ht1, hv1, hd1, _, _⟩, _⟩, _, _⟩ := h
  obtain rfl := Option.some.inj (gFirst.symm.trans hg0)
  obtain rfl := Option.some.inj (gRound.symm.trans hg1)
  obtain rfl := Option.some.inj (gFirstType.symm.trans ht0)
  obtain rfl := Option.some.inj (gRoundType.symm.trans ht1)
  have e0 := Lib.cells_of_tab (k := .u32) (cs := cs0.toList) (zs := iL.map fun (n : Nat) => (n : Int)) Tryd.underlying33 Tryd.underlying32 cellsE cellsA hd0
  have e1 := Lib.cells_of_tab (k := .u32) (cs := cs1.toList) (zs := kL.map fun (n : Nat) => (n : Int)) Tryd.underlying37 Tryd.underlying32 cellsE cellsB hd1
  have a0 : cs0 = firstCells := by
    have : cs0.toList = firstCells.toList := e0.trans (by kernel_rfl)
    exact Array.toList_inj.1 this
  have a1 : cs1 = roundCells := by
    have : cs1.toList = roundCells.toList := e1.trans (by kernel_rfl)
    exact Array.toList_inj.1 this
  exact ⟨by rw [hv0, a0], by rw [hv1, a1]⟩
theorem first_of {W : World} (h : W.var? Tryd.prog "loop.example/g00220/impl.firstWords" = some firstCells) : First W := by
  have hc : ∀ i, i < 8 → W.cell? ⟨0, i, none⟩ = some (.int .u32 (iW i)) := fun i hi => by
    rw [World.var?_cell gFirst h i]; simp [firstCells, cells32, hi]
  exact ⟨World.block_lt_of_cell? W _ (hc 0 (by omega)), hc⟩
theorem table_of {W : World} (h : W.var? Tryd.prog "loop.example/g00220/impl.roundWords" = some roundCells) : Table W := by
  have hc : ∀ i, i < 64 → W.cell? ⟨1, i, none⟩ = some (.int .u32 (kW i)) := fun i hi => by
    rw [World.var?_cell gRound h i]; simp [roundCells, cells32, hi]
  exact ⟨World.block_lt_of_cell? W _ (hc 0 (by omega)), hc⟩
theorem reads_first {H : Type} (enc : TypeId × Value → H) (W : World) (sp : Nat → Bool) : DataW.trod enc Tryd.prog W 0 sp true 3 33 firstCells.toList = some (firstH, []) := by kernel_rfl
theorem reads_round {H : Type} (enc : TypeId × Value → H) (W : World) (sp : Nat → Bool) : DataW.trod enc Tryd.prog W 0 sp true 3 37 roundCells.toList = some (roundH, []) := by kernel_rfl
theorem vars_again {H : Type} {enc : TypeId × Value → H} {W W' : World} {sp : Nat → Bool} {gs : List (DataW H)} {q : List MemPlace}
    (hv1 : W.var? Tryd.prog "loop.example/g00220/impl.firstWords" = some firstCells) (hv2 : W.var? Tryd.prog "loop.example/g00220/impl.roundWords" = some roundCells)
    (hV : DataW.TrodVars enc Tryd.prog W (fun _ => true) ["loop.example/g00220/impl.firstWords", "loop.example/g00220/impl.roundWords"] gs q) (hb : Below W.heap.size W W') :
    gs = [firstH, roundH] ∧ ∃ pv, DataW.TrodVars enc Tryd.prog W' sp ["loop.example/g00220/impl.firstWords", "loop.example/g00220/impl.roundWords"] [firstH, roundH] pv := by
  match gs, hV with
  | d1 :: gs1, ⟨g, t, cs, fuel, p, q1, hg, ht, hvar, hd, hV1, _⟩ =>
    match gs1, hV1 with
    | d2 :: gs2, ⟨g', t', cs', fuel', p', q2, hg', ht', hvar', hd', hV2, _⟩ =>
      match gs2, hV2 with
      | [], _ =>
        obtain rfl := Option.some.inj (gFirst.symm.trans hg)
        obtain rfl := Option.some.inj (gFirstType.symm.trans ht)
        obtain rfl := Option.some.inj (gRound.symm.trans hg')
        obtain rfl := Option.some.inj (gRoundType.symm.trans ht')
        obtain rfl : cs = firstCells := Option.some.inj (hvar.symm.trans hv1)
        obtain rfl : cs' = roundCells := Option.some.inj (hvar'.symm.trans hv2)
        obtain ⟨rfl, rfl⟩ := DataW.Trod.unique (v := .agg firstCells) ⟨fuel, hd⟩ ⟨3, reads_first enc W _⟩
        obtain ⟨rfl, rfl⟩ := DataW.Trod.unique (v := .agg roundCells) ⟨fuel', hd'⟩ ⟨3, reads_round enc W _⟩
        exact ⟨rfl, _, 0, 33, firstCells, 3, [], _, hg, ht, var?_below hb gFirst (first_of hv1).1 hv1, reads_first enc W' sp,
          ⟨1, 37, roundCells, 3, [], [], hg', ht', var?_below hb gRound (table_of hv2).1 hv2, reads_round enc W' sp, rfl, rfl⟩, rfl⟩
theorem First.below {w w' : World} (h : First w) (hb : Below w.heap.size w w') : First w' :=
  ⟨Nat.lt_of_lt_of_le h.1 hb.size, fun i hi => by rw [hb.cell (p := ⟨0, i, none⟩) h.1]; exact h.2 i hi⟩

theorem hash_size {l : List Int} (h : l.length ≤ 150) : (hashV l).size = 32 := by
  unfold hashV; rw [if_neg (by omega), strOfNums_size]; simp [textL]
theorem textV_is {s : ByteArray} (h : s.size = 32) : fnExactHashText.textV s = .tuple #[.string (strOfNums (fnExactHashText.hexL s 32)), .int .i64 0] := by
  unfold fnExactHashText.textV; rw [if_pos h, h]
theorem bitV_is {s : ByteArray} (h : s.size = 32) : fnExactHashBits.textV s = .tuple #[.string (strOfNums (bitL s 256)), .int .i64 0] := by
  unfold fnExactHashBits.textV; rw [if_pos h, h]

set_option maxRecDepth 100000 in
set_option maxHeartbeats 2000000 in
theorem walk (a0 : Option Addr) (len0 cap0 : Nat) (z0 : List Int) (w : World) (w0 : IsRow .u8 w a0 len0 cap0 z0) (hf : First w) (ht : Table w) :
    Calls Tryd.prog 3 #[.slice a0 len0 cap0] w fun e w' => e = .returned (.bool true) ∧ Below w.heap.size w w' := by
  have hB := bytes_of_row w0
  obtain ⟨a, cap, hv, hm, hc, hr⟩ := id hB
  have hlen : len0 = (z0.take len0).length := by simp only [Value.slice.injEq] at hv; exact hv.2.1
  have hmx : len0 ≤ 9223372036854775807 := by unfold maxLen at hm; omega
  have HB := hide hB
  have HF := hide hf
  have HT := hide ht
  clear hv hc hr hm hB w0 hf ht
  generalize z0.take len0 = l at *
  by_cases h : len0 ≤ 1048576
  · subst hlen
    go_enter Tryd.func3, Tryd.ntmps3
    go_wp2_with fail
    refine (bytesOf_any 150 a0 cap0 l w (unhide HB) (by omega) (by omega)).mono ?_
    rintro e w1 ⟨g, c, ns, rfl, hns, hB1, hb1, hg⟩
    have HB1 := hide hB1
    have hz := hash_size hns
    have Z1 := hide hb1
    clear hB1 hb1
    go_wp2_with fail
    refine (implHash_any _ ns _ (unhide HB1) ((unhide HT).below (unhide Z1) (Nat.le_refl _)) (First.below (unhide HF) (unhide Z1))).mono ?_
    rintro e w2 ⟨rfl, hb⟩
    have HB2 := hide ((unhide HB1).below hb)
    have Z2 := hide ((unhide Z1).trans (hb.mono (unhide Z1).size))
    have HV := hide (And.intro (textV_is hz) (And.intro (bitV_is hz) (HashPure.read_back _ hz)))
    have HA := hide (HashPure.bits_at (hashV ns))
    have hhe : Hid (hashV ns = hashV ns) := rfl
    generalize hh : hashV ns = s at *
    have hsz : s.size ≤ maxLen := by unfold maxLen; omega
    have HS := hide hsz
    clear hb HB1 Z1 hsz
    go_wp2_with fail
    refine (fnExactHashText.implHashText_any s _ (unhide HS)).mono ?_
    rintro e w3 ⟨rfl, hb⟩
    rw [(unhide HV).1]
    have HB3 := hide ((unhide HB2).below hb)
    have Z3 := hide ((unhide Z2).trans (hb.mono (unhide Z2).size))
    clear hb HB2 Z2
    go_wp2_with fail
    refine (specHash_any _ _ ns _ (unhide HB3)).mono ?_
    rintro e w4 ⟨rfl, hb⟩
    rw [hh]
    have HB4 := hide ((unhide HB3).below hb)
    have Z4 := hide ((unhide Z3).trans (hb.mono (unhide Z3).size))
    clear hb HB3 Z3
    go_wp2_with fail
    refine (fnExactHashText.specHashText_any s _ (unhide HS)).mono ?_
    rintro e w5 ⟨rfl, hb⟩
    rw [(unhide HV).1]
    have HB5 := hide ((unhide HB4).below hb)
    have Z5 := hide ((unhide Z4).trans (hb.mono (unhide Z4).size))
    clear hb HB4 Z4
    have HTS : Hid ((strOfNums (fnExactHashText.hexL s 32)).size ≤ maxLen) := by
      unfold Hid maxLen; rw [strOfNums_size, fnExactHashText.hexL_len]; omega
    have HR := hide (unhide HV).2.2
    generalize strOfNums (fnExactHashText.hexL s 32) = t at *
    go_wp2_with fail
    refine (fnExactReadHash.implRead_any t _ (unhide HTS)).mono ?_
    rintro e w6 ⟨rfl, hb⟩
    rw [unhide HR]
    have HB6 := hide ((unhide HB5).below hb)
    have Z6 := hide ((unhide Z5).trans (hb.mono (unhide Z5).size))
    clear hb HB5 Z5
    go_wp2_with fail
    refine (fnExactHashBits.implBits_any s _ (unhide HS)).mono ?_
    rintro e w7 ⟨rfl, hb⟩
    rw [(unhide HV).2.1]
    have HB7 := hide ((unhide HB6).below hb)
    have Z7 := hide ((unhide Z6).trans (hb.mono (unhide Z6).size))
    have hbz : (strOfNums (bitL s 256)).size = 256 := by rw [strOfNums_size, bitL_len]
    clear hb HB6 Z6
    generalize strOfNums (bitL s 256) = bs at *
    go_wp2_with fail
    refine (fnExactCheck32.implCheck_any _ ns _ (unhide HB7)).mono ?_
    rintro e w8 ⟨rfl, rfl⟩
    go_wp2_with fail
    refine (fnExactCheck32.specCheck_any _ ns _ (unhide HB7)).mono ?_
    rintro e w9 ⟨rfl, rfl⟩
    generalize fnExactCheck32.crcV ns = cv at *
    go_wp2_with fail
    go_loop [13, 14, 15] (fun i n k => ∃ m : Nat, m ≤ 32 ∧ i = .int .i64 m) (fun i _ _ => 32 - (intOf i).toNat)
    case atStart => exact ⟨0, by omega, rfl⟩
    case round =>
      obtain ⟨m, hm, rfl⟩ := hrel
      by_cases hlt : m < 32
      · have e1 := bAt_eq s m (by omega)
        have hb0 := bAt_lo s m
        have hb1 := bAt_hi s m
        have hi1 : (m : Int) < (s.size : Int) := by omega
        have HA2 := hide (unhide HA m)
        go_wp2_with fail
        go_loop [14, 15] (fun n k => ∃ j : Nat, j ≤ 8 ∧ n = .int .i64 (HashPure.top (bAt s m) j) ∧ k = .int .i64 j) (fun _ k => 8 - (intOf k).toNat)
        case atStart => exact ⟨0, by omega, by rw [HashPure.top_zero _ hb0 hb1], rfl⟩
        case round =>
          obtain ⟨j, hj, rfl, rfl⟩ := hrel
          by_cases hj8 : j < 8
          · have e2 := bAt_eq bs (8 * m + j) (by omega)
            rw [unhide HA2 j hlt hj8] at e2
            have hd0 : 0 ≤ bAt s m / 2 ^ (7 - j) % 2 := by omega
            have hd1 : bAt s m / 2 ^ (7 - j) % 2 < 2 := by omega
            have ht0 := HashPure.top_lo (bAt s m) j hb0
            have ht1 := HashPure.top_hi (bAt s m) j hb0 hb1
            have HT8 := hide (HashPure.top_step (bAt s m) j hj8)
            have hx1 : 8 * (m : Int) + (j : Int) < (bs.size : Int) := by omega
            have hx0 : 0 ≤ 8 * (m : Int) + (j : Int) := by omega
            generalize bAt s m / 2 ^ (7 - j) % 2 = d at *
            generalize HashPure.top (bAt s m) j = tp at *
            have m1 : IntKind.i64.wrap (8 * (m : Int)) = 8 * (m : Int) := wrapS _ (by omega) (by omega)
            have m2 : IntKind.i64.wrap (8 * (m : Int) + (j : Int)) = 8 * (m : Int) + (j : Int) := wrapS _ (by omega) (by omega)
            have m3 : IntKind.i64.wrap (2 * tp) = 2 * tp := wrapS _ (by omega) (by omega)
            have m4 : IntKind.i64.wrap (2 * tp + d) = 2 * tp + d := wrapS _ (by omega) (by omega)
            have m5 : IntKind.i64.wrap d = d := wrapS _ (by omega) (by omega)
            have m6 : IntKind.u8.wrap (48 + d - 48) = d := by
              rw [show 48 + d - 48 = d by omega]; simp only [IntKind.wrap, IntKind.bits, IntKind.signed]; simp; omega
            have m7 : IntKind.i64.wrap ((j : Int) + 1) = (j : Int) + 1 := wrapS _ (by omega) (by omega)
            have hn : (8 * (m : Int) + (j : Int)).toNat = 8 * m + j := by omega
            clear e1 HA HA2 HV HS HTS HR HB7 hhe HT HF
            go_wp2_with fail
            refine ⟨⟨j + 1, by omega, ?_, by go_num⟩, ?_⟩
            · rw [unhide HT8]
            · simp [intOf]; omega
          · obtain rfl : j = 8 := by omega
            have et := HashPure.top_all (bAt s m)
            generalize HashPure.top (bAt s m) 8 = tp at *
            subst et
            clear HA HA2 HV HS HTS HR HB7 hhe HT HF
            go_wp2_with fail
            exact ⟨⟨m + 1, by omega, by go_num⟩, by simp [intOf]; omega⟩
      · obtain rfl : m = 32 := by omega
        go_wp2_with fail
        go_ret
        exact ⟨rfl, unhide Z7⟩
  · go_enter Tryd.func3, Tryd.ntmps3
    go_wp2_with fail
    go_ret
    exact ⟨rfl, Below.refl _ _⟩

theorem door_met (os : Os) (args : Array Value) : laidMetH Tryd.prog Rows.fnHashRow.laid ((World.doorLaid Tryd.prog 19 os).forCall (fun _ _ => 0) ⟨#[], args, []⟩).memory :=
  laidMetH_of_parts3 (fuel := 8) (laidMet_of_run' 8 (by kernel_rfl) (by kernel_rfl)) (by kernel_rfl) (by kernel_rfl)
set_option maxRecDepth 100000 in
theorem lifted (os : Os) (started : os.Started) (H : Type) (enc : TypeId × Value → H) :
    ReturnsInHanded {} Tryd.checked os 3 .any (fun w args => (Rows.fnHashSpec.pre enc Tryd.prog Tryd.f3 [] false w args ∧ laidMetH Tryd.prog Rows.fnHashRow.laid w) ∧ sizedMet enc Tryd.prog Tryd.f3 (OpenSpec.ofChange Rows.fnHashSpec) false w args)
      (Rows.fnHashSpec.post enc Tryd.prog Tryd.f3 false true false false) := by
  refine returnsInHanded_of_change_and (C := Tryd.checked) (X := fun w _ => laidMetH Tryd.prog Rows.fnHashRow.laid w) (fun _ _ _ hh h => h.of_heap hh) own started (by kernel_rfl) Tryd.func3
    (ChangeSpec.witness_shaped (enc := enc) (C := Tryd.checked) (os := os) (X := fun w _ => laidMetH Tryd.prog Rows.fnHashRow.laid w) false (World.doorLaid Tryd.prog 19 os) #[.slice none 0 0] 8 rfl (World.shaped_of_RefB (by kernel_rfl) (by kernel_rfl)) (by kernel_rfl) (by kernel_rfl) (by kernel_rfl) (door_met os _)) ?_
  intro W base args ds gs before hval0 hW _ _ hL _
  have hval : ∀ (j : Nat) t v, Tryd.f3.params[j]? = some t → args[j]? = some v → Value.okWide Tryd.prog W .any base t v := hval0
  have hW' := hW
  obtain ⟨p, q, hA0, hV0, rfl, hfz, hnd⟩ := hW
  have hA : DataW.TrodAll enc Tryd.prog W 0 (fun _ => true) true Tryd.f3.params.toList args.toList ds p := hA0
  have hV : DataW.TrodVars enc Tryd.prog W (fun _ => true) ["loop.example/g00220/impl.firstWords", "loop.example/g00220/impl.roundWords"] gs q := hV0
  rw [Tryd.params3] at hA hval
  obtain ⟨v0, vs0, d0, ds0, p0, q0, hargs, rfl, rfl, h0, r0⟩ := trodAll_cons hA
  obtain ⟨rfl, rfl, rfl⟩ := trodAll_nil r0
  obtain rfl : args = #[v0] := by cases args; simp_all
  obtain ⟨a0, len0, cap0, rfl⟩ := okWide_slice Tryd.underlying22 (hval 0 22 v0 rfl rfl)
  have k0 := h0
  have lt0 : ∀ x ∈ p0, x.block < W.heap.size := by obtain ⟨m, hm⟩ := k0; exact DataW.trod_lt m _ _ _ hm
  obtain ⟨z0, w0⟩ : ∃ zs, IsRow .u8 W a0 len0 cap0 zs := by
    obtain ⟨fuel, hf⟩ := h0
    rcases open_ints Tryd.underlying22 Tryd.underlying5 (by kernel_rfl) hf with ⟨hcs, _⟩ | ⟨x, l, c, zs, hcs, _, hl, hm, hz, _, hcell, hwz⟩
    · simp [Value.cells] at hcs
      obtain ⟨rfl, rfl, rfl⟩ := hcs
      exact ⟨[], .inl ⟨rfl, rfl, rfl, rfl⟩⟩
    · simp [Value.cells] at hcs
      obtain ⟨rfl, rfl, rfl⟩ := hcs
      exact ⟨zs, .inr ⟨_, rfl, hl, hm, by simpa using hz, hcell, hwz⟩⟩
  obtain ⟨hv1, hv2⟩ := vars_of_laid hL
  clear hA0 hV0 hval0
  refine (walk a0 len0 cap0 z0 W w0 (first_of hv1) (table_of hv2)).mono fun e W' ⟨he, bel⟩ => ?_
  subst he
  obtain ⟨rfl, pv, hvs⟩ := vars_again (sp := fun b => decide (b < W.heap.size)) hv1 hv2 hV bel
  exact ⟨_, rfl, _, _, _, [], _, pv, hW', trodAll_mk1 (shut_bool Tryd.underlying4 _), (trodAll_cons_mk (Below.trod laidOut (by kernel_rfl) (of_decide_eq_true (by kernel_rfl)) k0 bel lt0) trodAll_mk0), hvs, bel.frame _, fun h => by cases h⟩

theorem said : Rows.FnHashSaid :=
  OpenClaim.holds_of_wide 3 Tryd.f3 rfl rfl rfl rfl rfl rfl rfl ⟨rfl, rfl, rfl, rfl, rfl⟩ rfl rfl rfl rfl rfl (by kernel_rfl) Tryd.func3 (by kernel_rfl)
    (of_decide_eq_true (by kernel_rfl)) (by unfold Func.isWrapper; first | (rw [if_pos (by decide +kernel)]; kernel_rfl) | (rw [if_neg (by decide +kernel)]; exact ⟨rfl, rfl⟩))
    (fun os started H enc _ => lifted os started H enc)

theorem plain (f : FuncId) (fn : Func) (hf : Tryd.pinned.checked.prog.funcNamed "loop.example/g00220/laws.FnHash" = some f) (hfn : Tryd.pinned.checked.prog.funcs[f]? = some fn) :
    false = Tryd.pinned.checked.prog.looks [] ∧ ∀ (j : Nat) t, fn.params[j]? = some t → Tryd.pinned.checked.prog.wantsStandIn t = false := by
  obtain rfl : f = 3 := Option.some.inj ((show Tryd.prog.funcNamed "loop.example/g00220/laws.FnHash" = some 3 by kernel_rfl).symm.trans hf) |>.symm
  obtain rfl : fn = Tryd.f3 := (Option.some.inj (Tryd.func3.symm.trans hfn)).symm
  refine ⟨by kernel_rfl, fun j t ht => ?_⟩
  rw [Tryd.params3] at ht
  obtain rfl : t = 22 := by simpa using Array.mem_of_getElem? ht
  exact (show Tryd.prog.wantsStandIn 22 = false by kernel_rfl)
end Go.Proofs.YteblcmgblbdcnaaDoor.fnHash
namespace Go.Proofs.YteblcmgblbdcnaaDoor
theorem fnHash_card : Rows.FnHashCardSaid :=
  Claim7.holds_tied_plain_at .later [] _ _ _ _ fnHash.said (fun _ h => by cases h) (by kernel_rfl) (fun _ h => by cases h) fnHash_row_tie rfl ⟨rfl, rfl⟩ (by kernel_rfl) rfl fnHash.plain (by kernel_rfl)
#print axioms fnHash_card
end Go.Proofs.YteblcmgblbdcnaaDoor
