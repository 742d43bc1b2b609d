/- For every row of bytes that can be read laws.FnOrders returns true, and it reads as it did: an order that is found of a drawn history is one that it may have had; there is none just where no order of all or some of its acts is one. No condition. -/
import Derived.Test.YtedfidpmehamdaaHiT
import Derived.Test.YtedfidpmehamdaaSrcJ
import Derived.Test.YtedfidpmehamdaaAtS
namespace Go.Proofs.Ytedfidpmehamdaa.fnOrders
open Go.ChangeShapes Go.WideShapes Go.ChangeAt Go.RowKit
open Go.ChangeMaps (open_string shut_string)
set_option linter.unusedVariables false
set_option linter.unusedSimpArgs false

theorem ops_take {w : World} {la : Option Addr} {lc : Nat} {L : List Op} (h : Ops w (.slice la L.length lc) L) (n : Nat) (hn : n ≤ L.length) : Ops w (.slice la (L.take n).length lc) (L.take n) := by
  have hl : (L.take n).length = n := by rw [List.length_take]; omega
  obtain ⟨a, c, e, h1, h2, h3⟩ := h
  simp only [Value.slice.injEq] at e
  obtain ⟨rfl, _, rfl⟩ := e
  refine ⟨la, lc, rfl, by rw [hl]; omega, h2, ?_⟩
  rcases h3 with h0 | ⟨b, off, e, hb, hc⟩
  · left; rw [hl]; omega
  · refine .inr ⟨b, off, e, hb, fun i hi => ?_⟩
    rw [hl] at hi
    rw [show (L.take n).getD i default = L.getD i default by rw [List.getD_eq_getElem?_getD, List.getElem?_take, if_pos hi, ← List.getD_eq_getElem?_getD]]
    exact hc i (by omega)
theorem ok_take {L : List Op} (h : opsB L = true) (n : Nat) (hn : n ≤ L.length) : opsB (L.take n) = true := by
  obtain ⟨h1, h2⟩ := opsB_at h
  have hl : (L.take n).length = n := by rw [List.length_take]; omega
  refine decide_eq_true ⟨by omega, fun i hi => ?_⟩
  rw [hl] at hi
  rw [show (L.take n).getD i default = L.getD i default by rw [List.getD_eq_getElem?_getD, List.getElem?_take, if_pos hi, ← List.getD_eq_getElem?_getD]]
  exact h2 i (by omega)
set_option maxRecDepth 100000 in
set_option maxHeartbeats 8000000 in
theorem walk (a : Option Addr) (len cap : Nat) (zs : List Int) (w : World) (hR : IsRow .u8 w a len cap zs) :
    Calls Try.prog 3 #[.slice a len cap] w fun e w' => e = .returned (.bool true) ∧ Below w.heap.size w w' := by
  have hB := bytes_of_row hR
  have hon : (zs.take len).length = len := by
    rcases hR with ⟨_, rfl, _, rfl⟩ | ⟨x, _, h1, h2, h3, _⟩
    · rfl
    · rw [List.length_take]; omega
  have hom1 : len ≤ 9223372036854775807 := by
    have e1 : len ≤ maxLen := by
      rcases hR with ⟨_, rfl, _, rfl⟩ | ⟨x, _, h1, h2, h3, _⟩
      · unfold maxLen; omega
      · omega
    unfold maxLen at e1
    omega
  generalize zs.take len = od at *
  subst hon
  have HB := hide hB
  clear hB hR
  by_cases h1 : 1048576 < od.length
  · have g1 : (1048576 : Int) < (od.length : Int) := by omega
    go_enter Try.func3, Try.ntmps3
    go_wp2_with fail
    go_ret
    exact ⟨rfl, Below.refl _ _⟩
  have g1 : ¬ (1048576 : Int) < (od.length : Int) := by omega
  go_enter Try.func3, Try.ntmps3
  go_wp2_with fail
  refine (opsOf_any a cap od w (unhide HB) (by omega)).mono ?_
  rintro e w1 ⟨v1, L, rfl, hO1, h6, hok, hb1⟩
  have HOK := hide hok
  have O1 := hide hO1
  have K1 := hide hb1
  obtain ⟨la, lc, hv1, hlc, _⟩ := hO1.read
  subst hv1
  clear hO1 hok hb1
  by_cases h5 : 5 < L.length
  · have g5 : (5 : Int) < (L.length : Int) := by omega
    have e5 : (L.take 5).length = 5 := by rw [List.length_take]; omega
    have c5 : (5 : Int) ≤ (lc : Int) := by omega
    obtain ⟨M, hMO, hMK, hM5, hMn⟩ : ∃ M, Ops w1 (.slice la 5 lc) M ∧ opsB M = true ∧ M.length ≤ 5 ∧ M.length = 5 := ⟨L.take 5, by have := ops_take (unhide O1).read 5 (by omega); rw [e5] at this; exact this, ok_take (unhide HOK) 5 (by omega), Nat.le_of_eq e5, e5⟩
    clear e5
    have HM := hide (And.intro hMO (And.intro hMK hM5))
    clear hMO hMK
    have HMK := hide (unhide HM).2.1
    have HMO := hide (fun (wx : World) (hb : Below w1.heap.size w1 wx) => (unhide HM).1.below hb)
    have HLI := hide (implLinearOrder_any _ M w1 (unhide HM).1 (by omega))
    have HLS := hide (fun (wx : World) (hb : Below w1.heap.size w1 wx) => specLinearOrder_any _ M wx (unhide HMO wx hb) (by omega))
    have HOO := hide (fun (wx : World) (hb : Below w1.heap.size w1 wx) => implOpsOK_any _ M wx (unhide HMO wx hb) (by omega))
    have HLL := hide (loOut_len M (by omega))
    have HCA := hide (lo_cases M (unhide HMK))
    rw [unhide HMK] at HOO
    clear HM O1 HOK
    have KC := hide (unhide K1)
    rcases unhide HCA with ⟨r, er, hpr, hlr⟩ | ⟨er, hno⟩
    · rw [er] at HLI HLS HLL
      dsimp only at HLI HLS HLL
      have HOL := hide (fun (ov : Value) (wx : World) (hb : Below w1.heap.size w1 wx) (hx : Ints wx ov r) => implOrderLegal_any _ ov M r wx (unhide HMO wx hb) (by omega) hx (unhide HLL))
      rw [ol_plc M (unhide HMK) r hpr, hlr] at HOL
      dsimp only at HOL
      clear er hpr hlr HCA
      go_wp2_with fail
      refine (unhide HLI).mono ?_
      rintro e w2 ⟨v2, rfl, hO2, hb2⟩
      have B2 := hide hb2
      have O2 := hide hO2
      clear hb2 hO2
      go_wp2_with fail
      refine (unhide HLS w2 (unhide B2)).mono ?_
      rintro e w3 ⟨v3, rfl, hO3, hb3⟩
      have B3 := hide ((unhide B2).trans (hb3.mono (unhide B2).size))
      have O2b := hide ((unhide O2).below hb3)
      have O3 := hide hO3
      clear hb3 hO3 B2 O2
      go_wp2_with fail
      refine (sameInts_any v2 v3 r w3 (unhide O2b).ints (unhide O3).ints (unhide HLL)).mono ?_
      rintro e w4 ⟨rfl, n4, rfl⟩
      have B4 := hide (below_drewN (unhide B3) n4)
      have O4 := hide ((unhide O2b).below (below_drewN (Below.refl _ _) n4))
      clear B3 O2b O3
      generalize w3.drewN n4 = w4 at *
      go_wp2_with fail
      refine (unhide HOO w4 (unhide B4)).mono ?_
      rintro e w5 ⟨rfl, hb5⟩
      have B5 := hide ((unhide B4).trans (hb5.mono (unhide B4).size))
      have O5 := hide ((unhide O4).below hb5)
      clear hb5 B4 O4
      go_wp2_with fail
      refine (unhide HOL v2 w5 (unhide B5) (unhide O5).ints).mono ?_
      rintro e w6 ⟨rfl, hb6⟩
      have B6 := hide ((unhide B5).trans (hb6.mono (unhide B5).size))
      have K6 := hide ((unhide KC).trans ((unhide B6).mono (unhide KC).size))
      clear hb6
      go_wp2_with fail
      go_ret
      exact ⟨rfl, unhide K6⟩
    · rw [er] at HLI HLS HLL
      dsimp only at HLI HLS HLL
      have HSO := hide (fun (ov : Value) (wx : World) (hb : Below w1.heap.size w1 wx) (hx : Ints wx ov []) => some_all la lc M (unhide HMK) hno (M.length + 1) [] ov wx (by rw [hMn]; exact unhide HMO wx hb) hx (Plc.nil _) (by simp))
      rw [hMn] at HSO
      clear er hno HCA
      go_wp2_with fail
      refine (unhide HLI).mono ?_
      rintro e w2 ⟨v2, rfl, hO2, hb2⟩
      have B2 := hide hb2
      have O2 := hide hO2
      clear hb2 hO2
      go_wp2_with fail
      refine (unhide HLS w2 (unhide B2)).mono ?_
      rintro e w3 ⟨v3, rfl, hO3, hb3⟩
      have B3 := hide ((unhide B2).trans (hb3.mono (unhide B2).size))
      have O2b := hide ((unhide O2).below hb3)
      have O3 := hide hO3
      clear hb3 hO3 B2 O2
      go_wp2_with fail
      refine (sameInts_any v2 v3 [] w3 (unhide O2b).ints (unhide O3).ints (by simp)).mono ?_
      rintro e w4 ⟨rfl, n4, rfl⟩
      have B4 := hide (below_drewN (unhide B3) n4)
      clear B3 O2b O3
      generalize w3.drewN n4 = w4 at *
      go_wp2_with fail
      refine (unhide HOO w4 (unhide B4)).mono ?_
      rintro e w5 ⟨rfl, hb5⟩
      have B5 := (unhide B4).trans (hb5.mono (unhide B4).size)
      have B6 := hide (B5.alloc B5.size (.cells #[] 3))
      have O6 := hide (OwnI.empty w5 w5.heap.size w5.heap.size rfl (Nat.le_refl _))
      clear hb5 B4 B5
      go_wp2_with fail
      generalize w5.alloc (.cells #[] 3) = w6 at *
      refine (unhide HSO _ w6 (unhide B6) (unhide O6).ints).mono ?_
      rintro e w7 ⟨rfl, hb7⟩
      have B7 := hide ((unhide B6).trans (hb7.mono (unhide B6).size))
      have K7 := hide ((unhide KC).trans ((unhide B7).mono (unhide KC).size))
      clear hb7
      go_wp2_with fail
      go_ret
      exact ⟨rfl, unhide K7⟩
  · have g5 : ¬ (5 : Int) < (L.length : Int) := by omega
    obtain ⟨M, hMO, hMK, hM5, hMn⟩ : ∃ M, Ops w1 (.slice la L.length lc) M ∧ opsB M = true ∧ M.length ≤ 5 ∧ M.length = L.length := ⟨L, (unhide O1).read, unhide HOK, by omega, rfl⟩
    have HM := hide (And.intro hMO (And.intro hMK hM5))
    clear hMO hMK
    have HMK := hide (unhide HM).2.1
    have HMO := hide (fun (wx : World) (hb : Below w1.heap.size w1 wx) => (unhide HM).1.below hb)
    have HLI := hide (implLinearOrder_any _ M w1 (unhide HM).1 (by omega))
    have HLS := hide (fun (wx : World) (hb : Below w1.heap.size w1 wx) => specLinearOrder_any _ M wx (unhide HMO wx hb) (by omega))
    have HOO := hide (fun (wx : World) (hb : Below w1.heap.size w1 wx) => implOpsOK_any _ M wx (unhide HMO wx hb) (by omega))
    have HLL := hide (loOut_len M (by omega))
    have HCA := hide (lo_cases M (unhide HMK))
    rw [unhide HMK] at HOO
    clear HM O1 HOK
    have KC := hide (unhide K1)
    rcases unhide HCA with ⟨r, er, hpr, hlr⟩ | ⟨er, hno⟩
    · rw [er] at HLI HLS HLL
      dsimp only at HLI HLS HLL
      have HOL := hide (fun (ov : Value) (wx : World) (hb : Below w1.heap.size w1 wx) (hx : Ints wx ov r) => implOrderLegal_any _ ov M r wx (unhide HMO wx hb) (by omega) hx (unhide HLL))
      rw [ol_plc M (unhide HMK) r hpr, hlr] at HOL
      dsimp only at HOL
      clear er hpr hlr HCA
      go_wp2_with fail
      refine (unhide HLI).mono ?_
      rintro e w2 ⟨v2, rfl, hO2, hb2⟩
      have B2 := hide hb2
      have O2 := hide hO2
      clear hb2 hO2
      go_wp2_with fail
      refine (unhide HLS w2 (unhide B2)).mono ?_
      rintro e w3 ⟨v3, rfl, hO3, hb3⟩
      have B3 := hide ((unhide B2).trans (hb3.mono (unhide B2).size))
      have O2b := hide ((unhide O2).below hb3)
      have O3 := hide hO3
      clear hb3 hO3 B2 O2
      go_wp2_with fail
      refine (sameInts_any v2 v3 r w3 (unhide O2b).ints (unhide O3).ints (unhide HLL)).mono ?_
      rintro e w4 ⟨rfl, n4, rfl⟩
      have B4 := hide (below_drewN (unhide B3) n4)
      have O4 := hide ((unhide O2b).below (below_drewN (Below.refl _ _) n4))
      clear B3 O2b O3
      generalize w3.drewN n4 = w4 at *
      go_wp2_with fail
      refine (unhide HOO w4 (unhide B4)).mono ?_
      rintro e w5 ⟨rfl, hb5⟩
      have B5 := hide ((unhide B4).trans (hb5.mono (unhide B4).size))
      have O5 := hide ((unhide O4).below hb5)
      clear hb5 B4 O4
      go_wp2_with fail
      refine (unhide HOL v2 w5 (unhide B5) (unhide O5).ints).mono ?_
      rintro e w6 ⟨rfl, hb6⟩
      have B6 := hide ((unhide B5).trans (hb6.mono (unhide B5).size))
      have K6 := hide ((unhide KC).trans ((unhide B6).mono (unhide KC).size))
      clear hb6
      go_wp2_with fail
      go_ret
      exact ⟨rfl, unhide K6⟩
    · rw [er] at HLI HLS HLL
      dsimp only at HLI HLS HLL
      have HSO := hide (fun (ov : Value) (wx : World) (hb : Below w1.heap.size w1 wx) (hx : Ints wx ov []) => some_all la lc M (unhide HMK) hno (M.length + 1) [] ov wx (by rw [hMn]; exact unhide HMO wx hb) hx (Plc.nil _) (by simp))
      rw [hMn] at HSO
      clear er hno HCA
      go_wp2_with fail
      refine (unhide HLI).mono ?_
      rintro e w2 ⟨v2, rfl, hO2, hb2⟩
      have B2 := hide hb2
      have O2 := hide hO2
      clear hb2 hO2
      go_wp2_with fail
      refine (unhide HLS w2 (unhide B2)).mono ?_
      rintro e w3 ⟨v3, rfl, hO3, hb3⟩
      have B3 := hide ((unhide B2).trans (hb3.mono (unhide B2).size))
      have O2b := hide ((unhide O2).below hb3)
      have O3 := hide hO3
      clear hb3 hO3 B2 O2
      go_wp2_with fail
      refine (sameInts_any v2 v3 [] w3 (unhide O2b).ints (unhide O3).ints (by simp)).mono ?_
      rintro e w4 ⟨rfl, n4, rfl⟩
      have B4 := hide (below_drewN (unhide B3) n4)
      clear B3 O2b O3
      generalize w3.drewN n4 = w4 at *
      go_wp2_with fail
      refine (unhide HOO w4 (unhide B4)).mono ?_
      rintro e w5 ⟨rfl, hb5⟩
      have B5 := (unhide B4).trans (hb5.mono (unhide B4).size)
      have B6 := hide (B5.alloc B5.size (.cells #[] 3))
      have O6 := hide (OwnI.empty w5 w5.heap.size w5.heap.size rfl (Nat.le_refl _))
      clear hb5 B4 B5
      go_wp2_with fail
      generalize w5.alloc (.cells #[] 3) = w6 at *
      refine (unhide HSO _ w6 (unhide B6) (unhide O6).ints).mono ?_
      rintro e w7 ⟨rfl, hb7⟩
      have B7 := hide ((unhide B6).trans (hb7.mono (unhide B6).size))
      have K7 := hide ((unhide KC).trans ((unhide B7).mono (unhide KC).size))
      clear hb7
      go_wp2_with fail
      go_ret
      exact ⟨rfl, unhide K7⟩

theorem own : ownKnob Try.prog.godebug = none := by kernel_rfl
theorem laidOut : laidOutB Try.prog = true := by kernel_rfl
set_option maxRecDepth 100000 in
theorem lifted (os : Os) (started : os.Started) (H : Type) (enc : TypeId × Value → H) :
    ReturnsInHanded {} Try.checked os 3 .any (Rows.fnOrdersSpec.pre6 enc Try.prog Try.f3 Rows.fnOrdersRow.domain false) (Rows.fnOrdersSpec.post enc Try.prog Try.f3 false true false false) := by
  refine returnsInHanded_of_change (C := Try.checked) own started (by kernel_rfl) Try.func3
    (ChangeSpec.witness6 (enc := enc) (C := Try.checked) false ⟨#[], #[.slice none 0 0], []⟩ 8 (by kernel_rfl) (by kernel_rfl) (by kernel_rfl) (by kernel_rfl)) ?_
  intro W base args ds gs before hval0 hW hcnd _
  have hval : ∀ (j : Nat) t v, Try.f3.params[j]? = some t → args[j]? = some v → Value.okWide Try.prog W .any base t v := hval0
  have hW' := hW
  obtain ⟨p, q, hA0, hV, rfl, hfz, hnd⟩ := hW
  have hA : DataW.TrodAll enc Try.prog W 0 (fun _ => true) true Try.f3.params.toList args.toList ds p := hA0
  rw [Try.params3] at hA hval
  obtain ⟨v0, vs0, d0, ds0, p0, q0, hargs, rfl, rfl, h0, r0⟩ := trodAll_cons hA
  obtain ⟨rfl, rfl, rfl⟩ := trodAll_nil r0
  obtain rfl : args = #[v0] := by cases args; simp_all
  obtain ⟨rfl, rfl⟩ := trodVars_none hV
  have k0 := h0
  have lt0 : ∀ x ∈ p0, x.block < W.heap.size := by obtain ⟨m, hm⟩ := k0; exact DataW.trod_lt m _ _ _ hm
  obtain ⟨a0, len0, cap0, rfl⟩ := okWide_slice Try.underlying22 (hval 0 22 v0 rfl rfl)
  obtain ⟨z0, w0⟩ : ∃ zs, IsRow .u8 W a0 len0 cap0 zs := by
    obtain ⟨fuel, hf⟩ := h0
    rcases open_ints Try.underlying22 Try.underlying5 (by kernel_rfl) hf with ⟨hcs, _⟩ | ⟨x, l, c, zs, hcs, _, hl, hm, hz, _, hcell, hwz⟩
    · simp [Value.cells] at hcs
      obtain ⟨rfl, rfl, rfl⟩ := hcs
      exact ⟨[], .inl ⟨rfl, rfl, rfl, rfl⟩⟩
    · simp [Value.cells] at hcs
      obtain ⟨rfl, rfl, rfl⟩ := hcs
      exact ⟨zs, .inr ⟨_, rfl, hl, hm, by simpa using hz, hcell, hwz⟩⟩
  clear hA0 hval0
  refine (walk a0 len0 cap0 z0 W w0).mono fun e W' ⟨he, bel⟩ => ?_
  subst he
  exact ⟨_, rfl, _, _, _, [], _, [], hW', trodAll_mk1 (shut_bool Try.underlying4 _), (trodAll_cons_mk (Below.trod laidOut (by kernel_rfl) (of_decide_eq_true (by kernel_rfl)) k0 bel lt0) trodAll_mk0), rfl, bel.frame _, fun h => by cases h⟩

theorem over : Rows.fnOrdersRow.holds Try.pinned (OpenSpec.ofChange Rows.fnOrdersSpec) :=
  OpenClaim.holds_of_wide 3 Try.f3 rfl rfl rfl rfl rfl rfl rfl ⟨rfl, rfl, rfl, rfl, rfl⟩ rfl rfl rfl rfl rfl (by kernel_rfl) Try.func3 (by kernel_rfl)
    (of_decide_eq_true (by kernel_rfl)) (by unfold Func.isWrapper; first | (rw [if_pos (by decide +kernel)]; kernel_rfl) | (rw [if_neg (by decide +kernel)]; exact ⟨rfl, rfl⟩))
    (fun os started H enc _ => lifted os started H enc)

end Go.Proofs.Ytedfidpmehamdaa.fnOrders
namespace Go.Proofs.Ytedfidpmehamdaa
theorem fnOrders_holds : Rows.FnOrdersSaid := fnOrders.over
#print axioms fnOrders_holds
end Go.Proofs.Ytedfidpmehamdaa
