/- For every list of peaks that can be read, laws.FnExactPeaksOK returns true, and the list reads as it did. No condition. -/
import Derived.Test.YteepajbcfhjhcaaPkQ
import Derived.Test.YteepajbcfhjhcaaLawG
namespace Go.Proofs.Yteepajbcfhjhcaa.fnExactPeaksOK
open Go.ChangeShapes Go.WideShapes Go.ChangeAt Go.RowKit
open Go.ChangeMaps (open_string shut_string)
set_option linter.unusedVariables false

set_option maxRecDepth 100000 in
set_option maxHeartbeats 2000000 in
theorem walk (v : Value) (l : List Pk) (w : World) (hs : Pks w v l) (hz : ∀ i, i < l.length → (l.getD i default).h.size ≤ maxLen) :
    Calls Try.prog 3 #[v] w fun e w' => e = .returned (.bool true) ∧ Below w.heap.size w w' := by
  have HS := hide hs
  have HM := hide (szPeakS_any 1048576 (by omega) (by omega) v l w hs hz)
  have HR := hide (pszR_cases 1048576 l)
  have HQ := hide (psmall_of 1048576 (by omega) l)
  have HSP := hide (fun b off cap wx hx hy => specPeaks_any l b off cap wx hx hy)
  have HIM := hide (fun b off cap wx hx hy => implPeaks_any l b off cap wx hx hy)
  clear hz hs
  generalize peaksB l = c at *
  generalize pszR 1048576 l = r at *
  go_enter Try.func3, Try.ntmps3
  go_wp2_with fail
  refine (unhide HM).mono ?_
  rintro e w1 ⟨rfl, hb1⟩
  have B1 := hide hb1
  clear hb1
  rcases unhide HR with hr | ⟨hr, _⟩
  · subst hr
    go_wp2_with fail
    go_ret
    exact ⟨rfl, unhide B1⟩
  have HSM := hide (unhide HQ hr)
  have hr2 : ¬ r < 0 := by omega
  go_wp2_with fail
  refine (toPeakS_any v l w1 ((unhide HS).below (unhide B1)) (unhide HSM).1).mono ?_
  rintro e w2 ⟨rfl, hO2, hz2, hb2⟩
  have B2 := hide ((unhide B1).trans (hb2.mono (unhide B1).size))
  have O2 := hide (PA.own hO2)
  clear hO2 hz2 hb2
  go_wp2_with fail
  refine (unhide HSP _ _ _ w2 (unhide O2) (unhide HSM).2).mono ?_
  rintro e w3 ⟨rfl, hw3⟩
  subst w3
  clear O2
  go_wp2_with fail
  refine (toPeakS_any v l w2 ((unhide HS).below (unhide B2)) (unhide HSM).1).mono ?_
  rintro e w4 ⟨rfl, hO4, hz4, hb4⟩
  have B4 := hide ((unhide B2).trans (hb4.mono (unhide B2).size))
  have O4 := hide hO4
  clear hO4 hz4 hb4
  go_wp2_with fail
  refine (unhide HIM _ _ _ w4 (PA.own (unhide O4)) (unhide HSM).2).mono ?_
  rintro e w5 ⟨rfl, hb5⟩
  have B5 := hide ((unhide B4).trans (hb5.mono (unhide B4).size))
  have O5 := hide ((unhide O4).below hb5)
  clear hb5 O4 B4
  have hcc : (c != c) = false := by simp
  go_wp2_with fail
  refine (toPeakS_any v l w5 ((unhide HS).below (unhide B5)) (unhide HSM).1).mono ?_
  rintro e w6 ⟨rfl, hO6, hz6, hb6⟩
  have B6 := hide ((unhide B5).trans (hb6.mono (unhide B5).size))
  have O6 := hide hO6
  have O6' := hide ((unhide O5).below hb6)
  clear hO6 hz6 hb6 O5 B5
  go_wp2_with fail
  refine (eqPeakS_any _ _ l w6 (unhide O6').pks (unhide O6).pks (unhide HSM).1).mono ?_
  rintro e w7 ⟨rfl, hb7⟩
  have B7 := hide ((unhide B6).trans (hb7.mono (unhide B6).size))
  clear hb7
  go_wp2_with fail
  go_ret
  exact ⟨rfl, unhide B7⟩

theorem own : ownKnob Try.prog.godebug = none := by kernel_rfl
theorem laidOut : laidOutB Try.prog = true := by kernel_rfl
set_option maxRecDepth 100000 in
theorem lifted (os : Os) (started : os.Started) (H : Type) (enc : TypeId × Value → H) :
    ReturnsInHanded {} Try.checked os 3 .any (Rows.fnExactPeaksOKSpec.pre6 enc Try.prog Try.f3 Rows.fnExactPeaksOKRow.domain false) (Rows.fnExactPeaksOKSpec.post enc Try.prog Try.f3 false true false false) := by
  refine returnsInHanded_of_change (C := Try.checked) own started (by kernel_rfl) Try.func3
    (ChangeSpec.witness6 (enc := enc) (C := Try.checked) false ⟨#[], #[.slice none 0 0], []⟩ 8 (by kernel_rfl) (by kernel_rfl) (by kernel_rfl) (by kernel_rfl)) ?_
  intro W base args ds gs before hval0 hW hcnd _
  have hval : ∀ (j : Nat) t v, Try.f3.params[j]? = some t → args[j]? = some v → Value.okWide Try.prog W .any base t v := hval0
  have hW' := hW
  obtain ⟨p, q, hA0, hV, rfl, hfz, hnd⟩ := hW
  have hA : DataW.TrodAll enc Try.prog W 0 (fun _ => true) true Try.f3.params.toList args.toList ds p := hA0
  rw [Try.params3] at hA hval
  obtain ⟨v0, vs0, d0, ds0, p0, q0, hargs, rfl, rfl, h0, r0⟩ := trodAll_cons hA
  obtain ⟨rfl, rfl, rfl⟩ := trodAll_nil r0
  obtain rfl : args = #[v0] := by cases args; simp_all
  obtain ⟨rfl, rfl⟩ := trodVars_none hV
  have k0 := h0
  have lt0 : ∀ x ∈ p0, x.block < W.heap.size := by obtain ⟨m, hm⟩ := k0; exact DataW.trod_lt m _ _ _ hm
  obtain ⟨l0, hf0, hz0⟩ := open_peaks (hval 0 22 v0 rfl rfl) h0
  clear hA0 hval0
  refine (walk v0 l0 W hf0 hz0).mono fun e W' ⟨he, bel⟩ => ?_
  subst he
  exact ⟨_, rfl, _, _, _, [], _, [], hW', trodAll_mk1 (shut_bool Try.underlying4 _), (trodAll_cons_mk (Below.trod laidOut (by kernel_rfl) (of_decide_eq_true (by kernel_rfl)) k0 bel lt0) trodAll_mk0), rfl, bel.frame _, fun h => by cases h⟩

theorem over : Rows.fnExactPeaksOKRow.holds Try.pinned (OpenSpec.ofChange Rows.fnExactPeaksOKSpec) :=
  OpenClaim.holds_of_wide 3 Try.f3 rfl rfl rfl rfl rfl rfl rfl ⟨rfl, rfl, rfl, rfl, rfl⟩ rfl rfl rfl rfl rfl (by kernel_rfl) Try.func3 (by kernel_rfl)
    (of_decide_eq_true (by kernel_rfl)) (by unfold Func.isWrapper; first | (rw [if_pos (by decide +kernel)]; kernel_rfl) | (rw [if_neg (by decide +kernel)]; exact ⟨rfl, rfl⟩))
    (fun os started H enc _ => lifted os started H enc)

end Go.Proofs.Yteepajbcfhjhcaa.fnExactPeaksOK
namespace Go.Proofs.Yteepajbcfhjhcaa
theorem fnExactPeaksOK_holds : Rows.FnExactPeaksOKSaid := fnExactPeaksOK.over
#print axioms fnExactPeaksOK_holds
end Go.Proofs.Yteepajbcfhjhcaa
