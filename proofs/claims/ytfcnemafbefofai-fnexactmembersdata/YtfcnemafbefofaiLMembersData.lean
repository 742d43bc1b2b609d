/- For every slice of numbers that can be read, laws.FnExactMembersData returns true, and the slice reads as it did. No condition. -/
import Derived.Test.YtfcnemafbefofaiMemD
import Derived.Test.YtfcnemafbefofaiCopI
import Derived.Test.YtfcnemafbefofaiMarkI
namespace Go.Proofs.Ytfcnemafbefofai.fnExactMembersData
open Go.ChangeShapes Go.WideShapes Go.ChangeAt Go.RowKit
open Go.ChangeMaps (open_string shut_string)
set_option linter.unusedVariables false

set_option maxRecDepth 100000 in
set_option maxHeartbeats 1000000 in
theorem walk (a0 : Option Addr) (len0 cap0 : Nat) (z0 : List Int) (w : World) (w0 : IsRow .i64 w a0 len0 cap0 z0) :
    Calls Try.prog 6 #[.slice a0 len0 cap0] w fun e w' => e = .returned (.bool true) ∧ Below w.heap.size w w' := by
  have hB := ints_of_row w0
  obtain ⟨a, cap, hv, hm, hc⟩ := id hB
  have hlen : len0 = (z0.take len0).length := by simp only [Value.slice.injEq] at hv; exact hv.2.1
  have hmx : len0 ≤ 9223372036854775807 := by unfold maxLen at hm; omega
  have HB := hide hB
  clear hv hc hm hB w0
  generalize z0.take len0 = l at *
  by_cases h : len0 ≤ 1048576
  · have HL := hide hlen
    clear hlen
    go_enter Try.func6, Try.ntmps6
    go_wp2_with fail
    refine (toIntS_any _ l _ (unhide HB) (by rw [← unhide HL]; exact h)).mono ?_
    rintro e w1 ⟨v1, rfl, hO1, hb1⟩
    have K1 := hide hb1
    have A1 := hide ((unhide HB).below hb1)
    have V1 := hide hO1.ints
    clear hO1 hb1
    go_wp2_with fail
    refine (specMembersData_any _ l _ (unhide V1)).mono ?_
    rintro e w2 ⟨rfl, hb2⟩
    have K2 := hide ((unhide K1).trans (hb2.mono (unhide K1).size))
    have A2 := hide ((unhide A1).below hb2)
    clear hb2 K1 A1 V1
    obtain ⟨out, hout⟩ : ∃ out, out = memData l := ⟨_, rfl⟩
    rw [← hout]
    have HO := hide hout
    clear hout
    obtain ⟨tx, code⟩ := out
    dsimp only
    go_wp2_with fail
    refine (toIntS_any _ l _ (unhide A2) (by rw [← unhide HL]; exact h)).mono ?_
    rintro e w3 ⟨v3, rfl, hO3, hb3⟩
    have K3 := hide ((unhide K2).trans (hb3.mono (unhide K2).size))
    have A3 := hide ((unhide A2).below hb3)
    have X3 := hide hO3
    clear hb3 K2 A2 hO3
    go_wp2_with fail
    refine (implMembersData_any _ l _ (unhide X3).ints).mono ?_
    rintro e w4 ⟨rfl, hb4⟩
    rw [← unhide HO]
    dsimp only
    have K4 := hide ((unhide K3).trans (hb4.mono (unhide K3).size))
    have A4 := hide ((unhide A3).below hb4)
    have X4 := hide ((unhide X3).below hb4)
    clear hb4 K3 A3 X3
    go_wp2_with fail
    refine (toIntS_any _ l _ (unhide A4) (by rw [← unhide HL]; exact h)).mono ?_
    rintro e w5 ⟨v5, rfl, hO5, hb5⟩
    have K5 := hide ((unhide K4).trans (hb5.mono (unhide K4).size))
    have X5 := hide ((unhide X4).below hb5)
    have Y5 := hide hO5
    clear hb5 K4 A4 X4 hO5
    go_wp2_with fail
    refine (eqIntS_any _ _ l _ (unhide X5).ints (unhide Y5).ints (by rw [← unhide HL]; exact h)).mono ?_
    rintro e w6 ⟨rfl, n6, rfl⟩
    go_wp2_with fail
    go_ret
    exact ⟨rfl, below_drewN (unhide K5) n6⟩
  · go_enter Try.func6, Try.ntmps6
    go_wp2_with fail
    go_ret
    exact ⟨rfl, Below.refl _ _⟩

theorem own : ownKnob Try.prog.godebug = none := by kernel_rfl
theorem laidOut : laidOutB Try.prog = true := by kernel_rfl
set_option maxRecDepth 100000 in
theorem lifted (os : Os) (started : os.Started) (H : Type) (enc : TypeId × Value → H) :
    ReturnsInHanded {} Try.checked os 6 .any (Rows.fnExactMembersDataSpec.pre6 enc Try.prog Try.f6 Rows.fnExactMembersDataRow.domain false) (Rows.fnExactMembersDataSpec.post enc Try.prog Try.f6 false true false false) := by
  refine returnsInHanded_of_change (C := Try.checked) own started (by kernel_rfl) Try.func6
    (ChangeSpec.witness6 (enc := enc) (C := Try.checked) false ⟨#[], #[.slice none 0 0], []⟩ 8 (by kernel_rfl) (by kernel_rfl) (by kernel_rfl) (by kernel_rfl)) ?_
  intro W base args ds gs before hval0 hW hcnd _
  have hval : ∀ (j : Nat) t v, Try.f6.params[j]? = some t → args[j]? = some v → Value.okWide Try.prog W .any base t v := hval0
  have hW' := hW
  obtain ⟨p, q, hA0, hV, rfl, hfz, hnd⟩ := hW
  have hA : DataW.TrodAll enc Try.prog W 0 (fun _ => true) true Try.f6.params.toList args.toList ds p := hA0
  rw [Try.params6] at hA hval
  obtain ⟨v0, vs0, d0, ds0, p0, q0, hargs, rfl, rfl, h0, r0⟩ := trodAll_cons hA
  obtain ⟨rfl, rfl, rfl⟩ := trodAll_nil r0
  obtain rfl : args = #[v0] := by cases args; simp_all
  obtain ⟨rfl, rfl⟩ := trodVars_none hV
  have k0 := h0
  have lt0 : ∀ x ∈ p0, x.block < W.heap.size := by obtain ⟨m, hm⟩ := k0; exact DataW.trod_lt m _ _ _ hm
  obtain ⟨a0, len0, cap0, rfl⟩ := okWide_slice Try.underlying39 (hval 0 39 v0 rfl rfl)
  obtain ⟨z0, w0⟩ : ∃ zs, IsRow .i64 W a0 len0 cap0 zs := by
    obtain ⟨fuel, hf⟩ := h0
    rcases open_ints Try.underlying39 Try.underlying3 (by kernel_rfl) hf with ⟨hcs, _⟩ | ⟨x, l, c, zs, hcs, _, hl, hm, hz, _, hcell, hwz⟩
    · simp [Value.cells] at hcs
      obtain ⟨rfl, rfl, rfl⟩ := hcs
      exact ⟨[], .inl ⟨rfl, rfl, rfl, rfl⟩⟩
    · simp [Value.cells] at hcs
      obtain ⟨rfl, rfl, rfl⟩ := hcs
      exact ⟨zs, .inr ⟨_, rfl, hl, hm, by simpa using hz, hcell, hwz⟩⟩
  clear hA0 hval0
  refine (walk a0 len0 cap0 z0 W w0).mono fun e W' ⟨he, bel⟩ => ?_
  subst he
  exact ⟨_, rfl, _, _, _, [], _, [], hW', trodAll_mk1 (shut_bool Try.underlying4 _), (trodAll_cons_mk (Below.trod laidOut (by kernel_rfl) (of_decide_eq_true (by kernel_rfl)) k0 bel lt0) trodAll_mk0), rfl, bel.frame _, fun h => by cases h⟩

theorem over : Rows.fnExactMembersDataRow.holds Try.pinned (OpenSpec.ofChange Rows.fnExactMembersDataSpec) :=
  OpenClaim.holds_of_wide 6 Try.f6 rfl rfl rfl rfl rfl rfl rfl ⟨rfl, rfl, rfl, rfl, rfl⟩ rfl rfl rfl rfl rfl (by kernel_rfl) Try.func6 (by kernel_rfl)
    (of_decide_eq_true (by kernel_rfl)) (by unfold Func.isWrapper; first | (rw [if_pos (by decide +kernel)]; kernel_rfl) | (rw [if_neg (by decide +kernel)]; exact ⟨rfl, rfl⟩))
    (fun os started H enc _ => lifted os started H enc)

end Go.Proofs.Ytfcnemafbefofai.fnExactMembersData
namespace Go.Proofs.Ytfcnemafbefofai
theorem fnExactMembersData_holds : Rows.FnExactMembersDataSaid := fnExactMembersData.over
#print axioms fnExactMembersData_holds
end Go.Proofs.Ytfcnemafbefofai
