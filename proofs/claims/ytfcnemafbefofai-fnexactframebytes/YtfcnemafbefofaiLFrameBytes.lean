/- For every slice of bytes that can be read, laws.FnExactFrameBytes returns true, and the slice reads as it did. No condition. -/
import Derived.Test.YtfcnemafbefofaiFrS
import Derived.Test.YtfcnemafbefofaiCopB
namespace Go.Proofs.Ytfcnemafbefofai.fnExactFrameBytes
open Go.ChangeShapes Go.WideShapes Go.ChangeAt Go.RowKit
open Go.ChangeMaps (open_string shut_string)
set_option linter.unusedVariables false

theorem out_len (l : List Int) : (frOut l).1.length ≤ 1000 := by
  unfold frOut
  split
  · simp
  · split
    · rename_i h
      rw [inB_iff] at h
      simp [frameL, encN]; omega
    · simp
set_option maxRecDepth 100000 in
set_option maxHeartbeats 2000000 in
theorem walk (a0 : Option Addr) (len0 cap0 : Nat) (z0 : List Int) (w : World) (w0 : IsRow .u8 w a0 len0 cap0 z0) :
    Calls Try.prog 4 #[.slice a0 len0 cap0] w fun e w' => e = .returned (.bool true) ∧ Below w.heap.size w w' := by
  have hB := bytes_of_row w0
  obtain ⟨a, cap, hv, hm, hc, hr⟩ := id hB
  have hlen : len0 = (z0.take len0).length := by simp only [Value.slice.injEq] at hv; exact hv.2.1
  have hmx : len0 ≤ 9223372036854775807 := by unfold maxLen at hm; omega
  have HB := hide hB
  clear hv hc hr hm hB w0
  generalize z0.take len0 = l at *
  by_cases h : len0 ≤ 1048576
  · have hll : l.length ≤ 1048576 := by omega
    clear hlen
    have hol := out_len l
    go_enter Try.func4, Try.ntmps4
    go_wp2_with fail
    refine (toByteS_own _ l _ (unhide HB) hll).mono ?_
    rintro e w1 ⟨v1, rfl, hO1, hb1⟩
    have K1 := hide hb1
    have A1 := hide ((unhide HB).below hb1)
    have V1 := hide hO1
    clear hO1 hb1
    go_wp2_with fail
    refine (specFrameBytes_any _ l _ (unhide V1).bytes).mono ?_
    rintro e w2 ⟨vs, rfl, hOs, hb2⟩
    have K2 := hide ((unhide K1).trans (hb2.mono (unhide K1).size))
    have A2 := hide ((unhide A1).below hb2)
    have S2 := hide (hOs.mono (unhide K1).size)
    clear hb2 K1 A1 V1 hOs
    go_wp2_with fail
    refine (toByteS_own _ l _ (unhide A2) hll).mono ?_
    rintro e w3 ⟨vx, rfl, hOx, hb3⟩
    have K3 := hide ((unhide K2).trans (hb3.mono (unhide K2).size))
    have A3 := hide ((unhide A2).below hb3)
    have S3 := hide ((unhide S2).below hb3)
    have SL := hide (fun r hr => ((unhide S2).lt r hr).2)
    have X3 := hide hOx
    have hz2 := (unhide K2).size
    have hz23 := hb3.size
    clear hb3 K2 A2 S2 hOx
    go_wp2_with fail
    refine (implFrameBytes_any _ l _ (unhide X3).bytes).mono ?_
    rintro e w4 ⟨vi, rfl, hOi, hb4⟩
    have K4 := hide ((unhide K3).trans (hb4.mono (unhide K3).size))
    have A4 := hide ((unhide A3).below hb4)
    have S4 := hide ((unhide S3).below hb4)
    have X4 := hide ((unhide X3).below hb4)
    have XL := hide (fun r hr => ((unhide X3).lt r hr).2)
    have hz3 := (unhide K3).size
    have I4 := hide hOi
    clear hb4 K3 A3 S3 X3 hOi
    obtain ⟨out, hout⟩ : ∃ out, out = frOut l := ⟨_, rfl⟩
    rw [← hout] at hol S4 I4 ⊢
    have HO := hide hout
    clear hout
    obtain ⟨o, code⟩ := out
    dsimp only at hol S4 I4 ⊢
    go_wp2_with fail
    refine (eqByteS_any vi vs o _ (unhide I4).bytes (unhide S4).bytes (by omega)).mono ?_
    rintro e w5 ⟨rfl, n5, rfl⟩
    have K5 := hide (below_drewN (unhide K4) n5)
    have A5 := hide ((unhide A4).below (below_drewN (Below.refl _ _) n5))
    have S5 := hide ((unhide S4).drewN n5)
    have X5 := hide ((unhide X4).drewN n5)
    have I5 := hide ((unhide I4).drewN n5)
    clear K4 A4 S4 X4 I4
    generalize w4.drewN n5 = w5 at *
    go_wp2_with fail
    refine (toByteS_own _ l _ (unhide A5) hll).mono ?_
    rintro e w6 ⟨v6, rfl, hO6, hb6⟩
    have K6 := hide ((unhide K5).trans (hb6.mono (unhide K5).size))
    have A6 := hide ((unhide A5).below hb6)
    have S6 := hide ((unhide S5).below hb6)
    have X6 := hide ((unhide X5).below hb6)
    have I6 := hide ((unhide I5).below hb6)
    have Y6 := hide hO6
    clear hb6 K5 A5 S5 X5 I5 hO6
    go_wp2_with fail
    refine (eqByteS_any vx v6 l _ (unhide X6).bytes (unhide Y6).bytes hll).mono ?_
    rintro e w7 ⟨rfl, n7, rfl⟩
    have K7 := hide (below_drewN (unhide K6) n7)
    have A7 := hide ((unhide A6).below (below_drewN (Below.refl _ _) n7))
    have S7 := hide ((unhide S6).drewN n7)
    have X7 := hide ((unhide X6).drewN n7)
    have I7 := hide ((unhide I6).drewN n7)
    clear K6 A6 S6 X6 I6 Y6
    generalize w6.drewN n7 = w7 at *
    go_wp2_with fail
    refine (markByteS_any _ vx l _ (unhide X7) hll).mono ?_
    rintro e w8 ⟨rfl, hM, hT⟩
    have b8 : Below w.heap.size w7 w8 := hT.below (B := w.heap.size) (unhide K7).size (fun r hr e => by have := ((unhide X7).lt _ e).1; omega)
    have K8 := hide ((unhide K7).trans b8)
    have A8 := hide ((unhide HB).below (unhide K8))
    have S8 := hide ((unhide S7).kept hT (fun r hr e => by have := ((unhide X7).lt _ e).1; have := unhide SL r hr; omega))
    have I8 := hide ((unhide I7).kept hT (fun r hr e => by have := unhide XL r e; have := ((unhide I7).lt r hr).1; omega))
    clear hM hT b8 K7 A7 S7 X7 I7
    go_wp2_with fail
    refine (eqByteS_any vi vs o _ (unhide I8).bytes (unhide S8).bytes (by omega)).mono ?_
    rintro e w9 ⟨rfl, n9, rfl⟩
    have K9 := hide (below_drewN (unhide K8) n9)
    have A9 := hide ((unhide A8).below (below_drewN (Below.refl _ _) n9))
    have S9 := hide ((unhide S8).drewN n9)
    have I9 := hide ((unhide I8).drewN n9)
    clear K8 A8 S8 I8
    generalize w8.drewN n9 = w9 at *
    go_wp2_with fail
    refine (markByteS_any _ vi o _ (unhide I9) (by omega)).mono ?_
    rintro e w10 ⟨rfl, hM, hT⟩
    have b10 : Below w.heap.size w9 w10 := hT.below (B := w.heap.size) (unhide K9).size (fun r hr e => by have := ((unhide I9).lt _ e).1; omega)
    have K10 := hide ((unhide K9).trans b10)
    have A10 := hide ((unhide HB).below (unhide K10))
    have S10 := hide ((unhide S9).kept hT (fun r hr e => by have := ((unhide I9).lt _ e).1; have := unhide SL r hr; omega))
    have M10 := hide hM
    clear hM hT b10 K9 A9 S9 I9
    go_wp2_with fail
    refine (heldByteS_any _ vi o.length _ (unhide M10) (by omega)).mono ?_
    rintro e w11 ⟨rfl, rfl⟩
    go_wp2_with fail
    refine (toByteS_own _ l _ (unhide A10) hll).mono ?_
    rintro e w12 ⟨v12, rfl, hO12, hb12⟩
    have K12 := hide ((unhide K10).trans (hb12.mono (unhide K10).size))
    have S12 := hide ((unhide S10).below hb12)
    have M12 := hide ((unhide M10).below hb12)
    have Y12 := hide hO12
    clear hb12 K10 A10 S10 M10 hO12
    go_wp2_with fail
    refine (implFrameBytes_any _ l _ (unhide Y12).bytes).mono ?_
    rintro e w13 ⟨vh, rfl, hOh, hb13⟩
    rw [← unhide HO] at hOh ⊢
    dsimp only at hOh ⊢
    have K13 := hide ((unhide K12).trans (hb13.mono (unhide K12).size))
    have S13 := hide ((unhide S12).below hb13)
    have M13 := hide ((unhide M12).below hb13)
    have H13 := hide hOh
    clear hb13 K12 S12 M12 Y12 hOh
    go_wp2_with fail
    refine (eqByteS_any vh vs o _ (unhide H13).bytes (unhide S13).bytes (by omega)).mono ?_
    rintro e w14 ⟨rfl, n14, rfl⟩
    have K14 := hide (below_drewN (unhide K13) n14)
    have M14 := hide ((unhide M13).drewN n14)
    clear K13 M13 S13 H13
    generalize w13.drewN n14 = w14 at *
    go_wp2_with fail
    refine (heldByteS_any _ vi o.length _ (unhide M14) (by omega)).mono ?_
    rintro e w15 ⟨rfl, rfl⟩
    go_wp2_with fail
    go_ret
    exact ⟨rfl, unhide K14⟩
  · go_enter Try.func4, Try.ntmps4
    go_wp2_with fail
    go_ret
    exact ⟨rfl, Below.refl _ _⟩

theorem own : ownKnob Try.prog.godebug = none := by kernel_rfl
theorem laidOut : laidOutB Try.prog = true := by kernel_rfl
set_option maxRecDepth 100000 in
theorem lifted (os : Os) (started : os.Started) (H : Type) (enc : TypeId × Value → H) :
    ReturnsInHanded {} Try.checked os 4 .any (Rows.fnExactFrameBytesSpec.pre6 enc Try.prog Try.f4 Rows.fnExactFrameBytesRow.domain false) (Rows.fnExactFrameBytesSpec.post enc Try.prog Try.f4 false true false false) := by
  refine returnsInHanded_of_change (C := Try.checked) own started (by kernel_rfl) Try.func4
    (ChangeSpec.witness6 (enc := enc) (C := Try.checked) false ⟨#[], #[.slice none 0 0], []⟩ 8 (by kernel_rfl) (by kernel_rfl) (by kernel_rfl) (by kernel_rfl)) ?_
  intro W base args ds gs before hval0 hW hcnd _
  have hval : ∀ (j : Nat) t v, Try.f4.params[j]? = some t → args[j]? = some v → Value.okWide Try.prog W .any base t v := hval0
  have hW' := hW
  obtain ⟨p, q, hA0, hV, rfl, hfz, hnd⟩ := hW
  have hA : DataW.TrodAll enc Try.prog W 0 (fun _ => true) true Try.f4.params.toList args.toList ds p := hA0
  rw [Try.params4] at hA hval
  obtain ⟨v0, vs0, d0, ds0, p0, q0, hargs, rfl, rfl, h0, r0⟩ := trodAll_cons hA
  obtain ⟨rfl, rfl, rfl⟩ := trodAll_nil r0
  obtain rfl : args = #[v0] := by cases args; simp_all
  obtain ⟨rfl, rfl⟩ := trodVars_none hV
  have k0 := h0
  have lt0 : ∀ x ∈ p0, x.block < W.heap.size := by obtain ⟨m, hm⟩ := k0; exact DataW.trod_lt m _ _ _ hm
  obtain ⟨a0, len0, cap0, rfl⟩ := okWide_slice Try.underlying22 (hval 0 22 v0 rfl rfl)
  obtain ⟨z0, w0⟩ : ∃ zs, IsRow .u8 W a0 len0 cap0 zs := by
    obtain ⟨fuel, hf⟩ := h0
    rcases open_ints Try.underlying22 Try.underlying5 (by kernel_rfl) hf with ⟨hcs, _⟩ | ⟨x, l, c, zs, hcs, _, hl, hm, hz, _, hcell, hwz⟩
    · simp [Value.cells] at hcs
      obtain ⟨rfl, rfl, rfl⟩ := hcs
      exact ⟨[], .inl ⟨rfl, rfl, rfl, rfl⟩⟩
    · simp [Value.cells] at hcs
      obtain ⟨rfl, rfl, rfl⟩ := hcs
      exact ⟨zs, .inr ⟨_, rfl, hl, hm, by simpa using hz, hcell, hwz⟩⟩
  clear hA0 hval0
  refine (walk a0 len0 cap0 z0 W w0).mono fun e W' ⟨he, bel⟩ => ?_
  subst he
  exact ⟨_, rfl, _, _, _, [], _, [], hW', trodAll_mk1 (shut_bool Try.underlying4 _), (trodAll_cons_mk (Below.trod laidOut (by kernel_rfl) (of_decide_eq_true (by kernel_rfl)) k0 bel lt0) trodAll_mk0), rfl, bel.frame _, fun h => by cases h⟩

theorem over : Rows.fnExactFrameBytesRow.holds Try.pinned (OpenSpec.ofChange Rows.fnExactFrameBytesSpec) :=
  OpenClaim.holds_of_wide 4 Try.f4 rfl rfl rfl rfl rfl rfl rfl ⟨rfl, rfl, rfl, rfl, rfl⟩ rfl rfl rfl rfl rfl (by kernel_rfl) Try.func4 (by kernel_rfl)
    (of_decide_eq_true (by kernel_rfl)) (by unfold Func.isWrapper; first | (rw [if_pos (by decide +kernel)]; kernel_rfl) | (rw [if_neg (by decide +kernel)]; exact ⟨rfl, rfl⟩))
    (fun os started H enc _ => lifted os started H enc)

end Go.Proofs.Ytfcnemafbefofai.fnExactFrameBytes
namespace Go.Proofs.Ytfcnemafbefofai
theorem fnExactFrameBytes_holds : Rows.FnExactFrameBytesSaid := fnExactFrameBytes.over
#print axioms fnExactFrameBytes_holds
end Go.Proofs.Ytfcnemafbefofai
