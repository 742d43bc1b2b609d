/- For every slice of bytes that can be read, laws.FnExactReadEntry returns true, and the slice reads as it did. No condition. -/
import Derived.Test.YtfcnemafbefofaiRdEK
import Derived.Test.YtfcnemafbefofaiCopies
namespace Go.Proofs.Ytfcnemafbefofai.fnExactReadEntry
open Go.ChangeShapes Go.WideShapes Go.ChangeAt Go.RowKit
open Go.ChangeMaps (open_string shut_string)
set_option linter.unusedVariables false

theorem rdv_of {w : World} {g : Nat} {l : List Int} (h : Bytes w (.slice (some ⟨g, 0, none⟩) l.length l.length) l) (hg : g < w.heap.size) : RdV w w.heap.size (.slice (some ⟨g, 0, none⟩) l.length l.length) l := by
  obtain ⟨a, cap, hv, hm, hc, hr⟩ := h
  refine ⟨_, _, rfl, Nat.le_refl _, hm, .inr ⟨g, 0, rfl, hg, fun i hi => ?_⟩, hr⟩
  rcases hc with h0 | ⟨b, off, ha, _, hcell⟩
  · omega
  · simp only [Value.slice.injEq] at hv
    rw [← hv.1] at ha
    cases ha
    exact hcell i hi
set_option maxRecDepth 100000 in
set_option maxHeartbeats 1000000 in
theorem eqEntry_any (t k : Int) (d : ByteArray) (w : World) :
    Calls Try.prog 11 #[.agg #[.int .i64 t, .int .i64 k, .string d], .agg #[.int .i64 t, .int .i64 k, .string d]] w fun e w' => e = .returned (.bool true) ∧ Below w.heap.size w w' := by
  go_enter Try.func11, Try.ntmps11
  go_wp2_with fail
  go_ret
  exact ⟨rfl, ((Below.refl _ _).alloc (Nat.le_refl _) _).alloc (by simp) _⟩
set_option maxRecDepth 100000 in
set_option maxHeartbeats 1000000 in
theorem walk (a0 : Option Addr) (len0 cap0 : Nat) (z0 : List Int) (w : World) (w0 : IsRow .u8 w a0 len0 cap0 z0) :
    Calls Try.prog 3 #[.slice a0 len0 cap0] w fun e w' => e = .returned (.bool true) ∧ Below w.heap.size w w' := by
  have hB := bytes_of_row w0
  obtain ⟨a, cap, hv, hm, hc, hr⟩ := id hB
  have hlen : len0 = (z0.take len0).length := by simp only [Value.slice.injEq] at hv; exact hv.2.1
  have hmx : len0 ≤ 9223372036854775807 := by unfold maxLen at hm; omega
  have HB := hide hB
  clear hv hc hr hm hB w0
  generalize z0.take len0 = l at *
  by_cases h : len0 ≤ 1048576
  · have HL := hide hlen
    clear hlen
    go_enter Try.func3, Try.ntmps3
    go_wp2_with fail
    refine (toByteS_any _ l _ (unhide HB) (by rw [← unhide HL]; exact h)).mono ?_
    rintro e w1 ⟨g1, rfl, hg1, hB1, hb1⟩
    have K1 := hide hb1
    have A1 := hide ((unhide HB).below hb1)
    have V1 := hide (rdv_of hB1 hg1.2)
    clear hB1 hb1 hg1
    go_wp2_with fail
    refine (specReadEntry_any _ _ l _ (unhide V1)).mono ?_
    rintro e w2 ⟨rfl, hb2⟩
    have K2 := hide ((unhide K1).trans (hb2.mono (unhide K1).size))
    have A2 := hide ((unhide A1).below hb2)
    clear hb2 K1 A1 V1
    generalize hcr : entRead l = cr at *
    have HCR := hide hcr
    clear hcr
    obtain ⟨⟨x1, x2, s5⟩, code⟩ := cr
    dsimp only [entVal] at HCR ⊢
    go_wp2_with fail
    have W3 := hide (Blk.new w2 #[.int .i64 x1, .int .i64 x2, .string s5] 24 w2.heap.size rfl)
    have K3 := hide ((unhide K2).alloc (unhide K2).size (.cells #[.int .i64 x1, .int .i64 x2, .string s5] 24))
    have A3 := hide ((unhide A2).below ((Below.refl w2.heap.size w2).alloc (Nat.le_refl _) (.cells #[.int .i64 x1, .int .i64 x2, .string s5] 24)))
    clear K2 A2
    generalize w2.alloc (.cells #[.int .i64 x1, .int .i64 x2, .string s5] 24) = w3 at *
    refine (toByteS_any _ l _ (unhide A3) (by rw [← unhide HL]; exact h)).mono ?_
    rintro e w4 ⟨g4, rfl, hg4, hB4, hb4⟩
    have K4 := hide ((unhide K3).trans (hb4.mono (unhide K3).size))
    have A4 := hide ((unhide A3).below hb4)
    have W4 := hide ((unhide W3).below hb4)
    have V4 := hide (rdv_of hB4 hg4.2)
    have X4 := hide hB4
    clear hB4 hb4 hg4 K3 A3 W3
    go_wp2_with fail
    refine (implReadEntry_any _ _ l _ (unhide V4)).mono ?_
    rintro e w5 ⟨rfl, hb5⟩
    rw [unhide HCR]
    dsimp only [entVal]
    have K5 := hide ((unhide K4).trans (hb5.mono (unhide K4).size))
    have A5 := hide ((unhide A4).below hb5)
    have W5 := hide ((unhide W4).below hb5)
    have X5 := hide ((unhide X4).below hb5)
    clear hb5 K4 A4 W4 V4 X4
    have hlt5 := (unhide W5).1
    have hne : w2.heap.size ≠ w5.heap.size := by omega
    have c0 := (unhide W5).cell 0 rfl
    have c1 := (unhide W5).cell 1 rfl
    have c2 := (unhide W5).cell 2 rfl
    go_wp2_with fail
    refine (eqEntry_any x1 x2 s5 _).mono ?_
    rintro e w6 ⟨rfl, hb6⟩
    have b6 : Below w5.heap.size w5 w6 := ((Below.refl w5.heap.size w5).alloc (Nat.le_refl _) (.cells #[.int .i64 x1, .int .i64 x2, .string s5] 24)).trans (hb6.mono (by simp))
    have K6 := hide ((unhide K5).trans (b6.mono (unhide K5).size))
    have A6 := hide ((unhide A5).below b6)
    have X6 := hide ((unhide X5).below b6)
    clear hb6 b6 K5 A5 W5 X5 c0 c1 c2
    go_wp2_with fail
    refine (toByteS_any _ l _ (unhide A6) (by rw [← unhide HL]; exact h)).mono ?_
    rintro e w7 ⟨g7, rfl, hg7, hB7, hb7⟩
    have K7 := hide ((unhide K6).trans (hb7.mono (unhide K6).size))
    have X7 := hide ((unhide X6).below hb7)
    have Y7 := hide hB7
    clear hb7 hB7 hg7 K6 A6 X6
    go_wp2_with fail
    refine (eqByteS_any _ _ l _ (unhide X7) (unhide Y7) (by rw [← unhide HL]; exact h)).mono ?_
    rintro e w8 ⟨rfl, n8, rfl⟩
    go_wp2_with fail
    go_ret
    exact ⟨rfl, below_drewN (unhide K7) n8⟩
  · go_enter Try.func3, Try.ntmps3
    go_wp2_with fail
    go_ret
    exact ⟨rfl, Below.refl _ _⟩

theorem own : ownKnob Try.prog.godebug = none := by kernel_rfl
theorem laidOut : laidOutB Try.prog = true := by kernel_rfl
set_option maxRecDepth 100000 in
theorem lifted (os : Os) (started : os.Started) (H : Type) (enc : TypeId × Value → H) :
    ReturnsInHanded {} Try.checked os 3 .any (Rows.fnExactReadEntrySpec.pre6 enc Try.prog Try.f3 Rows.fnExactReadEntryRow.domain false) (Rows.fnExactReadEntrySpec.post enc Try.prog Try.f3 false true false false) := by
  refine returnsInHanded_of_change (C := Try.checked) own started (by kernel_rfl) Try.func3
    (ChangeSpec.witness6 (enc := enc) (C := Try.checked) false ⟨#[], #[.slice none 0 0], []⟩ 8 (by kernel_rfl) (by kernel_rfl) (by kernel_rfl) (by kernel_rfl)) ?_
  intro W base args ds gs before hval0 hW hcnd _
  have hval : ∀ (j : Nat) t v, Try.f3.params[j]? = some t → args[j]? = some v → Value.okWide Try.prog W .any base t v := hval0
  have hW' := hW
  obtain ⟨p, q, hA0, hV, rfl, hfz, hnd⟩ := hW
  have hA : DataW.TrodAll enc Try.prog W 0 (fun _ => true) true Try.f3.params.toList args.toList ds p := hA0
  rw [Try.params3] at hA hval
  obtain ⟨v0, vs0, d0, ds0, p0, q0, hargs, rfl, rfl, h0, r0⟩ := trodAll_cons hA
  obtain ⟨rfl, rfl, rfl⟩ := trodAll_nil r0
  obtain rfl : args = #[v0] := by cases args; simp_all
  obtain ⟨rfl, rfl⟩ := trodVars_none hV
  have k0 := h0
  have lt0 : ∀ x ∈ p0, x.block < W.heap.size := by obtain ⟨m, hm⟩ := k0; exact DataW.trod_lt m _ _ _ hm
  obtain ⟨a0, len0, cap0, rfl⟩ := okWide_slice Try.underlying22 (hval 0 22 v0 rfl rfl)
  obtain ⟨z0, w0⟩ : ∃ zs, IsRow .u8 W a0 len0 cap0 zs := by
    obtain ⟨fuel, hf⟩ := h0
    rcases open_ints Try.underlying22 Try.underlying5 (by kernel_rfl) hf with ⟨hcs, _⟩ | ⟨x, l, c, zs, hcs, _, hl, hm, hz, _, hcell, hwz⟩
    · simp [Value.cells] at hcs
      obtain ⟨rfl, rfl, rfl⟩ := hcs
      exact ⟨[], .inl ⟨rfl, rfl, rfl, rfl⟩⟩
    · simp [Value.cells] at hcs
      obtain ⟨rfl, rfl, rfl⟩ := hcs
      exact ⟨zs, .inr ⟨_, rfl, hl, hm, by simpa using hz, hcell, hwz⟩⟩
  clear hA0 hval0
  refine (walk a0 len0 cap0 z0 W w0).mono fun e W' ⟨he, bel⟩ => ?_
  subst he
  exact ⟨_, rfl, _, _, _, [], _, [], hW', trodAll_mk1 (shut_bool Try.underlying4 _), (trodAll_cons_mk (Below.trod laidOut (by kernel_rfl) (of_decide_eq_true (by kernel_rfl)) k0 bel lt0) trodAll_mk0), rfl, bel.frame _, fun h => by cases h⟩

theorem over : Rows.fnExactReadEntryRow.holds Try.pinned (OpenSpec.ofChange Rows.fnExactReadEntrySpec) :=
  OpenClaim.holds_of_wide 3 Try.f3 rfl rfl rfl rfl rfl rfl rfl ⟨rfl, rfl, rfl, rfl, rfl⟩ rfl rfl rfl rfl rfl (by kernel_rfl) Try.func3 (by kernel_rfl)
    (of_decide_eq_true (by kernel_rfl)) (by unfold Func.isWrapper; first | (rw [if_pos (by decide +kernel)]; kernel_rfl) | (rw [if_neg (by decide +kernel)]; exact ⟨rfl, rfl⟩))
    (fun os started H enc _ => lifted os started H enc)

end Go.Proofs.Ytfcnemafbefofai.fnExactReadEntry
namespace Go.Proofs.Ytfcnemafbefofai
theorem fnExactReadEntry_holds : Rows.FnExactReadEntrySaid := fnExactReadEntry.over
#print axioms fnExactReadEntry_holds
end Go.Proofs.Ytfcnemafbefofai
