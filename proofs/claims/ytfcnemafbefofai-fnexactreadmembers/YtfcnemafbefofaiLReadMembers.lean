/- For every string that can be read, laws.FnExactReadMembers returns true, and the string reads as it did. No condition. -/
import Derived.Test.YtfcnemafbefofaiMemR
import Derived.Test.YtfcnemafbefofaiMarkI
namespace Go.Proofs.Ytfcnemafbefofai.fnExactReadMembers
open Go.ChangeShapes Go.WideShapes Go.ChangeAt Go.RowKit
open Go.ChangeMaps (open_string shut_string)
set_option linter.unusedVariables false

theorem out_len (s : ByteArray) : (memRead s).1.length ≤ 65536 := by
  unfold memRead
  split
  · simp
  · split
    · simp only [bytesI_len]; omega
    · simp
set_option maxRecDepth 100000 in
set_option maxHeartbeats 2000000 in
theorem walk (s : ByteArray) (w : World) (hs : s.size ≤ maxLen) :
    Calls Try.prog 7 #[.string s] w fun e w' => e = .returned (.bool true) ∧ Below w.heap.size w w' := by
  have HS := hide hs
  unfold maxLen at hs
  by_cases h : s.size ≤ 1048576
  · have hol := out_len s
    go_enter Try.func7, Try.ntmps7
    go_wp2_with fail
    refine (specReadMembers_any s _ (unhide HS)).mono ?_
    rintro e w3 ⟨vs, rfl, hOs, hb3⟩
    have B3 := hide hb3
    have S3 := hide hOs
    clear hb3 hOs
    go_wp2_with fail
    refine (implReadMembers_any s _ (unhide HS)).mono ?_
    rintro e w5 ⟨vi, rfl, hOi, hb5⟩
    have B5 := hide ((unhide B3).trans (hb5.mono (unhide B3).size))
    have S5 := hide ((unhide S3).below hb5)
    have SL := hide (fun r hr => ((unhide S3).lt r hr).2)
    have I5 := hide hOi
    have hz3 := (unhide B3).size
    clear hb5 B3 S3 hOi
    obtain ⟨out, hout⟩ : ∃ out, out = memRead s := ⟨_, rfl⟩
    rw [← hout] at hol S5 I5 ⊢
    have HO := hide hout
    clear hout
    obtain ⟨l, code⟩ := out
    dsimp only at hol S5 I5 ⊢
    go_wp2_with fail
    refine (eqIntS_any vi vs l _ (unhide I5).ints (unhide S5).ints (by omega)).mono ?_
    rintro e w6 ⟨rfl, n6, rfl⟩
    have B6 := hide (below_drewN (unhide B5) n6)
    have S6 := hide ((unhide S5).drewN n6)
    have I6 := hide ((unhide I5).drewN n6)
    clear B5 S5 I5
    generalize w5.drewN n6 = w6 at *
    go_wp2_with fail
    refine (markIntS_any _ vi l _ (unhide I6) (by omega)).mono ?_
    rintro e w7 ⟨rfl, hM, hT⟩
    have B7 := hide ((unhide B6).trans (hT.below (B := w.heap.size) (unhide B6).size (fun r hr e => by have := ((unhide I6).lt _ e).1; omega)))
    have S7 := hide ((unhide S6).kept hT (fun r hr e => by have := ((unhide I6).lt _ e).1; have := unhide SL r hr; omega))
    have M7 := hide hM
    clear hM hT B6 S6 I6
    go_wp2_with fail
    refine (heldIntS_any _ vi l.length _ (unhide M7) (by omega)).mono ?_
    rintro e w8 ⟨rfl, rfl⟩
    go_wp2_with fail
    refine (implReadMembers_any s _ (unhide HS)).mono ?_
    rintro e w10 ⟨vh, rfl, hOh, hb10⟩
    rw [← unhide HO] at hOh ⊢
    dsimp only at hOh ⊢
    have B10 := hide ((unhide B7).trans (hb10.mono (unhide B7).size))
    have S10 := hide ((unhide S7).below hb10)
    have M10 := hide ((unhide M7).below hb10)
    have H10 := hide hOh
    clear hb10 B7 S7 M7 hOh
    go_wp2_with fail
    refine (eqIntS_any vh vs l _ (unhide H10).ints (unhide S10).ints (by omega)).mono ?_
    rintro e w11 ⟨rfl, n11, rfl⟩
    have B11 := hide (below_drewN (unhide B10) n11)
    have M11 := hide ((unhide M10).drewN n11)
    clear B10 M10 S10 H10
    generalize w10.drewN n11 = w11 at *
    go_wp2_with fail
    refine (heldIntS_any _ vi l.length _ (unhide M11) (by omega)).mono ?_
    rintro e w12 ⟨rfl, rfl⟩
    go_wp2_with fail
    go_ret
    exact ⟨rfl, unhide B11⟩
  · go_enter Try.func7, Try.ntmps7
    go_wp2_with fail
    go_ret
    exact ⟨rfl, Below.refl _ _⟩

theorem own : ownKnob Try.prog.godebug = none := by kernel_rfl
theorem laidOut : laidOutB Try.prog = true := by kernel_rfl
set_option maxRecDepth 100000 in
theorem lifted (os : Os) (started : os.Started) (H : Type) (enc : TypeId × Value → H) :
    ReturnsInHanded {} Try.checked os 7 .any (Rows.fnExactReadMembersSpec.pre6 enc Try.prog Try.f7 Rows.fnExactReadMembersRow.domain false) (Rows.fnExactReadMembersSpec.post enc Try.prog Try.f7 false true false false) := by
  refine returnsInHanded_of_change (C := Try.checked) own started (by kernel_rfl) Try.func7
    (ChangeSpec.witness6 (enc := enc) (C := Try.checked) false ⟨#[], #[.string ByteArray.empty], []⟩ 8 (by kernel_rfl) (by kernel_rfl) (by kernel_rfl) (by kernel_rfl)) ?_
  intro W base args ds gs before hval0 hW hcnd _
  have hval : ∀ (j : Nat) t v, Try.f7.params[j]? = some t → args[j]? = some v → Value.okWide Try.prog W .any base t v := hval0
  have hW' := hW
  obtain ⟨p, q, hA0, hV, rfl, hfz, hnd⟩ := hW
  have hA : DataW.TrodAll enc Try.prog W 0 (fun _ => true) true Try.f7.params.toList args.toList ds p := hA0
  rw [Try.params7] at hA hval
  obtain ⟨v0, vs0, d0, ds0, p0, q0, hargs, rfl, rfl, h0, r0⟩ := trodAll_cons hA
  obtain ⟨rfl, rfl, rfl⟩ := trodAll_nil r0
  obtain rfl : args = #[v0] := by cases args; simp_all
  obtain ⟨rfl, rfl⟩ := trodVars_none hV
  have k0 := h0
  have lt0 : ∀ x ∈ p0, x.block < W.heap.size := by obtain ⟨m, hm⟩ := k0; exact DataW.trod_lt m _ _ _ hm
  obtain ⟨a0, rfl, _, _, w0⟩ := open_string Try.underlying9 (hval 0 9 v0 rfl rfl) h0
  clear hA0 hval0
  refine (walk a0 W w0).mono fun e W' ⟨he, bel⟩ => ?_
  subst he
  exact ⟨_, rfl, _, _, _, [], _, [], hW', trodAll_mk1 (shut_bool Try.underlying4 _), (trodAll_cons_mk (Below.trod laidOut (by kernel_rfl) (of_decide_eq_true (by kernel_rfl)) k0 bel lt0) trodAll_mk0), rfl, bel.frame _, fun h => by cases h⟩

theorem over : Rows.fnExactReadMembersRow.holds Try.pinned (OpenSpec.ofChange Rows.fnExactReadMembersSpec) :=
  OpenClaim.holds_of_wide 7 Try.f7 rfl rfl rfl rfl rfl rfl rfl ⟨rfl, rfl, rfl, rfl, rfl⟩ rfl rfl rfl rfl rfl (by kernel_rfl) Try.func7 (by kernel_rfl)
    (of_decide_eq_true (by kernel_rfl)) (by unfold Func.isWrapper; first | (rw [if_pos (by decide +kernel)]; kernel_rfl) | (rw [if_neg (by decide +kernel)]; exact ⟨rfl, rfl⟩))
    (fun os started H enc _ => lifted os started H enc)

end Go.Proofs.Ytfcnemafbefofai.fnExactReadMembers
namespace Go.Proofs.Ytfcnemafbefofai
theorem fnExactReadMembers_holds : Rows.FnExactReadMembersSaid := fnExactReadMembers.over
#print axioms fnExactReadMembers_holds
end Go.Proofs.Ytfcnemafbefofai
