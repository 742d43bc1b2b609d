/- For every text, laws.FnExactNewIssuer returns true. No condition. (Written by py/lnis.py.) -/
import Derived.Test.YtkojmnlfpccbiaaIsN
namespace Go.Proofs.Ytkojmnlfpccbiaa.fnExactNewIssuer
open Go.ChangeShapes Go.WideShapes Go.ChangeAt Go.RowKit
open Go.ChangeMaps (open_string shut_string)
set_option linter.unusedVariables false

set_option maxRecDepth 100000 in
set_option maxHeartbeats 4000000 in
theorem walk (s : ByteArray) (w : World) (hz : s.size ≤ maxLen) :
    Calls Try.prog 3 #[.string s] w fun e w' => e = .returned (.bool true) ∧ Below w.heap.size w w' := by
  unfold maxLen at hz
  by_cases hbig : 1048576 < s.size
  · go_enter Try.func3, Try.ntmps3
    go_wp2_with fail
    go_ret
    exact ⟨rfl, Below.refl _ _⟩
  have hsm : s.size ≤ 1048576 := by omega
  have HSP := hide (fun wx => specNewIssuer_any s wx hsm)
  have HIM := hide (fun wx => implNewIssuer_any s wx hsm)
  have hlo := niOut_len s
  generalize niOut s = out at *
  obtain ⟨so, lo, c⟩ := out
  dsimp only at HSP HIM hlo
  have HLO := hide (show lo.length ≤ 1048576 by omega)
  have HNN := hide (show ¬ 1 + (lo.length : Int) < 0 by omega)
  clear hlo hz
  go_enter Try.func3, Try.ntmps3
  go_wp2_with fail
  refine (unhide HSP w).mono ?_
  rintro e w3 ⟨v, rfl, hV, hb⟩
  obtain ⟨va, vc, rfl⟩ : ∃ va vc, v = .slice va lo.length vc := by obtain ⟨a, cap, rfl, _⟩ := hV; exact ⟨a, cap, rfl⟩
  have BB := (Below.refl w3.heap.size w3).alloc (Nat.le_refl _) (.cells #[.string so, .slice va lo.length vc, .int .i64 0, .string ⟨#[]⟩, .string ⟨#[]⟩, .bool false, .int .i64 0] 28)
  have K4 := hide (hb.trans (BB.mono hb.size))
  have X4 := Blk.new w3 #[.string so, .slice va lo.length vc, .int .i64 0, .string ⟨#[]⟩, .string ⟨#[]⟩, .bool false, .int .i64 0] 28 w3.heap.size rfl
  have V4 := hV.below BB
  clear hb hV BB
  go_wp2_with fail
  generalize w3.alloc (.cells #[.string so, .slice va lo.length vc, .int .i64 0, .string ⟨#[]⟩, .string ⟨#[]⟩, .bool false, .int .i64 0] 28) = w4 at *
  generalize w3.heap.size = b3 at *
  have hb3 := X4.1
  have HX := hide (fun wx (hx : Below w4.heap.size w4 wx) => And.intro (X4.below hx) (V4.below hx))
  clear X4 V4
  refine (unhide HIM w4).mono ?_
  rintro e w5 ⟨g, rfl, hO, hb⟩
  obtain ⟨ga, gc, rfl⟩ : ∃ ga gc, g = .slice ga lo.length gc := by obtain ⟨a, cap, rfl, _⟩ := hO.bos; exact ⟨a, cap, rfl⟩
  have BB := (Below.refl w5.heap.size w5).alloc (Nat.le_refl _) (.cells #[.string so, .slice ga lo.length gc, .int .i64 0, .string ⟨#[]⟩, .string ⟨#[]⟩, .bool false, .int .i64 0] 28)
  have HGB := hide (hO.lt)
  have K6 := hide (hb.trans (BB.mono hb.size))
  have O6 := hide (hO.below BB)
  have X6 := hide (Blk.new w5 #[.string so, .slice ga lo.length gc, .int .i64 0, .string ⟨#[]⟩, .string ⟨#[]⟩, .bool false, .int .i64 0] 28 w5.heap.size rfl)
  clear hb hO BB
  obtain ⟨Y6, V6⟩ := unhide HX _ (unhide K6)
  have y0 := (Y6).cell 0 rfl
  have y1 := (Y6).cell 1 rfl
  have y2 := (Y6).cell 2 rfl
  have y3 := (Y6).cell 3 rfl
  have y4 := (Y6).cell 4 rfl
  have y5 := (Y6).cell 5 rfl
  have y6 := (Y6).cell 6 rfl
  have x0 := (unhide X6).cell 0 rfl
  have x1 := (unhide X6).cell 1 rfl
  have x2 := (unhide X6).cell 2 rfl
  have x3 := (unhide X6).cell 3 rfl
  have x4 := (unhide X6).cell 4 rfl
  have x5 := (unhide X6).cell 5 rfl
  have x6 := (unhide X6).cell 6 rfl
  go_wp2_with fail
  generalize w5.alloc (.cells #[.string so, .slice ga lo.length gc, .int .i64 0, .string ⟨#[]⟩, .string ⟨#[]⟩, .bool false, .int .i64 0] 28) = w6 at *
  generalize w5.heap.size = b5 at *
  have VH := hide V6
  clear Y6 V6
  refine (eqIssuer_any so _ _ 0 ⟨#[]⟩ ⟨#[]⟩ false 0 lo w6 (unhide O6).bos (unhide VH) (unhide HLO)).mono ?_
  rintro e w7 ⟨rfl, hb⟩
  have K7 := hide ((unhide K6).trans (hb.mono (unhide K6).size))
  have O7 := hide ((unhide O6).below hb)
  have X7 := hide ((unhide X6).below hb)
  clear hb K6 O6 X6 VH x0 x1 x2 x3 x4 x5 x6 y0 y1 y2 y3 y4 y5 y6
  have x0 := (unhide X7).cell 0 rfl
  have x1 := (unhide X7).cell 1 rfl
  have x2 := (unhide X7).cell 2 rfl
  have x3 := (unhide X7).cell 3 rfl
  have x4 := (unhide X7).cell 4 rfl
  have x5 := (unhide X7).cell 5 rfl
  have x6 := (unhide X7).cell 6 rfl
  have b1 : (c != c) = false := by simp
  have b2 : (c == c) = true := by simp
  go_wp2_with fail
  refine (markIssuerF_any so w4.heap.size _ 0 ⟨#[]⟩ ⟨#[]⟩ false 0 lo w7 (unhide O7)).mono ?_
  rintro e w8 ⟨rfl, hO, hT⟩
  have K8 := hide ((unhide K7).trans (hT.below (unhide K7).size (fun k hk e => by have := (unhide HGB k e).1; omega)))
  have O8 := hide hO
  have X8 := hide ((unhide X7).kept hT (fun e => by have := (unhide HGB _ e).2; omega))
  clear hO hT K7 O7 X7 x0 x1 x2 x3 x4 x5 x6
  have x0 := (unhide X8).cell 0 rfl
  have x1 := (unhide X8).cell 1 rfl
  have x2 := (unhide X8).cell 2 rfl
  have x3 := (unhide X8).cell 3 rfl
  have x4 := (unhide X8).cell 4 rfl
  have x5 := (unhide X8).cell 5 rfl
  have x6 := (unhide X8).cell 6 rfl
  go_wp2_with fail
  refine (heldIssuer_any so _ 0 ⟨#[]⟩ ⟨#[]⟩ false 0 lo.length w8 (unhide O8).bos (unhide HLO)).mono ?_
  rintro e w9 ⟨rfl, hb⟩
  have K9 := hide ((unhide K8).trans (hb.mono (unhide K8).size))
  have O9 := hide ((unhide O8).below hb)
  have X9 := hide ((unhide X8).below hb)
  clear hb K8 O8 X8 x0 x1 x2 x3 x4 x5 x6
  have hnn := unhide HNN
  have HMM : Hid (∀ wx, FlO w4.heap.size wx (.slice ga lo.length gc) (mrow 1 lo.length) → Calls Try.prog 9 #[.agg #[.string so, .slice ga lo.length gc, .int .i64 0, .string ⟨#[]⟩, .string ⟨#[]⟩, .bool false, .int .i64 0], .int .i64 1] wx fun e w' => e = .returned (.int .i64 (1 + (lo.length : Int))) ∧ Below wx.heap.size wx w') := hide (fun wx hx => heldIssuer_any so _ 0 ⟨#[]⟩ ⟨#[]⟩ false 0 lo.length wx hx.bos (unhide HLO))
  generalize 1 + (lo.length : Int) = mm at *
  have b5 : (mm != mm) = false := by simp
  have b6 : (mm == mm) = true := by simp
  go_wp2_with fail
  refine (unhide HIM w9).mono ?_
  rintro e w10 ⟨h, rfl, hO, hb⟩
  obtain ⟨ha, hc, rfl⟩ : ∃ ha hc, h = .slice ha lo.length hc := by obtain ⟨a, cap, rfl, _⟩ := hO.bos; exact ⟨a, cap, rfl⟩
  have BB := (Below.refl w10.heap.size w10).alloc (Nat.le_refl _) (.cells #[.string so, .slice ha lo.length hc, .int .i64 0, .string ⟨#[]⟩, .string ⟨#[]⟩, .bool false, .int .i64 0] 28)
  have bb := hb.trans (BB.mono hb.size)
  have K11 := hide ((unhide K9).trans (bb.mono (unhide K9).size))
  have O11 := hide ((unhide O9).below bb)
  have X11 := hide ((unhide X9).below bb)
  have H11 := hide (hO.bos.below BB)
  have Z11 := hide (Blk.new w10 #[.string so, .slice ha lo.length hc, .int .i64 0, .string ⟨#[]⟩, .string ⟨#[]⟩, .bool false, .int .i64 0] 28 w10.heap.size rfl)
  clear hb hO BB bb K9 O9 X9
  obtain ⟨Y11, V11⟩ := unhide HX _ (unhide K11)
  have VH := hide V11
  have y0 := (Y11).cell 0 rfl
  have y1 := (Y11).cell 1 rfl
  have y2 := (Y11).cell 2 rfl
  have y3 := (Y11).cell 3 rfl
  have y4 := (Y11).cell 4 rfl
  have y5 := (Y11).cell 5 rfl
  have y6 := (Y11).cell 6 rfl
  have z0 := (unhide Z11).cell 0 rfl
  have z1 := (unhide Z11).cell 1 rfl
  have z2 := (unhide Z11).cell 2 rfl
  have z3 := (unhide Z11).cell 3 rfl
  have z4 := (unhide Z11).cell 4 rfl
  have z5 := (unhide Z11).cell 5 rfl
  have z6 := (unhide Z11).cell 6 rfl
  clear Y11 V11
  go_wp2_with fail
  generalize w10.alloc (.cells #[.string so, .slice ha lo.length hc, .int .i64 0, .string ⟨#[]⟩, .string ⟨#[]⟩, .bool false, .int .i64 0] 28) = w11 at *
  refine (eqIssuer_any so _ _ 0 ⟨#[]⟩ ⟨#[]⟩ false 0 lo w11 (unhide H11) (unhide VH) (unhide HLO)).mono ?_
  rintro e w12 ⟨rfl, hb⟩
  have K12 := hide ((unhide K11).trans (hb.mono (unhide K11).size))
  have O12 := hide ((unhide O11).below hb)
  have X12 := hide ((unhide X11).below hb)
  clear hb K11 O11 X11 H11 Z11 VH y0 y1 y2 y3 y4 y5 y6 z0 z1 z2 z3 z4 z5 z6
  have x0 := (unhide X12).cell 0 rfl
  have x1 := (unhide X12).cell 1 rfl
  have x2 := (unhide X12).cell 2 rfl
  have x3 := (unhide X12).cell 3 rfl
  have x4 := (unhide X12).cell 4 rfl
  have x5 := (unhide X12).cell 5 rfl
  have x6 := (unhide X12).cell 6 rfl
  go_wp2_with fail
  refine (unhide HMM w12 (unhide O12)).mono ?_
  rintro e w13 ⟨rfl, hb⟩
  have K13 := hide ((unhide K12).trans (hb.mono (unhide K12).size))
  have KF := hide ((unhide K4).trans ((unhide K13).mono (unhide K4).size))
  clear hb
  go_wp2_with fail
  go_ret
  exact ⟨rfl, unhide KF⟩

theorem own : ownKnob Try.prog.godebug = none := by kernel_rfl
theorem laidOut : laidOutB Try.prog = true := by kernel_rfl
set_option maxRecDepth 100000 in
theorem lifted (os : Os) (started : os.Started) (H : Type) (enc : TypeId × Value → H) :
    ReturnsInHanded {} Try.checked os 3 .any (Rows.fnExactNewIssuerSpec.pre6 enc Try.prog Try.f3 Rows.fnExactNewIssuerRow.domain false) (Rows.fnExactNewIssuerSpec.post enc Try.prog Try.f3 false true false false) := by
  refine returnsInHanded_of_change (C := Try.checked) own started (by kernel_rfl) Try.func3
    (ChangeSpec.witness6 (enc := enc) (C := Try.checked) false ⟨#[], #[.string ByteArray.empty], []⟩ 8 (by kernel_rfl) (by kernel_rfl) (by kernel_rfl) (by kernel_rfl)) ?_
  intro W base args ds gs before hval0 hW hcnd _
  have hval : ∀ (j : Nat) t v, Try.f3.params[j]? = some t → args[j]? = some v → Value.okWide Try.prog W .any base t v := hval0
  have hW' := hW
  obtain ⟨p, q, hA0, hV, rfl, hfz, hnd⟩ := hW
  have hA : DataW.TrodAll enc Try.prog W 0 (fun _ => true) true Try.f3.params.toList args.toList ds p := hA0
  rw [Try.params3] at hA hval
  obtain ⟨v0, vs0, d0, ds0, p0, q0, hargs, rfl, rfl, h0, r0⟩ := trodAll_cons hA
  obtain ⟨rfl, rfl, rfl⟩ := trodAll_nil r0
  obtain rfl : args = #[v0] := by cases args; simp_all
  obtain ⟨rfl, rfl⟩ := trodVars_none hV
  have k0 := h0
  have lt0 : ∀ x ∈ p0, x.block < W.heap.size := by obtain ⟨m, hm⟩ := k0; exact DataW.trod_lt m _ _ _ hm
  obtain ⟨a0, rfl, _, _, w0⟩ := open_string Try.underlying9 (hval 0 9 v0 rfl rfl) h0
  clear hA0 hval0
  refine (walk a0 W w0).mono fun e W' ⟨he, bel⟩ => ?_
  subst he
  exact ⟨_, rfl, _, _, _, [], _, [], hW', trodAll_mk1 (shut_bool Try.underlying4 _), (trodAll_cons_mk (Below.trod laidOut (by kernel_rfl) (of_decide_eq_true (by kernel_rfl)) k0 bel lt0) trodAll_mk0), rfl, bel.frame _, fun h => by cases h⟩

theorem over : Rows.fnExactNewIssuerRow.holds Try.pinned (OpenSpec.ofChange Rows.fnExactNewIssuerSpec) :=
  OpenClaim.holds_of_wide 3 Try.f3 rfl rfl rfl rfl rfl rfl rfl ⟨rfl, rfl, rfl, rfl, rfl⟩ rfl rfl rfl rfl rfl (by kernel_rfl) Try.func3 (by kernel_rfl)
    (of_decide_eq_true (by kernel_rfl)) (by unfold Func.isWrapper; first | (rw [if_pos (by decide +kernel)]; kernel_rfl) | (rw [if_neg (by decide +kernel)]; exact ⟨rfl, rfl⟩))
    (fun os started H enc _ => lifted os started H enc)

end Go.Proofs.Ytkojmnlfpccbiaa.fnExactNewIssuer
namespace Go.Proofs.Ytkojmnlfpccbiaa
theorem fnExactNewIssuer_holds : Rows.FnExactNewIssuerSaid := fnExactNewIssuer.over
#print axioms fnExactNewIssuer_holds
end Go.Proofs.Ytkojmnlfpccbiaa
