/- For every state that can be read, laws.FnExactStateOK returns true, and the state reads as it did. No condition. -/
import Derived.Test.YtlicgahjdgipkalStP
import Derived.Test.YtlicgahjdgipkalOpenS
namespace Go.Proofs.Ytlicgahjdgipkal.fnExactStateOK
open Go.ChangeShapes Go.WideShapes Go.ChangeAt Go.RowKit
open Go.ChangeMaps (open_string shut_string)
set_option linter.unusedVariables false

set_option maxRecDepth 100000 in
set_option maxHeartbeats 2000000 in
theorem walk (tm vo : Int) (u : Value) (l : List En) (w : World) (hf : Ens w u l) (hz : ∀ i, i < l.length → (l.getD i default).d.size ≤ maxLen) :
    Calls Try.prog 3 #[.agg #[.int .i64 tm, .int .i64 vo, u]] w fun e w' => e = .returned (.bool true) ∧ Below w.heap.size w w' := by
  have HF := hide hf
  have HZ := hide hz
  obtain ⟨a, cap, rfl, hn, hm, hc⟩ := hf
  clear hc hm hn hz
  have B0 := hide ((Below.refl w.heap.size w).alloc (Nat.le_refl _) (.cells #[.int .i64 tm, .int .i64 vo, .slice a l.length cap] 24))
  have X0 := hide (Blk.new w #[.int .i64 tm, .int .i64 vo, .slice a l.length cap] 24 w.heap.size rfl)
  go_enter Try.func3, Try.ntmps3
  go_wp2_with fail
  generalize w.alloc (.cells #[.int .i64 tm, .int .i64 vo, .slice a l.length cap] 24) = w0 at *
  refine (szState_any 1048576 (by omega) (by omega) tm vo _ l w0 ((unhide HF).below (unhide B0)) (unhide HZ)).mono ?_
  rintro e w1 ⟨rfl, hb1⟩
  have K1 := hide ((unhide B0).trans (hb1.mono (unhide B0).size))
  have A1 := hide ((unhide HF).below (unhide K1))
  have X1 := (unhide X0).below hb1
  have x10 := X1.cell 0 rfl
  have x11 := X1.cell 1 rfl
  have x12 := X1.cell 2 rfl
  have HX1 := hide X1
  have hsm := hide (esmall_of 1048576 (by omega) l)
  clear hb1 B0 X0 X1
  rcases eszR_cases 1048576 l with hr | ⟨hr, hrl⟩
  · rw [hr]
    go_wp2_with fail
    go_ret
    exact ⟨rfl, unhide K1⟩
  have HSM := hide (unhide hsm hr)
  have hll := (unhide HSM).1
  clear hsm
  generalize eszR 1048576 l = r at *
  go_wp2_with fail
  refine (toState_any tm vo _ l _ (unhide A1) hll).mono ?_
  rintro e w2 ⟨g2, rfl, hO2, hb2⟩
  have K2 := hide ((unhide K1).trans (hb2.mono (unhide K1).size))
  have A2 := hide ((unhide A1).below hb2)
  have X2 := (unhide HX1).below hb2
  have x20 := X2.cell 0 rfl
  have x21 := X2.cell 1 rfl
  have x22 := X2.cell 2 rfl
  have HX2 := hide X2
  have V2 := hide hO2
  clear hb2 hO2 X2 K1 A1 HX1 x10 x11 x12
  go_wp2_with fail
  refine (specStateOK_any tm vo _ l _ (unhide V2).ens (unhide HSM).2).mono ?_
  rintro e w3 ⟨rfl, hb3⟩
  have K3 := hide ((unhide K2).trans (hb3.mono (unhide K2).size))
  have A3 := hide ((unhide A2).below hb3)
  have X3 := (unhide HX2).below hb3
  have x30 := X3.cell 0 rfl
  have x31 := X3.cell 1 rfl
  have x32 := X3.cell 2 rfl
  have HX3 := hide X3
  clear hb3 X3 K2 A2 HX2 x20 x21 x22 V2
  go_wp2_with fail
  refine (toState_any tm vo _ l _ (unhide A3) hll).mono ?_
  rintro e w4 ⟨g4, rfl, hO4, hb4⟩
  have K4 := hide ((unhide K3).trans (hb4.mono (unhide K3).size))
  have A4 := hide ((unhide A3).below hb4)
  have X4 := (unhide HX3).below hb4
  have x40 := X4.cell 0 rfl
  have x41 := X4.cell 1 rfl
  have x42 := X4.cell 2 rfl
  have HX4 := hide X4
  have BB := (Below.refl w4.heap.size w4).alloc (Nat.le_refl _) (.cells #[.int .i64 tm, .int .i64 vo, .slice (some ⟨g4, 0, none⟩) l.length l.length] 29)
  have V4 := hide (hO4.below BB)
  have Y4 := hide (Blk.new w4 #[.int .i64 tm, .int .i64 vo, .slice (some ⟨g4, 0, none⟩) l.length l.length] 29 w4.heap.size rfl)
  have K4b := hide ((unhide K4).trans (BB.mono (unhide K4).size))
  have A4b := hide ((unhide A4).below BB)
  have HX4b := hide (X4.below BB)
  have hyz := (unhide K4).size
  clear hb4 hO4 X4 K3 A3 HX3 x30 x31 x32 BB K4 A4 HX4
  go_wp2_with fail
  generalize w4.alloc (.cells #[.int .i64 tm, .int .i64 vo, .slice (some ⟨g4, 0, none⟩) l.length l.length] 29) = w4b at *
  generalize w4.heap.size = yb at *
  refine (implStateOK_any tm vo _ l _ (unhide V4).ens (unhide HSM).2).mono ?_
  rintro e w5 ⟨rfl, hb5⟩
  have K5 := hide ((unhide K4b).trans (hb5.mono (unhide K4b).size))
  have A5 := hide ((unhide A4b).below hb5)
  have X5 := (unhide HX4b).below hb5
  have x50 := X5.cell 0 rfl
  have x51 := X5.cell 1 rfl
  have x52 := X5.cell 2 rfl
  have HX5 := hide X5
  have V5 := hide ((unhide V4).below hb5)
  have Y5 := (unhide Y4).below hb5
  have y50 := Y5.cell 0 rfl
  have y51 := Y5.cell 1 rfl
  have y52 := Y5.cell 2 rfl
  have HY5 := hide Y5
  clear hb5 X5 K4b A4b HX4b x40 x41 x42 V4 Y4 Y5
  generalize stateB tm vo l = ok at *
  cases ok
  all_goals
    go_wp2_with fail
    have V5d := hide ((unhide V5).drewN 1)
    have A5d := hide ((unhide A5).below (below_drewN (Below.refl _ w5) 1))
    have K5d := hide (below_drewN (unhide K5) 1)
    have hzy := (unhide HY5).1
    have hzx := (unhide HX5).1
    go_region_held3 (fun wx => wx.cell? ⟨yb, 0, none⟩ = some (.int .i64 tm) ∧ wx.cell? ⟨yb, 1, none⟩ = some (.int .i64 vo) ∧ wx.cell? ⟨yb, 2, none⟩ = some (.slice (some ⟨g4, 0, none⟩) l.length l.length) ∧ wx.cell? ⟨w.heap.size, 0, none⟩ = some (.int .i64 tm) ∧ wx.cell? ⟨w.heap.size, 1, none⟩ = some (.int .i64 vo) ∧ wx.cell? ⟨w.heap.size, 2, none⟩ = some (.slice a l.length cap))
      (first
        | go_keep
        | exact ⟨(hb7.cell (p := ⟨yb, 0, none⟩) hq6).trans k60, (hb7.cell (p := ⟨yb, 1, none⟩) hq6).trans k61, (hb7.cell (p := ⟨yb, 2, none⟩) hq6).trans k62, (hb7.cell (p := ⟨w.heap.size, 0, none⟩) hp6).trans k63, (hb7.cell (p := ⟨w.heap.size, 1, none⟩) hp6).trans k64, (hb7.cell (p := ⟨w.heap.size, 2, none⟩) hp6).trans k65⟩
        | exact ⟨k60, k61, k62, k63, k64, k65⟩)
      (first
        | (go_at_call 12; refine (eqState_any tm vo _ _ l w6 ((unhide V5d).below hb6).ens hO6.ens hll).mono ?_; rintro e w7 ⟨rfl, hb7⟩)
        | (go_at_call 10; refine (toState_any tm vo _ l _ (unhide A5d) hll).mono ?_; rintro e w6 ⟨g6, rfl, hO6, hb6⟩; have hq6 : yb < w6.heap.size := Nat.lt_of_lt_of_le hzy hb6.size; have hp6 : w.heap.size < w6.heap.size := Nat.lt_of_lt_of_le hzx hb6.size; have k60 := (hb6.cell (p := ⟨yb, 0, none⟩) hzy).trans y50; have k61 := (hb6.cell (p := ⟨yb, 1, none⟩) hzy).trans y51; have k62 := (hb6.cell (p := ⟨yb, 2, none⟩) hzy).trans y52; have k63 := (hb6.cell (p := ⟨w.heap.size, 0, none⟩) hzx).trans x50; have k64 := (hb6.cell (p := ⟨w.heap.size, 1, none⟩) hzx).trans x51; have k65 := (hb6.cell (p := ⟨w.heap.size, 2, none⟩) hzx).trans x52))
    all_goals
      have K7 := hide ((unhide K5d).trans ((hb6.mono (unhide K5d).size).trans (hb7.mono (Nat.le_trans (unhide K5d).size hb6.size))))
      clear hb6 hb7 hO6
      go_wp2_with fail
      go_ret
      exact ⟨rfl, unhide K7⟩

theorem own : ownKnob Try.prog.godebug = none := by kernel_rfl
theorem laidOut : laidOutB Try.prog = true := by kernel_rfl
set_option maxRecDepth 100000 in
theorem lifted (os : Os) (started : os.Started) (H : Type) (enc : TypeId × Value → H) :
    ReturnsInHanded {} Try.checked os 3 .any (Rows.fnExactStateOKSpec.pre6 enc Try.prog Try.f3 Rows.fnExactStateOKRow.domain false) (Rows.fnExactStateOKSpec.post enc Try.prog Try.f3 false true false false) := by
  refine returnsInHanded_of_change (C := Try.checked) own started (by kernel_rfl) Try.func3
    (ChangeSpec.witness6 (enc := enc) (C := Try.checked) false ⟨#[], #[.agg #[.int .i64 0, .int .i64 0, .slice none 0 0]], []⟩ 8 (by kernel_rfl) (by kernel_rfl) (by kernel_rfl) (by kernel_rfl)) ?_
  intro W base args ds gs before hval0 hW hcnd _
  have hval : ∀ (j : Nat) t v, Try.f3.params[j]? = some t → args[j]? = some v → Value.okWide Try.prog W .any base t v := hval0
  have hW' := hW
  obtain ⟨p, q, hA0, hV, rfl, hfz, hnd⟩ := hW
  have hA : DataW.TrodAll enc Try.prog W 0 (fun _ => true) true Try.f3.params.toList args.toList ds p := hA0
  rw [Try.params3] at hA hval
  obtain ⟨v0, vs0, d0, ds0, p0, q0, hargs, rfl, rfl, h0, r0⟩ := trodAll_cons hA
  obtain ⟨rfl, rfl, rfl⟩ := trodAll_nil r0
  obtain rfl : args = #[v0] := by cases args; simp_all
  obtain ⟨rfl, rfl⟩ := trodVars_none hV
  have k0 := h0
  have lt0 : ∀ x ∈ p0, x.block < W.heap.size := by obtain ⟨m, hm⟩ := k0; exact DataW.trod_lt m _ _ _ hm
  obtain ⟨tm0, vo0, u0, l0, rfl, hf0, hz0⟩ := open_state (hval 0 24 v0 rfl rfl) h0
  clear hA0 hval0
  refine (walk tm0 vo0 u0 l0 W hf0 hz0).mono fun e W' ⟨he, bel⟩ => ?_
  subst he
  exact ⟨_, rfl, _, _, _, [], _, [], hW', trodAll_mk1 (shut_bool Try.underlying4 _), (trodAll_cons_mk (Below.trod laidOut (by kernel_rfl) (of_decide_eq_true (by kernel_rfl)) k0 bel lt0) trodAll_mk0), rfl, bel.frame _, fun h => by cases h⟩

theorem over : Rows.fnExactStateOKRow.holds Try.pinned (OpenSpec.ofChange Rows.fnExactStateOKSpec) :=
  OpenClaim.holds_of_wide 3 Try.f3 rfl rfl rfl rfl rfl rfl rfl ⟨rfl, rfl, rfl, rfl, rfl⟩ rfl rfl rfl rfl rfl (by kernel_rfl) Try.func3 (by kernel_rfl)
    (of_decide_eq_true (by kernel_rfl)) (by unfold Func.isWrapper; first | (rw [if_pos (by decide +kernel)]; kernel_rfl) | (rw [if_neg (by decide +kernel)]; exact ⟨rfl, rfl⟩))
    (fun os started H enc _ => lifted os started H enc)

end Go.Proofs.Ytlicgahjdgipkal.fnExactStateOK
namespace Go.Proofs.Ytlicgahjdgipkal
theorem fnExactStateOK_holds : Rows.FnExactStateOKSaid := fnExactStateOK.over
#print axioms fnExactStateOK_holds
end Go.Proofs.Ytlicgahjdgipkal
