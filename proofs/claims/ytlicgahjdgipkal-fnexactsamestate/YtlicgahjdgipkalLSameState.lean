/- For every two states that can be read, laws.FnExactSameState returns true, and the states read as they did. No condition. -/
import Derived.Test.YtlicgahjdgipkalStS
import Derived.Test.YtlicgahjdgipkalOpenS
import Derived.Deep.DeepCutAuto
namespace Go.Proofs.Ytlicgahjdgipkal.fnExactSameState
open Go.ChangeShapes Go.WideShapes Go.ChangeAt Go.RowKit
open Go.ChangeMaps (open_string shut_string)
set_option linter.unusedVariables false

/-- What is carried on: all that was there, both arguments, their boxes. -/
structure Two (w : World) (tm vo : Int) (u : Value) (x : List En) (tm2 vo2 : Int) (v : Value) (y : List En) (wx : World) : Prop where
  b : Below w.heap.size w wx
  a1 : Ens wx u x
  a2 : Ens wx v y
  x1 : Blk wx w.heap.size [.int .i64 tm, .int .i64 vo, u]
  x2 : Blk wx (w.heap.size + 1) [.int .i64 tm2, .int .i64 vo2, v]
theorem Two.below {w : World} {tm vo : Int} {u : Value} {x : List En} {tm2 vo2 : Int} {v : Value} {y : List En} {wx wy : World} (h : Two w tm vo u x tm2 vo2 v y wx) (hb : Below wx.heap.size wx wy) : Two w tm vo u x tm2 vo2 v y wy :=
  ⟨h.b.trans (hb.mono h.b.size), h.a1.below hb, h.a2.below hb, h.x1.below hb, h.x2.below hb⟩

set_option maxRecDepth 100000 in
set_option maxHeartbeats 2000000 in
theorem walk (tm vo : Int) (u : Value) (x : List En) (tm2 vo2 : Int) (v : Value) (y : List En) (w : World) (hf : Ens w u x) (hz : ∀ i, i < x.length → (x.getD i default).d.size ≤ maxLen) (hf2 : Ens w v y) (hz2 : ∀ i, i < y.length → (y.getD i default).d.size ≤ maxLen) :
    Calls Try.prog 7 #[.agg #[.int .i64 tm, .int .i64 vo, u], .agg #[.int .i64 tm2, .int .i64 vo2, v]] w fun e w' => e = .returned (.bool true) ∧ Below w.heap.size w w' := by
  have HZ := hide hz
  have HZ2 := hide hz2
  have H0 : Hid (Two w tm vo u x tm2 vo2 v y ((w.alloc (.cells #[.int .i64 tm, .int .i64 vo, u] 24)).alloc (.cells #[.int .i64 tm2, .int .i64 vo2, v] 24))) := by
    have BB := ((Below.refl w.heap.size w).alloc (Nat.le_refl _) (.cells #[.int .i64 tm, .int .i64 vo, u] 24)).alloc (by simp) (.cells #[.int .i64 tm2, .int .i64 vo2, v] 24)
    exact hide ⟨BB, hf.below BB, hf2.below BB, (Blk.new w _ 24 w.heap.size rfl).alloc _, Blk.new _ #[.int .i64 tm2, .int .i64 vo2, v] 24 (w.heap.size + 1) (by simp)⟩
  obtain ⟨a, cap, rfl, hn, hm, hc⟩ := hf
  obtain ⟨a2, cap2, rfl, hn2, hm2, hc2⟩ := hf2
  clear hc hm hn hz hc2 hm2 hn2 hz2
  go_enter Try.func7, Try.ntmps7
  go_wp2_with fail
  generalize (w.alloc (.cells #[.int .i64 tm, .int .i64 vo, .slice a x.length cap] 24)).alloc (.cells #[.int .i64 tm2, .int .i64 vo2, .slice a2 y.length cap2] 24) = w0 at *
  refine (szState_any 1048576 (by omega) (by omega) tm vo _ x w0 (unhide H0).a1 (unhide HZ)).mono ?_
  rintro e w1 ⟨rfl, hb1⟩
  have H1 := hide ((unhide H0).below hb1)
  clear hb1 H0
  have hsm := hide (esmall_of 1048576 (by omega) x)
  rcases eszR_cases 1048576 x with hr | ⟨hr, hrl⟩
  · rw [hr]
    go_wp2_with fail
    go_ret
    exact ⟨rfl, (unhide H1).b⟩
  have HSX := hide (unhide hsm hr)
  clear hsm
  generalize eszR 1048576 x = L at *
  have b0 := (unhide H1).x2.cell 0 rfl
  have b1 := (unhide H1).x2.cell 1 rfl
  have b2 := (unhide H1).x2.cell 2 rfl
  go_wp2_with fail
  clear b0 b1 b2
  refine (szState_any L hr hrl tm2 vo2 _ y w1 (unhide H1).a2 (unhide HZ2)).mono ?_
  rintro e w2 ⟨rfl, hb2⟩
  have H2 := hide ((unhide H1).below hb2)
  have hsm := hide (esmall_of L hrl y)
  clear hb2 H1
  rcases eszR_cases L y with hr2 | ⟨hr2, hrl2⟩
  · rw [hr2]
    go_wp2_with fail
    go_ret
    exact ⟨rfl, (unhide H2).b⟩
  have HSY := hide (unhide hsm hr2)
  clear hsm
  generalize eszR L y = M at *
  go_wp2_with fail
  go_cut [6, 7] (fun s6 s7 wx => s6 = .bool (sameB tm vo x tm2 vo2 y) ∧ s7 = .int .i64 (sameC tm vo x tm2 vo2 y) ∧ Two w tm vo (.slice a x.length cap) x tm2 vo2 (.slice a2 y.length cap2) y wx)
  case first =>
    have hT := (unhide H2).below (below_drewN (Below.refl _ w2) 1)
    clear H2
    go_region_held3 (fun wx => wx.cell? ⟨w.heap.size, 0, none⟩ = some (.int .i64 tm) ∧ wx.cell? ⟨w.heap.size, 1, none⟩ = some (.int .i64 vo) ∧ wx.cell? ⟨w.heap.size, 2, none⟩ = some (.slice a x.length cap) ∧ wx.cell? ⟨w.heap.size + 1, 0, none⟩ = some (.int .i64 tm2) ∧ wx.cell? ⟨w.heap.size + 1, 1, none⟩ = some (.int .i64 vo2) ∧ wx.cell? ⟨w.heap.size + 1, 2, none⟩ = some (.slice a2 y.length cap2))
      (exact ⟨hT.x1.cell 0 rfl, hT.x1.cell 1 rfl, hT.x1.cell 2 rfl, hT.x2.cell 0 rfl, hT.x2.cell 1 rfl, hT.x2.cell 2 rfl⟩)
      (first
        | (go_at_call 30; refine (specSame_any tm vo tm2 vo2 _ _ x y _ hOA.ens hOB.ens (unhide HSX) (unhide HSY)).mono ?_; rintro e wz ⟨rfl, hbz⟩; have hT2 := hT.below hbz; clear hT; have hT := hT2; clear hT2)
        | (go_at_call_of 10 (Value.agg #[.int .i64 tm, .int .i64 vo, .slice a x.length cap]); refine (toState_any tm vo (.slice a x.length cap) x _ hT.a1 (unhide HSX).1).mono ?_; rintro e wA ⟨gA, rfl, hOA, hbA⟩; have hT2 := hT.below hbA; clear hT; have hT := hT2; clear hT2; try (have hOB2 := hOB.below hbA; clear hOB; have hOB := hOB2; clear hOB2))
        | (go_at_call 10; refine (toState_any tm2 vo2 (.slice a2 y.length cap2) y _ hT.a2 (unhide HSY).1).mono ?_; rintro e wB ⟨gB, rfl, hOB, hbB⟩; have hT2 := hT.below hbB; clear hT; have hT := hT2; clear hT2; try (have hOA2 := hOA.below hbB; clear hOA; have hOA := hOA2; clear hOA2)))
    all_goals
      go_wp2_with fail
      go_meet
      exact ⟨rfl, rfl, hT⟩
  case rest =>
    obtain ⟨rfl, rfl, hT⟩ := hcut
    have H3 := hide hT
    clear hT H2
    have b0 := (unhide H3).x1.cell 0 rfl
    have b1 := (unhide H3).x1.cell 1 rfl
    have b2 := (unhide H3).x1.cell 2 rfl
    go_wp2_with fail
    clear b0 b1 b2
    refine (toState_any tm vo _ x _ (unhide H3).a1 (unhide HSX).1).mono ?_
    rintro e w4 ⟨gA, rfl, hOA, hbA⟩
    have BA := (Below.refl w4.heap.size w4).alloc (Nat.le_refl _) (.cells #[.int .i64 tm, .int .i64 vo, .slice (some ⟨gA, 0, none⟩) x.length x.length] 29)
    have H4 := hide (((unhide H3).below hbA).below BA)
    have O4 := hide (hOA.below BA)
    have Y4 := hide (Blk.new w4 #[.int .i64 tm, .int .i64 vo, .slice (some ⟨gA, 0, none⟩) x.length x.length] 29 w4.heap.size rfl)
    have b0 := (unhide H4).x2.cell 0 rfl
    have b1 := (unhide H4).x2.cell 1 rfl
    have b2 := (unhide H4).x2.cell 2 rfl
    clear hOA hbA BA H3
    go_wp2_with fail
    clear b0 b1 b2
    generalize w4.alloc (.cells #[.int .i64 tm, .int .i64 vo, .slice (some ⟨gA, 0, none⟩) x.length x.length] 29) = w4b at *
    generalize w4.heap.size = ya at *
    refine (toState_any tm2 vo2 _ y _ (unhide H4).a2 (unhide HSY).1).mono ?_
    rintro e w5 ⟨gB, rfl, hOB, hbB⟩
    have BB := (Below.refl w5.heap.size w5).alloc (Nat.le_refl _) (.cells #[.int .i64 tm2, .int .i64 vo2, .slice (some ⟨gB, 0, none⟩) y.length y.length] 29)
    have H5 := hide (((unhide H4).below hbB).below BB)
    have O5 := hide (((unhide O4).below hbB).below BB)
    have P5 := hide (hOB.below BB)
    have Y5 := hide (((unhide Y4).below hbB).below BB)
    have Z5 := hide (Blk.new w5 #[.int .i64 tm2, .int .i64 vo2, .slice (some ⟨gB, 0, none⟩) y.length y.length] 29 w5.heap.size rfl)
    have c0 := (unhide Y5).cell 0 rfl
    have c1 := (unhide Y5).cell 1 rfl
    have c2 := (unhide Y5).cell 2 rfl
    clear hOB hbB BB H4 O4 Y4
    go_wp2_with fail
    clear c0 c1 c2
    generalize w5.alloc (.cells #[.int .i64 tm2, .int .i64 vo2, .slice (some ⟨gB, 0, none⟩) y.length y.length] 29) = w5b at *
    generalize w5.heap.size = yb at *
    refine (implSame_any tm vo tm2 vo2 _ _ x y _ (unhide O5).ens (unhide P5).ens (unhide HSX) (unhide HSY)).mono ?_
    rintro e w6 ⟨rfl, hb6⟩
    have H6 := hide ((unhide H5).below hb6)
    have O6 := hide ((unhide O5).below hb6)
    have P6 := hide ((unhide P5).below hb6)
    have Y6 := hide ((unhide Y5).below hb6)
    have Z6 := hide ((unhide Z5).below hb6)
    clear hb6 H5 O5 P5 Y5 Z5
    generalize sameB tm vo x tm2 vo2 y = r at *
    generalize sameC tm vo x tm2 vo2 y = c at *
    have hrr : (r == r) = true := by simp
    have hcc : (c == c) = true := by simp
    go_wp2_with fail
    go_cut [52] (fun s wx => s = .bool false ∧ Below w6.heap.size w6 wx)
    case first =>
      have hT := (unhide H6).below (below_drewN (Below.refl _ w6) 1)
      have hb0 := below_drewN (Below.refl w6.heap.size w6) 1
      have hO := (unhide O6).below hb0
      have hY := (unhide Y6).below hb0
      clear H6 O6 P6 Y6 Z6
      go_region_held3 (fun wx => wx.cell? ⟨w.heap.size, 0, none⟩ = some (.int .i64 tm) ∧ wx.cell? ⟨w.heap.size, 1, none⟩ = some (.int .i64 vo) ∧ wx.cell? ⟨w.heap.size, 2, none⟩ = some (.slice a x.length cap) ∧ wx.cell? ⟨ya, 0, none⟩ = some (.int .i64 tm) ∧ wx.cell? ⟨ya, 1, none⟩ = some (.int .i64 vo) ∧ wx.cell? ⟨ya, 2, none⟩ = some (.slice (some ⟨gA, 0, none⟩) x.length x.length))
        (exact ⟨hT.x1.cell 0 rfl, hT.x1.cell 1 rfl, hT.x1.cell 2 rfl, hY.cell 0 rfl, hY.cell 1 rfl, hY.cell 2 rfl⟩)
        (first
          | (go_at_call 12; refine (eqState_any tm vo _ _ x _ hO.ens hOA.ens (unhide HSX).1).mono ?_; rintro e wz ⟨rfl, hbz⟩; have hT2 := hT.below hbz; clear hT; have hT := hT2; clear hT2; have hY2 := hY.below hbz; clear hY; have hY := hY2; clear hY2; have hb2 := hb0.trans (hbz.mono hb0.size); clear hb0; have hb0 := hb2; clear hb2)
          | (go_at_call 10; refine (toState_any tm vo (.slice a x.length cap) x _ hT.a1 (unhide HSX).1).mono ?_; rintro e wA ⟨gC, rfl, hOA, hbA⟩; have hT2 := hT.below hbA; clear hT; have hT := hT2; clear hT2; have hY2 := hY.below hbA; clear hY; have hY := hY2; clear hY2; have hO2 := hO.below hbA; clear hO; have hO := hO2; clear hO2; have hb2 := hb0.trans (hbA.mono hb0.size); clear hb0; have hb0 := hb2; clear hb2))
      all_goals
        go_wp2_with fail
        go_meet
        exact ⟨rfl, hb0⟩
    case rest =>
      obtain ⟨rfl, hb⟩ := hcut
      have H7 := hide ((unhide H6).below hb)
      have P7 := hide ((unhide P6).below hb)
      have Z7 := hide ((unhide Z6).below hb)
      clear hb H6 O6 P6 Y6 Z6
      go_wp2_with fail
      go_cut [57] (fun s wx => s = .bool false ∧ Below wc.heap.size wc wx)
      case first =>
        have hT := (unhide H7).below (below_drewN (Below.refl _ wc) 1)
        have hb0 := below_drewN (Below.refl wc.heap.size wc) 1
        have hO := (unhide P7).below hb0
        have hY := (unhide Z7).below hb0
        clear H7 P7 Z7
        go_region_held3 (fun wx => wx.cell? ⟨w.heap.size + 1, 0, none⟩ = some (.int .i64 tm2) ∧ wx.cell? ⟨w.heap.size + 1, 1, none⟩ = some (.int .i64 vo2) ∧ wx.cell? ⟨w.heap.size + 1, 2, none⟩ = some (.slice a2 y.length cap2) ∧ wx.cell? ⟨yb, 0, none⟩ = some (.int .i64 tm2) ∧ wx.cell? ⟨yb, 1, none⟩ = some (.int .i64 vo2) ∧ wx.cell? ⟨yb, 2, none⟩ = some (.slice (some ⟨gB, 0, none⟩) y.length y.length))
          (exact ⟨hT.x2.cell 0 rfl, hT.x2.cell 1 rfl, hT.x2.cell 2 rfl, hY.cell 0 rfl, hY.cell 1 rfl, hY.cell 2 rfl⟩)
          (first
            | (go_at_call 12; refine (eqState_any tm2 vo2 _ _ y _ hO.ens hOA.ens (unhide HSY).1).mono ?_; rintro e wz ⟨rfl, hbz⟩; have hT2 := hT.below hbz; clear hT; have hT := hT2; clear hT2; have hY2 := hY.below hbz; clear hY; have hY := hY2; clear hY2; have hb2 := hb0.trans (hbz.mono hb0.size); clear hb0; have hb0 := hb2; clear hb2)
            | (go_at_call 10; refine (toState_any tm2 vo2 (.slice a2 y.length cap2) y _ hT.a2 (unhide HSY).1).mono ?_; rintro e wA ⟨gC, rfl, hOA, hbA⟩; have hT2 := hT.below hbA; clear hT; have hT := hT2; clear hT2; have hY2 := hY.below hbA; clear hY; have hY := hY2; clear hY2; have hO2 := hO.below hbA; clear hO; have hO := hO2; clear hO2; have hb2 := hb0.trans (hbA.mono hb0.size); clear hb0; have hb0 := hb2; clear hb2))
        all_goals
          go_wp2_with fail
          go_meet
          exact ⟨rfl, hb0⟩
      case rest =>
        obtain ⟨rfl, hb⟩ := hcut
        have H8 := hide ((unhide H7).below hb)
        clear hb H7 P7 Z7
        go_wp2_with fail
        go_ret
        exact ⟨rfl, (unhide H8).b⟩
theorem own : ownKnob Try.prog.godebug = none := by kernel_rfl
theorem laidOut : laidOutB Try.prog = true := by kernel_rfl
set_option maxRecDepth 100000 in
theorem lifted (os : Os) (started : os.Started) (H : Type) (enc : TypeId × Value → H) :
    ReturnsInHanded {} Try.checked os 7 .any (Rows.fnExactSameStateSpec.pre6 enc Try.prog Try.f7 Rows.fnExactSameStateRow.domain false) (Rows.fnExactSameStateSpec.post enc Try.prog Try.f7 false true false false) := by
  refine returnsInHanded_of_change (C := Try.checked) own started (by kernel_rfl) Try.func7
    (ChangeSpec.witness6 (enc := enc) (C := Try.checked) false ⟨#[], #[.agg #[.int .i64 0, .int .i64 0, .slice none 0 0], .agg #[.int .i64 0, .int .i64 0, .slice none 0 0]], []⟩ 8 (by kernel_rfl) (by kernel_rfl) (by kernel_rfl) (by kernel_rfl)) ?_
  intro W base args ds gs before hval0 hW hcnd _
  have hval : ∀ (j : Nat) t v, Try.f7.params[j]? = some t → args[j]? = some v → Value.okWide Try.prog W .any base t v := hval0
  have hW' := hW
  obtain ⟨p, q, hA0, hV, rfl, hfz, hnd⟩ := hW
  have hA : DataW.TrodAll enc Try.prog W 0 (fun _ => true) true Try.f7.params.toList args.toList ds p := hA0
  rw [Try.params7] at hA hval
  obtain ⟨v0, vs0, d0, ds0, p0, q0, hargs, rfl, rfl, h0, r0⟩ := trodAll_cons hA
  obtain ⟨v1, vs1, d1, ds1, p1, q1, rfl, rfl, rfl, h1, r1⟩ := trodAll_cons r0
  obtain ⟨rfl, rfl, rfl⟩ := trodAll_nil r1
  obtain rfl : args = #[v0, v1] := by cases args; simp_all
  obtain ⟨rfl, rfl⟩ := trodVars_none hV
  have k0 := h0
  have lt0 : ∀ x ∈ p0, x.block < W.heap.size := by obtain ⟨m, hm⟩ := k0; exact DataW.trod_lt m _ _ _ hm
  obtain ⟨tm0, vo0, u0, l0, rfl, hf0, hz0⟩ := open_state (hval 0 24 v0 rfl rfl) h0
  have k1 := h1
  have lt1 : ∀ x ∈ p1, x.block < W.heap.size := by obtain ⟨m, hm⟩ := k1; exact DataW.trod_lt m _ _ _ hm
  obtain ⟨tm1, vo1, u1, l1, rfl, hf1, hz1⟩ := open_state (hval 1 24 v1 rfl rfl) h1
  clear hA0 hval0
  refine (walk tm0 vo0 u0 l0 tm1 vo1 u1 l1 W hf0 hz0 hf1 hz1).mono fun e W' ⟨he, bel⟩ => ?_
  subst he
  exact ⟨_, rfl, _, _, _, [], _, [], hW', trodAll_mk1 (shut_bool Try.underlying4 _), (trodAll_cons_mk (Below.trod laidOut (by kernel_rfl) (of_decide_eq_true (by kernel_rfl)) k0 bel lt0) (trodAll_cons_mk (Below.trod laidOut (by kernel_rfl) (of_decide_eq_true (by kernel_rfl)) k1 bel lt1) trodAll_mk0)), rfl, bel.frame _, fun h => by cases h⟩

theorem over : Rows.fnExactSameStateRow.holds Try.pinned (OpenSpec.ofChange Rows.fnExactSameStateSpec) :=
  OpenClaim.holds_of_wide 7 Try.f7 rfl rfl rfl rfl rfl rfl rfl ⟨rfl, rfl, rfl, rfl, rfl⟩ rfl rfl rfl rfl rfl (by kernel_rfl) Try.func7 (by kernel_rfl)
    (of_decide_eq_true (by kernel_rfl)) (by unfold Func.isWrapper; first | (rw [if_pos (by decide +kernel)]; kernel_rfl) | (rw [if_neg (by decide +kernel)]; exact ⟨rfl, rfl⟩))
    (fun os started H enc _ => lifted os started H enc)

end Go.Proofs.Ytlicgahjdgipkal.fnExactSameState
namespace Go.Proofs.Ytlicgahjdgipkal
theorem fnExactSameState_holds : Rows.FnExactSameStateSaid := fnExactSameState.over
#print axioms fnExactSameState_holds
end Go.Proofs.Ytlicgahjdgipkal
