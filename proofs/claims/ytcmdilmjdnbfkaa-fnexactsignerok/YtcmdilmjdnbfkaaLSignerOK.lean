/- For every signer that can be read, laws.FnExactSignerOK returns true, and the signer reads as it did. No condition. -/
import Derived.Test.YtcmdilmjdnbfkaaSgr
import Derived.Deep.RegionHeld3
namespace Go.Proofs.Ytcmdilmjdnbfkaa.fnExactSignerOK
open Go.ChangeShapes Go.WideShapes Go.ChangeAt Go.RowKit
open Go.ChangeMaps (open_string shut_string)
set_option linter.unusedVariables false

set_option maxRecDepth 100000 in
set_option maxHeartbeats 2000000 in
theorem walk (s : ByteArray) (u : Value) (l : List Bool) (w : World) (hf : Bos w u l) (hz : s.size ≤ maxLen) :
    Calls Try.prog 3 #[.agg #[.string s, u]] w fun e w' => e = .returned (.bool true) ∧ Below w.heap.size w w' := by
  have HF := hide hf
  have HZ := hide hz
  obtain ⟨a, cap, rfl, hm, hc⟩ := hf
  have HM := hide hm
  clear hc hm hz
  have B0 := hide ((Below.refl w.heap.size w).alloc (Nat.le_refl _) (.cells #[.string s, .slice a l.length cap] 24))
  have X0 := hide (Blk.new w #[.string s, .slice a l.length cap] 24 w.heap.size rfl)
  go_enter Try.func3, Try.ntmps3
  go_wp2_with fail
  generalize w.alloc (.cells #[.string s, .slice a l.length cap] 24) = w0 at *
  refine (szSigner_any s a l.length cap 1048576 w0 (unhide HZ) (unhide HM) (by omega) (by omega)).mono ?_
  rintro e w1 ⟨rfl, hb1⟩
  have K1 := hide ((unhide B0).trans (hb1.mono (unhide B0).size))
  have A1 := hide ((unhide HF).below (unhide K1))
  have X1 := (unhide X0).below hb1
  have x10 := X1.cell 0 rfl
  have x11 := X1.cell 1 rfl
  have HX1 := hide X1
  clear hb1 B0 X0 X1
  rcases sgrR_cases 1048576 s.size l.length with hr | ⟨hr, hrl⟩
  · rw [hr]
    go_wp2_with fail
    go_ret
    exact ⟨rfl, unhide K1⟩
  have hll : Hid (l.length ≤ 1048576) := hide (by omega)
  have HL4 := hide (show l.length ≤ maxLen by unfold maxLen; omega)
  clear hrl
  generalize sgrR 1048576 s.size l.length = r at *
  go_wp2_with fail
  refine (toSigner_any s _ l _ (unhide A1) (unhide hll)).mono ?_
  rintro e w2 ⟨g2, rfl, hO2, hb2⟩
  have K2 := hide ((unhide K1).trans (hb2.mono (unhide K1).size))
  have A2 := hide ((unhide A1).below hb2)
  have X2 := (unhide HX1).below hb2
  have x20 := X2.cell 0 rfl
  have x21 := X2.cell 1 rfl
  have HX2 := hide X2
  clear hb2 hO2 X2 K1 A1 HX1 x10 x11
  go_wp2_with fail
  refine (specSignerOK_any s _ l.length l.length _ (unhide HZ) (unhide HL4)).mono ?_
  rintro e w3 ⟨rfl, hb3⟩
  have K3 := hide ((unhide K2).trans (hb3.mono (unhide K2).size))
  have A3 := hide ((unhide A2).below hb3)
  have X3 := (unhide HX2).below hb3
  have x30 := X3.cell 0 rfl
  have x31 := X3.cell 1 rfl
  have HX3 := hide X3
  clear hb3 X3 K2 A2 HX2 x20 x21
  generalize hb0 : sgrB s l.length = ok at *
  have HOK := hide hb0
  clear hb0
  go_wp2_with fail
  refine (toSigner_any s _ l _ (unhide A3) (unhide hll)).mono ?_
  rintro e w4 ⟨g4, rfl, hO4, hb4⟩
  have BB := (Below.refl w4.heap.size w4).alloc (Nat.le_refl _) (.cells #[.string s, .slice (some ⟨g4, 0, none⟩) l.length l.length] 27)
  have K4 := (unhide K3).trans (hb4.mono (unhide K3).size)
  have K4b := hide (K4.trans (BB.mono K4.size))
  have A4b := hide (((unhide A3).below hb4).below BB)
  have X4b := ((unhide HX3).below hb4).below BB
  have x40 := X4b.cell 0 rfl
  have x41 := X4b.cell 1 rfl
  have HX4 := hide X4b
  have V4 := hide (hO4.bos.below BB)
  have Y4 := hide (Blk.new w4 #[.string s, .slice (some ⟨g4, 0, none⟩) l.length l.length] 27 w4.heap.size rfl)
  clear hb4 hO4 BB K4 X4b K3 A3 HX3 x30 x31
  go_wp2_with fail
  generalize w4.alloc (.cells #[.string s, .slice (some ⟨g4, 0, none⟩) l.length l.length] 27) = w4b at *
  refine (implSignerOK_any s _ l.length l.length _ (unhide HZ) (unhide HL4)).mono ?_
  rintro e w5 ⟨rfl, hb5⟩
  rw [unhide HOK]
  have K5 := hide ((unhide K4b).trans (hb5.mono (unhide K4b).size))
  have A5 := hide ((unhide A4b).below hb5)
  have X5 := (unhide HX4).below hb5
  have x50 := X5.cell 0 rfl
  have x51 := X5.cell 1 rfl
  have Y5 := (unhide Y4).below hb5
  have y50 := Y5.cell 0 rfl
  have y51 := Y5.cell 1 rfl
  have V5 := hide ((unhide V4).below hb5)
  have HX5 := hide X5
  have HY5 := hide Y5
  clear hb5 X5 Y5 K4b A4b HX4 Y4 V4 x40 x41
  generalize w4.heap.size = Y at *
  have hzy := (unhide HY5).1
  have hzx := (unhide HX5).1
  have HD := hide (below_drewN (Below.refl w5.heap.size w5) 1)
  have HTW := hide (toSigner_any s _ l w5.drew ((unhide A5).below (unhide HD)) (unhide hll))
  have V5d := hide ((unhide V5).below (unhide HD))
  have HE1 : w5.drew.heap.size = w5.heap.size := rfl
  go_wp2_with fail
  go_region_held3 (fun wx => wx.cell? ⟨Y, 0, none⟩ = some (.string s) ∧ wx.cell? ⟨Y, 1, none⟩ = some (.slice (some ⟨g4, 0, none⟩) l.length l.length) ∧ wx.cell? ⟨w.heap.size, 0, none⟩ = some (.string s) ∧ wx.cell? ⟨w.heap.size, 1, none⟩ = some (.slice a l.length cap))
    (first | go_keep | exact ⟨(hb7.cell (p := ⟨Y, 0, none⟩) hy6).trans y60, (hb7.cell (p := ⟨Y, 1, none⟩) hy6).trans y61, (hb7.cell (p := ⟨w.heap.size, 0, none⟩) hx6).trans x60, (hb7.cell (p := ⟨w.heap.size, 1, none⟩) hx6).trans x61⟩ | exact ⟨y60, y61, x60, x61⟩)
    (first
      | (go_at_call 8; refine (eqSigner_any s _ _ l _ ((unhide V5d).below hb6) hO6.bos (unhide hll)).mono ?_; rintro e w7 ⟨rfl, hb7⟩)
      | (go_at_call 6; refine (unhide HTW).mono ?_; rintro e w6 ⟨g6, rfl, hO6, hb6⟩; have y60 := (hb6.cell (p := ⟨Y, 0, none⟩) hzy).trans y50; have y61 := (hb6.cell (p := ⟨Y, 1, none⟩) hzy).trans y51; have x60 := (hb6.cell (p := ⟨w.heap.size, 0, none⟩) hzx).trans x50; have x61 := (hb6.cell (p := ⟨w.heap.size, 1, none⟩) hzx).trans x51; have hy6 : Y < w6.heap.size := Nat.lt_of_lt_of_le hzy hb6.size; have hx6 : w.heap.size < w6.heap.size := Nat.lt_of_lt_of_le hzx hb6.size))
  all_goals
    have K6 := (unhide K5).trans ((unhide HD).mono (unhide K5).size)
    have K7 := K6.trans (hb6.mono K6.size)
    have K8 := hide (K7.trans (hb7.mono K7.size))
    clear hb6 hb7 hO6 K6 K7
    go_wp2_with fail
    go_ret
    exact ⟨rfl, unhide K8⟩

theorem own : ownKnob Try.prog.godebug = none := by kernel_rfl
theorem laidOut : laidOutB Try.prog = true := by kernel_rfl
set_option maxRecDepth 100000 in
theorem lifted (os : Os) (started : os.Started) (H : Type) (enc : TypeId × Value → H) :
    ReturnsInHanded {} Try.checked os 3 .any (Rows.fnExactSignerOKSpec.pre6 enc Try.prog Try.f3 Rows.fnExactSignerOKRow.domain false) (Rows.fnExactSignerOKSpec.post enc Try.prog Try.f3 false true false false) := by
  refine returnsInHanded_of_change (C := Try.checked) own started (by kernel_rfl) Try.func3
    (ChangeSpec.witness6 (enc := enc) (C := Try.checked) false ⟨#[], #[.agg #[.string ByteArray.empty, .slice none 0 0]], []⟩ 8 (by kernel_rfl) (by kernel_rfl) (by kernel_rfl) (by kernel_rfl)) ?_
  intro W base args ds gs before hval0 hW hcnd _
  have hval : ∀ (j : Nat) t v, Try.f3.params[j]? = some t → args[j]? = some v → Value.okWide Try.prog W .any base t v := hval0
  have hW' := hW
  obtain ⟨p, q, hA0, hV, rfl, hfz, hnd⟩ := hW
  have hA : DataW.TrodAll enc Try.prog W 0 (fun _ => true) true Try.f3.params.toList args.toList ds p := hA0
  rw [Try.params3] at hA hval
  obtain ⟨v0, vs0, d0, ds0, p0, q0, hargs, rfl, rfl, h0, r0⟩ := trodAll_cons hA
  obtain ⟨rfl, rfl, rfl⟩ := trodAll_nil r0
  obtain rfl : args = #[v0] := by cases args; simp_all
  obtain ⟨rfl, rfl⟩ := trodVars_none hV
  have k0 := h0
  have lt0 : ∀ x ∈ p0, x.block < W.heap.size := by obtain ⟨m, hm⟩ := k0; exact DataW.trod_lt m _ _ _ hm
  obtain ⟨sd0, u0, l0, rfl, hf0, hz0⟩ := open_signer (hval 0 24 v0 rfl rfl) h0
  clear hA0 hval0
  refine (walk sd0 u0 l0 W hf0 hz0).mono fun e W' ⟨he, bel⟩ => ?_
  subst he
  exact ⟨_, rfl, _, _, _, [], _, [], hW', trodAll_mk1 (shut_bool Try.underlying4 _), (trodAll_cons_mk (Below.trod laidOut (by kernel_rfl) (of_decide_eq_true (by kernel_rfl)) k0 bel lt0) trodAll_mk0), rfl, bel.frame _, fun h => by cases h⟩

theorem over : Rows.fnExactSignerOKRow.holds Try.pinned (OpenSpec.ofChange Rows.fnExactSignerOKSpec) :=
  OpenClaim.holds_of_wide 3 Try.f3 rfl rfl rfl rfl rfl rfl rfl ⟨rfl, rfl, rfl, rfl, rfl⟩ rfl rfl rfl rfl rfl (by kernel_rfl) Try.func3 (by kernel_rfl)
    (of_decide_eq_true (by kernel_rfl)) (by unfold Func.isWrapper; first | (rw [if_pos (by decide +kernel)]; kernel_rfl) | (rw [if_neg (by decide +kernel)]; exact ⟨rfl, rfl⟩))
    (fun os started H enc _ => lifted os started H enc)

end Go.Proofs.Ytcmdilmjdnbfkaa.fnExactSignerOK
namespace Go.Proofs.Ytcmdilmjdnbfkaa
theorem fnExactSignerOK_holds : Rows.FnExactSignerOKSaid := fnExactSignerOK.over
#print axioms fnExactSignerOK_holds
end Go.Proofs.Ytcmdilmjdnbfkaa
