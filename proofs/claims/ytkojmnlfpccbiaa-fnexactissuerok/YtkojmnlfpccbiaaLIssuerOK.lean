/- For every issuer that can be read, laws.FnExactIssuerOK returns true, and the issuer reads as it did. No condition. (Written by py/liss.py.) -/
import Derived.Test.YtkojmnlfpccbiaaIsC
import Derived.Test.YtkojmnlfpccbiaaIsD
import Derived.Test.YtkojmnlfpccbiaaIsM
namespace Go.Proofs.Ytkojmnlfpccbiaa.fnExactIssuerOK
open Go.ChangeShapes Go.WideShapes Go.ChangeAt Go.RowKit
open Go.ChangeMaps (open_string shut_string)
set_option linter.unusedVariables false

set_option maxRecDepth 100000 in
set_option maxHeartbeats 2000000 in
theorem walk (sd : ByteArray) (u : Value) (l : List Bool) (z : Int) (lg mp : ByteArray) (hs : Bool) (c : Int) (w : World) (hf : Bos w u l) (hd : sd.size ≤ maxLen) (hl : lg.size ≤ maxLen) (hm : mp.size ≤ maxLen) :
    Calls Try.prog 4 #[.agg #[.string sd, u, .int .i64 z, .string lg, .string mp, .bool hs, .int .i64 c]] w fun e w' => e = .returned (.bool true) ∧ Below w.heap.size w w' := by
  have HF := hide hf
  obtain ⟨a, cap, rfl, hn, hc⟩ := hf
  have HSZ := hide (fun wx => szIssuer_any sd a l.length cap z lg mp hs c 1048576 wx hd hn hl hm (by omega) (by omega))
  have HSP := hide (fun wx v (h : Bos wx v l) => specIssuerOK_any sd v z lg mp hs c l wx h hd hl hm)
  have HIM := hide (fun wx v (h : Bos wx v l) => implIssuerOK_any sd v z lg mp hs c l wx h hd hl hm)
  have HR := hide (issR_cases 1048576 sd.size l.length lg.size mp.size)
  clear hc hn hd hl hm
  have B0 := hide ((Below.refl w.heap.size w).alloc (Nat.le_refl _) (.cells #[.string sd, .slice a l.length cap, .int .i64 z, .string lg, .string mp, .bool hs, .int .i64 c] 37))
  have X0 := hide (Blk.new w #[.string sd, .slice a l.length cap, .int .i64 z, .string lg, .string mp, .bool hs, .int .i64 c] 37 w.heap.size rfl)
  generalize issR 1048576 sd.size l.length lg.size mp.size = r at *
  generalize issB sd l z lg mp hs c = ok at *
  go_enter Try.func4, Try.ntmps4
  go_wp2_with fail
  generalize w.alloc (.cells #[.string sd, .slice a l.length cap, .int .i64 z, .string lg, .string mp, .bool hs, .int .i64 c] 37) = w0 at *
  refine (unhide HSZ w0).mono ?_
  rintro e w1 ⟨rfl, hb⟩
  have K1 := hide ((unhide B0).trans (hb.mono (unhide B0).size))
  have X1 := hide ((unhide X0).below hb)
  have x0 := (unhide X1).cell 0 rfl
  have x1 := (unhide X1).cell 1 rfl
  have x2 := (unhide X1).cell 2 rfl
  have x3 := (unhide X1).cell 3 rfl
  have x4 := (unhide X1).cell 4 rfl
  have x5 := (unhide X1).cell 5 rfl
  have x6 := (unhide X1).cell 6 rfl
  clear hb B0 X0 HSZ
  rcases unhide HR with hr | ⟨hr, hrl⟩
  · subst hr
    go_wp2_with fail
    go_ret
    exact ⟨rfl, unhide K1⟩
  have hll : Hid (l.length ≤ 1048576) := hide (by omega)
  have hr2 : ¬ r < 0 := by omega
  clear hrl HR
  have HT := hide (fun wx (hx : Below w.heap.size w wx) => toIssuer_any sd _ z lg mp hs c l wx ((unhide HF).below hx) (unhide hll))
  go_wp2_with fail
  refine (unhide HT w1 (unhide K1)).mono ?_
  rintro e w2 ⟨g2, rfl, hO, hb⟩
  have K2 := hide ((unhide K1).trans (hb.mono (unhide K1).size))
  have X2 := hide ((unhide X1).below hb)
  have V2 := hide hO.bos
  clear hb hO K1 X1 x0 x1 x2 x3 x4 x5 x6
  have x0 := (unhide X2).cell 0 rfl
  have x1 := (unhide X2).cell 1 rfl
  have x2 := (unhide X2).cell 2 rfl
  have x3 := (unhide X2).cell 3 rfl
  have x4 := (unhide X2).cell 4 rfl
  have x5 := (unhide X2).cell 5 rfl
  have x6 := (unhide X2).cell 6 rfl
  go_wp2_with fail
  refine (unhide HSP w2 _ (unhide V2)).mono ?_
  rintro e w3 ⟨rfl, hb⟩
  have K3 := hide ((unhide K2).trans (hb.mono (unhide K2).size))
  have X3 := hide ((unhide X2).below hb)
  clear hb K2 X2 V2 HSP x0 x1 x2 x3 x4 x5 x6
  have x0 := (unhide X3).cell 0 rfl
  have x1 := (unhide X3).cell 1 rfl
  have x2 := (unhide X3).cell 2 rfl
  have x3 := (unhide X3).cell 3 rfl
  have x4 := (unhide X3).cell 4 rfl
  have x5 := (unhide X3).cell 5 rfl
  have x6 := (unhide X3).cell 6 rfl
  go_wp2_with fail
  refine (unhide HT w3 (unhide K3)).mono ?_
  rintro e w4 ⟨g4, rfl, hO, hb⟩
  have BB := (Below.refl w4.heap.size w4).alloc (Nat.le_refl _) (.cells #[.string sd, .slice (some ⟨g4, 0, none⟩) l.length l.length, .int .i64 z, .string lg, .string mp, .bool hs, .int .i64 c] 28)
  have K4 := hide (((unhide K3).trans (hb.mono (unhide K3).size)).trans (BB.mono ((unhide K3).trans (hb.mono (unhide K3).size)).size))
  have X4 := hide (((unhide X3).below hb).below BB)
  have V4 := hide (hO.bos.below BB)
  have Y4 := hide (Blk.new w4 #[.string sd, .slice (some ⟨g4, 0, none⟩) l.length l.length, .int .i64 z, .string lg, .string mp, .bool hs, .int .i64 c] 28 w4.heap.size rfl)
  clear hb hO BB K3 X3 x0 x1 x2 x3 x4 x5 x6
  have y0 := (unhide Y4).cell 0 rfl
  have y1 := (unhide Y4).cell 1 rfl
  have y2 := (unhide Y4).cell 2 rfl
  have y3 := (unhide Y4).cell 3 rfl
  have y4 := (unhide Y4).cell 4 rfl
  have y5 := (unhide Y4).cell 5 rfl
  have y6 := (unhide Y4).cell 6 rfl
  go_wp2_with fail
  generalize w4.alloc (.cells #[.string sd, .slice (some ⟨g4, 0, none⟩) l.length l.length, .int .i64 z, .string lg, .string mp, .bool hs, .int .i64 c] 28) = w5 at *
  generalize w4.heap.size = Y at *
  refine (unhide HIM w5 _ (unhide V4)).mono ?_
  rintro e w6 ⟨rfl, hb⟩
  have K6 := hide ((unhide K4).trans (hb.mono (unhide K4).size))
  have X6 := hide ((unhide X4).below hb)
  have Y6 := hide ((unhide Y4).below hb)
  have V6 := hide ((unhide V4).below hb)
  clear hb K4 X4 Y4 V4 HIM y0 y1 y2 y3 y4 y5 y6
  have x0 := (unhide X6).cell 0 rfl
  have x1 := (unhide X6).cell 1 rfl
  have x2 := (unhide X6).cell 2 rfl
  have x3 := (unhide X6).cell 3 rfl
  have x4 := (unhide X6).cell 4 rfl
  have x5 := (unhide X6).cell 5 rfl
  have x6 := (unhide X6).cell 6 rfl
  have y0 := (unhide Y6).cell 0 rfl
  have y1 := (unhide Y6).cell 1 rfl
  have y2 := (unhide Y6).cell 2 rfl
  have y3 := (unhide Y6).cell 3 rfl
  have y4 := (unhide Y6).cell 4 rfl
  have y5 := (unhide Y6).cell 5 rfl
  have y6 := (unhide Y6).cell 6 rfl
  have hzx := (unhide X6).1
  have hzy := (unhide Y6).1
  have b1 : (ok != ok) = false := by simp
  have b2 : (ok == ok) = true := by simp
  go_upto_region 10 with fail
  refine wp_region_noPanic ?_
  refine wp_region_held_drew (S := (fun wx => wx.cell? ⟨Y, 0, none⟩ = some (.string sd) ∧ wx.cell? ⟨Y, 1, none⟩ = some (.slice (some ⟨g4, 0, none⟩) l.length l.length) ∧ wx.cell? ⟨Y, 2, none⟩ = some (.int .i64 z) ∧ wx.cell? ⟨Y, 3, none⟩ = some (.string lg) ∧ wx.cell? ⟨Y, 4, none⟩ = some (.string mp) ∧ wx.cell? ⟨Y, 5, none⟩ = some (.bool hs) ∧ wx.cell? ⟨Y, 6, none⟩ = some (.int .i64 c) ∧ wx.cell? ⟨w.heap.size, 0, none⟩ = some (.string sd) ∧ wx.cell? ⟨w.heap.size, 1, none⟩ = some (.slice a l.length cap) ∧ wx.cell? ⟨w.heap.size, 2, none⟩ = some (.int .i64 z) ∧ wx.cell? ⟨w.heap.size, 3, none⟩ = some (.string lg) ∧ wx.cell? ⟨w.heap.size, 4, none⟩ = some (.string mp) ∧ wx.cell? ⟨w.heap.size, 5, none⟩ = some (.bool hs) ∧ wx.cell? ⟨w.heap.size, 6, none⟩ = some (.int .i64 c))) (by kernel_rfl) ?_ (fun hHeld => ?_)
  · exact ⟨y0, y1, y2, y3, y4, y5, y6, x0, x1, x2, x3, x4, x5, x6⟩
  have KD : Hid (Below w6.heap.size w6 w6.drew) := hide (below_drewN (Below.refl _ w6) 1)
  have K7 := hide ((unhide K6).trans ((unhide KD).mono (unhide K6).size))
  refine tkH 0 rfl ?_
  refine tkH 1 rfl ?_
  refine wpAnyH_ready (rs := [2]) (by kernel_rfl) (by simp) ?_
  refine AllReadyH.cons (o := _) rfl (fun K hK => ?_) AllReadyH.nil
  go_simp
  refine (unhide HT _ (unhide K7)).mono ?_
  rintro e w8 ⟨g8, rfl, hO, hb⟩
  have KD8 := hide ((unhide KD).trans (hb.mono (unhide KD).size))
  have V8 := hide hO.bos
  clear hb hO
  go_wp2_with fail
  refine hK.out _ _ ?_ (fun hHeld => ?_)
  · exact ⟨((unhide KD8).cell (p := ⟨Y, 0, none⟩) hzy).trans y0, ((unhide KD8).cell (p := ⟨Y, 1, none⟩) hzy).trans y1, ((unhide KD8).cell (p := ⟨Y, 2, none⟩) hzy).trans y2, ((unhide KD8).cell (p := ⟨Y, 3, none⟩) hzy).trans y3, ((unhide KD8).cell (p := ⟨Y, 4, none⟩) hzy).trans y4, ((unhide KD8).cell (p := ⟨Y, 5, none⟩) hzy).trans y5, ((unhide KD8).cell (p := ⟨Y, 6, none⟩) hzy).trans y6, ((unhide KD8).cell (p := ⟨w.heap.size, 0, none⟩) hzx).trans x0, ((unhide KD8).cell (p := ⟨w.heap.size, 1, none⟩) hzx).trans x1, ((unhide KD8).cell (p := ⟨w.heap.size, 2, none⟩) hzx).trans x2, ((unhide KD8).cell (p := ⟨w.heap.size, 3, none⟩) hzx).trans x3, ((unhide KD8).cell (p := ⟨w.heap.size, 4, none⟩) hzx).trans x4, ((unhide KD8).cell (p := ⟨w.heap.size, 5, none⟩) hzx).trans x5, ((unhide KD8).cell (p := ⟨w.heap.size, 6, none⟩) hzx).trans x6⟩
  clear hK K
  (try simp only [Act.put, List.getElem_toArray, List.getElem_cons_succ, List.getElem_cons_zero, List.setIfInBounds_toArray, List.set_cons_zero, List.set_cons_succ])
  refine wpAnyH_ready (rs := [3]) (by kernel_rfl) (by simp) ?_
  refine AllReadyH.cons (o := _) rfl (fun K hK => ?_) AllReadyH.nil
  go_simp
  refine (eqIssuer_any sd _ _ z lg mp hs c l w8 ((unhide V6).below (unhide KD8)) (unhide V8) (unhide hll)).mono ?_
  rintro e w9 ⟨rfl, hb⟩
  have KD9 := hide ((unhide KD8).trans (hb.mono (unhide KD8).size))
  clear hb
  go_wp2_with fail
  refine hK.out _ _ ?_ (fun hHeld => ?_)
  · exact ⟨((unhide KD9).cell (p := ⟨Y, 0, none⟩) hzy).trans y0, ((unhide KD9).cell (p := ⟨Y, 1, none⟩) hzy).trans y1, ((unhide KD9).cell (p := ⟨Y, 2, none⟩) hzy).trans y2, ((unhide KD9).cell (p := ⟨Y, 3, none⟩) hzy).trans y3, ((unhide KD9).cell (p := ⟨Y, 4, none⟩) hzy).trans y4, ((unhide KD9).cell (p := ⟨Y, 5, none⟩) hzy).trans y5, ((unhide KD9).cell (p := ⟨Y, 6, none⟩) hzy).trans y6, ((unhide KD9).cell (p := ⟨w.heap.size, 0, none⟩) hzx).trans x0, ((unhide KD9).cell (p := ⟨w.heap.size, 1, none⟩) hzx).trans x1, ((unhide KD9).cell (p := ⟨w.heap.size, 2, none⟩) hzx).trans x2, ((unhide KD9).cell (p := ⟨w.heap.size, 3, none⟩) hzx).trans x3, ((unhide KD9).cell (p := ⟨w.heap.size, 4, none⟩) hzx).trans x4, ((unhide KD9).cell (p := ⟨w.heap.size, 5, none⟩) hzx).trans x5, ((unhide KD9).cell (p := ⟨w.heap.size, 6, none⟩) hzx).trans x6⟩
  clear hK K
  (try simp only [Act.put, List.getElem_toArray, List.getElem_cons_succ, List.getElem_cons_zero, List.setIfInBounds_toArray, List.set_cons_zero, List.set_cons_succ])
  refine tkH 4 rfl ?_
  refine wpAnyH_done (by kernel_rfl) (NoPanic.normal ?_) _
  have KF := hide ((unhide K6).trans ((unhide KD9).mono (unhide K6).size))
  go_wp2_with fail
  go_ret
  exact ⟨rfl, unhide KF⟩

theorem own : ownKnob Try.prog.godebug = none := by kernel_rfl
theorem laidOut : laidOutB Try.prog = true := by kernel_rfl
set_option maxRecDepth 100000 in
theorem lifted (os : Os) (started : os.Started) (H : Type) (enc : TypeId × Value → H) :
    ReturnsInHanded {} Try.checked os 4 .any (Rows.fnExactIssuerOKSpec.pre6 enc Try.prog Try.f4 Rows.fnExactIssuerOKRow.domain false) (Rows.fnExactIssuerOKSpec.post enc Try.prog Try.f4 false true false false) := by
  refine returnsInHanded_of_change (C := Try.checked) own started (by kernel_rfl) Try.func4
    (ChangeSpec.witness6 (enc := enc) (C := Try.checked) false ⟨#[], #[.agg #[.string ByteArray.empty, .slice none 0 0, .int .i64 0, .string ByteArray.empty, .string ByteArray.empty, .bool false, .int .i64 0]], []⟩ 8 (by kernel_rfl) (by kernel_rfl) (by kernel_rfl) (by kernel_rfl)) ?_
  intro W base args ds gs before hval0 hW hcnd _
  have hval : ∀ (j : Nat) t v, Try.f4.params[j]? = some t → args[j]? = some v → Value.okWide Try.prog W .any base t v := hval0
  have hW' := hW
  obtain ⟨p, q, hA0, hV, rfl, hfz, hnd⟩ := hW
  have hA : DataW.TrodAll enc Try.prog W 0 (fun _ => true) true Try.f4.params.toList args.toList ds p := hA0
  rw [Try.params4] at hA hval
  obtain ⟨v0, vs0, d0, ds0, p0, q0, hargs, rfl, rfl, h0, r0⟩ := trodAll_cons hA
  obtain ⟨rfl, rfl, rfl⟩ := trodAll_nil r0
  obtain rfl : args = #[v0] := by cases args; simp_all
  obtain ⟨rfl, rfl⟩ := trodVars_none hV
  have k0 := h0
  have lt0 : ∀ x ∈ p0, x.block < W.heap.size := by obtain ⟨m, hm⟩ := k0; exact DataW.trod_lt m _ _ _ hm
  obtain ⟨sd0, u0, l0, sz0, lg0, mp0, hs0, ct0, rfl, hf0, hd0, hl0, hm0⟩ := open_issuer (hval 0 37 v0 rfl rfl) h0
  clear hA0 hval0
  refine (walk sd0 u0 l0 sz0 lg0 mp0 hs0 ct0 W hf0 hd0 hl0 hm0).mono fun e W' ⟨he, bel⟩ => ?_
  subst he
  exact ⟨_, rfl, _, _, _, [], _, [], hW', trodAll_mk1 (shut_bool Try.underlying4 _), (trodAll_cons_mk (Below.trod laidOut (by kernel_rfl) (of_decide_eq_true (by kernel_rfl)) k0 bel lt0) trodAll_mk0), rfl, bel.frame _, fun h => by cases h⟩

theorem over : Rows.fnExactIssuerOKRow.holds Try.pinned (OpenSpec.ofChange Rows.fnExactIssuerOKSpec) :=
  OpenClaim.holds_of_wide 4 Try.f4 rfl rfl rfl rfl rfl rfl rfl ⟨rfl, rfl, rfl, rfl, rfl⟩ rfl rfl rfl rfl rfl (by kernel_rfl) Try.func4 (by kernel_rfl)
    (of_decide_eq_true (by kernel_rfl)) (by unfold Func.isWrapper; first | (rw [if_pos (by decide +kernel)]; kernel_rfl) | (rw [if_neg (by decide +kernel)]; exact ⟨rfl, rfl⟩))
    (fun os started H enc _ => lifted os started H enc)

end Go.Proofs.Ytkojmnlfpccbiaa.fnExactIssuerOK
namespace Go.Proofs.Ytkojmnlfpccbiaa
theorem fnExactIssuerOK_holds : Rows.FnExactIssuerOKSaid := fnExactIssuerOK.over
#print axioms fnExactIssuerOK_holds
end Go.Proofs.Ytkojmnlfpccbiaa
