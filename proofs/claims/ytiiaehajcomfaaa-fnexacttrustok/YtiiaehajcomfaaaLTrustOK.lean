/- For every trust that can be read, laws.FnExactTrustOK returns true, and the trust reads as it did. No condition. -/
import Derived.Test.YtiiaehajcomfaaaTru
namespace Go.Proofs.Ytiiaehajcomfaaa.fnExactTrustOK
open Go.ChangeShapes Go.WideShapes Go.ChangeAt Go.RowKit
open Go.ChangeMaps (open_string shut_string)
set_option linter.unusedVariables false

set_option maxRecDepth 100000 in
set_option maxHeartbeats 2000000 in
theorem walk (ky : ByteArray) (hs : Bool) (z : Int) (lg mp : ByteArray) (w : World) (wz : (Lit.int .i64 z).wf = true) (hk : ky.size ≤ maxLen) (hl : lg.size ≤ maxLen) (hm : mp.size ≤ maxLen) :
    Calls Try.prog 3 #[.agg #[.string ky, .bool hs, .int .i64 z, .string lg, .string mp]] w fun e w' => e = .returned (.bool true) ∧ Below w.heap.size w w' := by
  have B0 := hide ((Below.refl w.heap.size w).alloc (Nat.le_refl _) (.cells #[.string ky, .bool hs, .int .i64 z, .string lg, .string mp] 23))
  have HY := hide (fun h wx => szTrust_yes hs z 1048576 ky lg mp wx (by omega) (by omega) h)
  have HN := hide (fun h wx => szTrust_no hs z 1048576 ky lg mp wx (by omega) (by omega) hk hl hm h)
  have HT := hide (fun wx => toTrust_any hs z ky lg mp wx)
  have HS := hide (fun wx => specTrustOK_any hs z ky lg mp wx hk hl hm)
  have HI := hide (fun wx => implTrustOK_any hs z ky lg mp wx hk hl hm)
  have HX : ∀ wx, Below (w.heap.size + 1) (w.alloc (.cells #[.string ky, .bool hs, .int .i64 z, .string lg, .string mp] 23)) wx →
      wx.cell? ⟨w.heap.size, 0, none⟩ = some (.string ky) ∧ wx.cell? ⟨w.heap.size, 1, none⟩ = some (.bool hs) ∧ wx.cell? ⟨w.heap.size, 2, none⟩ = some (.int .i64 z) ∧ wx.cell? ⟨w.heap.size, 3, none⟩ = some (.string lg) ∧ wx.cell? ⟨w.heap.size, 4, none⟩ = some (.string mp) := fun wx hx => five_cell rfl hx
  have HX := hide HX
  clear wz hk hl hm
  generalize truB ky hs z lg mp = res at *
  by_cases h : (ky.size : Int) + (lg.size : Int) + (mp.size : Int) ≤ 1048576
  · have HY := hide (unhide HY h)
    have hr : ¬ (1048576 - (ky.size : Int) - (lg.size : Int) - (mp.size : Int)) < 0 := by omega
    go_enter Try.func3, Try.ntmps3
    go_wp2_with fail
    refine (unhide HY _).mono ?_
    rintro e w1 ⟨rfl, hb1⟩
    have C1 := hide (hb1.mono (show w.heap.size + 1 ≤ _ by simp))
    obtain ⟨c0, c1, c2, c3, c4⟩ := unhide HX w1 (unhide C1)
    clear hb1
    generalize (1048576 - (ky.size : Int) - (lg.size : Int) - (mp.size : Int)) = r at *
    go_wp2_with fail
    refine (unhide HT _).mono ?_
    rintro e w2 ⟨rfl, hb2⟩
    have C2 := hide ((unhide C1).trans (hb2.mono (by have := (unhide C1).size; simpa using this)))
    clear hb2 c0 c1 c2 c3 c4 C1
    go_wp2_with fail
    refine (unhide HS _).mono ?_
    rintro e w3 ⟨rfl, hb3⟩
    have C3 := hide ((unhide C2).trans (hb3.mono (by have := (unhide C2).size; simpa using this)))
    obtain ⟨c0, c1, c2, c3, c4⟩ := unhide HX w3 (unhide C3)
    clear hb3 C2
    go_wp2_with fail
    refine (unhide HT _).mono ?_
    rintro e w4 ⟨rfl, hb4⟩
    have C4 := hide ((unhide C3).trans (hb4.mono (by have := (unhide C3).size; simpa using this)))
    clear hb4 c0 c1 c2 c3 c4 C3
    go_wp2_with fail
    refine (unhide HI _).mono ?_
    rintro e w5 ⟨rfl, hb5⟩
    have C5 := hide ((unhide C4).trans (hb5.mono (by have := (unhide C4).size; simpa using this)))
    have B5 := hide ((unhide B0).trans ((unhide C5).mono (by simp)))
    clear hb5 C4
    cases res
    all_goals
      go_wp2_with fail
      go_ret
      exact ⟨rfl, unhide B5⟩
  · have HN := hide (unhide HN (by omega))
    go_enter Try.func3, Try.ntmps3
    go_wp2_with fail
    refine (unhide HN _).mono ?_
    rintro e w1 ⟨rfl, hb1⟩
    have B1 := hide ((unhide B0).trans (hb1.mono (by simp)))
    clear hb1
    go_wp2_with fail
    go_ret
    exact ⟨rfl, unhide B1⟩

theorem own : ownKnob Try.prog.godebug = none := by kernel_rfl
theorem laidOut : laidOutB Try.prog = true := by kernel_rfl
set_option maxRecDepth 100000 in
theorem lifted (os : Os) (started : os.Started) (H : Type) (enc : TypeId × Value → H) :
    ReturnsInHanded {} Try.checked os 3 .any (Rows.fnExactTrustOKSpec.pre6 enc Try.prog Try.f3 Rows.fnExactTrustOKRow.domain false) (Rows.fnExactTrustOKSpec.post enc Try.prog Try.f3 false true false false) := by
  refine returnsInHanded_of_change (C := Try.checked) own started (by kernel_rfl) Try.func3
    (ChangeSpec.witness6 (enc := enc) (C := Try.checked) false ⟨#[], #[.agg #[.string ByteArray.empty, .bool false, .int .i64 0, .string ByteArray.empty, .string ByteArray.empty]], []⟩ 8 (by kernel_rfl) (by kernel_rfl) (by kernel_rfl) (by kernel_rfl)) ?_
  intro W base args ds gs before hval0 hW hcnd _
  have hval : ∀ (j : Nat) t v, Try.f3.params[j]? = some t → args[j]? = some v → Value.okWide Try.prog W .any base t v := hval0
  have hW' := hW
  obtain ⟨p, q, hA0, hV, rfl, hfz, hnd⟩ := hW
  have hA : DataW.TrodAll enc Try.prog W 0 (fun _ => true) true Try.f3.params.toList args.toList ds p := hA0
  rw [Try.params3] at hA hval
  obtain ⟨v0, vs0, d0, ds0, p0, q0, hargs, rfl, rfl, h0, r0⟩ := trodAll_cons hA
  obtain ⟨rfl, rfl, rfl⟩ := trodAll_nil r0
  obtain rfl : args = #[v0] := by cases args; simp_all
  obtain ⟨rfl, rfl⟩ := trodVars_none hV
  have k0 := h0
  have lt0 : ∀ x ∈ p0, x.block < W.heap.size := by obtain ⟨m, hm⟩ := k0; exact DataW.trod_lt m _ _ _ hm
  obtain ⟨ky0, hs0, sz0, lg0, mp0, rfl, wz0, hk0, hl0, hm0⟩ := open_trust (hval 0 23 v0 rfl rfl) h0
  clear hA0 hval0
  refine (walk ky0 hs0 sz0 lg0 mp0 W wz0 hk0 hl0 hm0).mono fun e W' ⟨he, bel⟩ => ?_
  subst he
  exact ⟨_, rfl, _, _, _, [], _, [], hW', trodAll_mk1 (shut_bool Try.underlying4 _), (trodAll_cons_mk (Below.trod laidOut (by kernel_rfl) (of_decide_eq_true (by kernel_rfl)) k0 bel lt0) trodAll_mk0), rfl, bel.frame _, fun h => by cases h⟩

theorem over : Rows.fnExactTrustOKRow.holds Try.pinned (OpenSpec.ofChange Rows.fnExactTrustOKSpec) :=
  OpenClaim.holds_of_wide 3 Try.f3 rfl rfl rfl rfl rfl rfl rfl ⟨rfl, rfl, rfl, rfl, rfl⟩ rfl rfl rfl rfl rfl (by kernel_rfl) Try.func3 (by kernel_rfl)
    (of_decide_eq_true (by kernel_rfl)) (by unfold Func.isWrapper; first | (rw [if_pos (by decide +kernel)]; kernel_rfl) | (rw [if_neg (by decide +kernel)]; exact ⟨rfl, rfl⟩))
    (fun os started H enc _ => lifted os started H enc)

end Go.Proofs.Ytiiaehajcomfaaa.fnExactTrustOK
namespace Go.Proofs.Ytiiaehajcomfaaa
theorem fnExactTrustOK_holds : Rows.FnExactTrustOKSaid := fnExactTrustOK.over
#print axioms fnExactTrustOK_holds
end Go.Proofs.Ytiiaehajcomfaaa
