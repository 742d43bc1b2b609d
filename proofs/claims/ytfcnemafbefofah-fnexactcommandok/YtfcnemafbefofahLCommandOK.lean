/- For every command that can be read, laws.FnExactCommandOK returns true, and the command reads as it did. No condition. -/
import Derived.Test.YtfcnemafbefofahLawC
namespace Go.Proofs.Ytfcnemafbefofah.fnExactCommandOK
open Go.ChangeShapes Go.WideShapes Go.ChangeAt Go.RowKit
open Go.ChangeMaps (open_string shut_string)
set_option linter.unusedVariables false

set_option maxRecDepth 100000 in
set_option maxHeartbeats 1000000 in
theorem walk (k s q : Int) (key val : ByteArray) (w : World) (wk : (Lit.int .i64 k).wf = true) (ws : (Lit.int .i64 s).wf = true) (wq : (Lit.int .i64 q).wf = true) (hk : key.size ≤ maxLen) (hv : val.size ≤ maxLen) :
    Calls Try.prog 5 #[.agg #[.int .i64 k, .int .i64 s, .int .i64 q, .string key, .string val]] w fun e w' => e = .returned (.bool true) ∧ Below w.heap.size w w' := by
  have HK := hide hk
  have HV := hide hv
  clear wk ws wq
  by_cases h : key.size + val.size ≤ 1048576
  · unfold maxLen at hk hv
    go_enter Try.func5, Try.ntmps5
    go_wp2_with fail
    refine (szCommand_yes k s q key val _ h).mono ?_
    rintro e w1 ⟨rfl, hb1⟩
    have B1 := hide (((Below.refl w.heap.size w).alloc (Nat.le_refl _) (.cells #[.int .i64 k, .int .i64 s, .int .i64 q, .string key, .string val] 31)).trans (hb1.mono (by simp)))
    obtain ⟨c0, c1, c2, c3, c4⟩ := five_cell rfl (hb1.mono (Nat.le_of_eq (by simp)))
    have hsz : w.heap.size + 1 ≤ w1.heap.size := by have := hb1.size; simp at this; omega
    clear hb1
    go_wp2_with fail
    refine (toCommand_any k s q key val _).mono ?_
    rintro e w2 ⟨rfl, hb2⟩
    have B2 := hide ((unhide B1).trans (hb2.mono (by omega)))
    have d0 := (hb2.cell (p := ⟨w.heap.size, 0, none⟩) (by simp; omega)).trans c0
    have d1 := (hb2.cell (p := ⟨w.heap.size, 1, none⟩) (by simp; omega)).trans c1
    have d2 := (hb2.cell (p := ⟨w.heap.size, 2, none⟩) (by simp; omega)).trans c2
    have d3 := (hb2.cell (p := ⟨w.heap.size, 3, none⟩) (by simp; omega)).trans c3
    have d4 := (hb2.cell (p := ⟨w.heap.size, 4, none⟩) (by simp; omega)).trans c4
    have hsz2 : w.heap.size + 1 ≤ w2.heap.size := Nat.le_trans hsz hb2.size
    clear hb2 c0 c1 c2 c3 c4
    go_wp2_with fail
    refine (specCommandOK_any k s q key val _ (unhide HK) (unhide HV)).mono ?_
    rintro e w3 ⟨rfl, hb3⟩
    have B3 := hide ((unhide B2).trans (hb3.mono (by omega)))
    have c0 := (hb3.cell (p := ⟨w.heap.size, 0, none⟩) (by simp; omega)).trans d0
    have c1 := (hb3.cell (p := ⟨w.heap.size, 1, none⟩) (by simp; omega)).trans d1
    have c2 := (hb3.cell (p := ⟨w.heap.size, 2, none⟩) (by simp; omega)).trans d2
    have c3 := (hb3.cell (p := ⟨w.heap.size, 3, none⟩) (by simp; omega)).trans d3
    have c4 := (hb3.cell (p := ⟨w.heap.size, 4, none⟩) (by simp; omega)).trans d4
    have hsz3 : w.heap.size + 1 ≤ w3.heap.size := Nat.le_trans hsz2 hb3.size
    clear hb3 d0 d1 d2 d3 d4
    go_wp2_with fail
    refine (toCommand_any k s q key val _).mono ?_
    rintro e w4 ⟨rfl, hb4⟩
    have B4 := hide ((unhide B3).trans (hb4.mono (by omega)))
    have hsz4 : w.heap.size + 1 ≤ w4.heap.size := Nat.le_trans hsz3 hb4.size
    clear hb4 c0 c1 c2 c3 c4
    go_wp2_with fail
    refine (implCommandOK_any k s q key val _ (unhide HK) (unhide HV)).mono ?_
    rintro e w5 ⟨rfl, hb5⟩
    have B5 := hide ((unhide B4).trans (hb5.mono (by omega)))
    clear hb5
    generalize cmdOK k s q key val = ok at *
    cases ok
    all_goals
      go_wp2_with fail
      go_ret
      exact ⟨rfl, unhide B5⟩
  · go_enter Try.func5, Try.ntmps5
    go_wp2_with fail
    refine (szCommand_no k s q key val _ (unhide HK) (unhide HV) (by omega)).mono ?_
    rintro e w1 ⟨rfl, hb1⟩
    have B1 := hide (((Below.refl w.heap.size w).alloc (Nat.le_refl _) (.cells #[.int .i64 k, .int .i64 s, .int .i64 q, .string key, .string val] 31)).trans (hb1.mono (by simp)))
    clear hb1
    go_wp2_with fail
    go_ret
    exact ⟨rfl, unhide B1⟩

theorem own : ownKnob Try.prog.godebug = none := by kernel_rfl
theorem laidOut : laidOutB Try.prog = true := by kernel_rfl
set_option maxRecDepth 100000 in
theorem lifted (os : Os) (started : os.Started) (H : Type) (enc : TypeId × Value → H) :
    ReturnsInHanded {} Try.checked os 5 .any (Rows.fnExactCommandOKSpec.pre6 enc Try.prog Try.f5 Rows.fnExactCommandOKRow.domain false) (Rows.fnExactCommandOKSpec.post enc Try.prog Try.f5 false true false false) := by
  refine returnsInHanded_of_change (C := Try.checked) own started (by kernel_rfl) Try.func5
    (ChangeSpec.witness6 (enc := enc) (C := Try.checked) false ⟨#[], #[.agg #[.int .i64 0, .int .i64 0, .int .i64 0, .string ByteArray.empty, .string ByteArray.empty]], []⟩ 8 (by kernel_rfl) (by kernel_rfl) (by kernel_rfl) (by kernel_rfl)) ?_
  intro W base args ds gs before hval0 hW hcnd _
  have hval : ∀ (j : Nat) t v, Try.f5.params[j]? = some t → args[j]? = some v → Value.okWide Try.prog W .any base t v := hval0
  have hW' := hW
  obtain ⟨p, q, hA0, hV, rfl, hfz, hnd⟩ := hW
  have hA : DataW.TrodAll enc Try.prog W 0 (fun _ => true) true Try.f5.params.toList args.toList ds p := hA0
  rw [Try.params5] at hA hval
  obtain ⟨v0, vs0, d0, ds0, p0, q0, hargs, rfl, rfl, h0, r0⟩ := trodAll_cons hA
  obtain ⟨rfl, rfl, rfl⟩ := trodAll_nil r0
  obtain rfl : args = #[v0] := by cases args; simp_all
  obtain ⟨rfl, rfl⟩ := trodVars_none hV
  have k0 := h0
  have lt0 : ∀ x ∈ p0, x.block < W.heap.size := by obtain ⟨m, hm⟩ := k0; exact DataW.trod_lt m _ _ _ hm
  obtain ⟨ka0, sa0, qa0, key0, val0, rfl, wk0, ws0, wq0, hk0, hv0⟩ := open_cmd (hval 0 31 v0 rfl rfl) h0
  clear hA0 hval0
  refine (walk ka0 sa0 qa0 key0 val0 W wk0 ws0 wq0 hk0 hv0).mono fun e W' ⟨he, bel⟩ => ?_
  subst he
  exact ⟨_, rfl, _, _, _, [], _, [], hW', trodAll_mk1 (shut_bool Try.underlying4 _), (trodAll_cons_mk (Below.trod laidOut (by kernel_rfl) (of_decide_eq_true (by kernel_rfl)) k0 bel lt0) trodAll_mk0), rfl, bel.frame _, fun h => by cases h⟩

theorem over : Rows.fnExactCommandOKRow.holds Try.pinned (OpenSpec.ofChange Rows.fnExactCommandOKSpec) :=
  OpenClaim.holds_of_wide 5 Try.f5 rfl rfl rfl rfl rfl rfl rfl ⟨rfl, rfl, rfl, rfl, rfl⟩ rfl rfl rfl rfl rfl (by kernel_rfl) Try.func5 (by kernel_rfl)
    (of_decide_eq_true (by kernel_rfl)) (by unfold Func.isWrapper; first | (rw [if_pos (by decide +kernel)]; kernel_rfl) | (rw [if_neg (by decide +kernel)]; exact ⟨rfl, rfl⟩))
    (fun os started H enc _ => lifted os started H enc)

end Go.Proofs.Ytfcnemafbefofah.fnExactCommandOK
namespace Go.Proofs.Ytfcnemafbefofah
theorem fnExactCommandOK_holds : Rows.FnExactCommandOKSaid := fnExactCommandOK.over
#print axioms fnExactCommandOK_holds
end Go.Proofs.Ytfcnemafbefofah
