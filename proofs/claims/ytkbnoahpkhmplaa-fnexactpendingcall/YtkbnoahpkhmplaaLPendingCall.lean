/- For every list of calls that can be read and every number, laws.FnExactPendingCall returns true, and the list reads as it did. No condition. -/
import Derived.Test.YtkbnoahpkhmplaaPnd
namespace Go.Proofs.Ytkbnoahpkhmplaa.fnExactPendingCall
open Go.ChangeShapes Go.WideShapes Go.ChangeAt Go.RowKit
open Go.ChangeMaps (open_string shut_string)
set_option linter.unusedVariables false

set_option maxRecDepth 100000 in
set_option maxHeartbeats 4000000 in
theorem walk (v : Value) (l : List Cr) (c : Int) (w : World) (hf : Crs w v l) (hz : ∀ i, i < l.length → (Lit.int .i64 (l.getD i default).cl).wf = true ∧ (Lit.int .i64 (l.getD i default).bg).wf = true ∧ (Lit.int .i64 (l.getD i default).en).wf = true ∧ (Lit.int .i64 (l.getD i default).kd).wf = true ∧ (Lit.int .i64 (l.getD i default).ss).wf = true ∧ (Lit.int .i64 (l.getD i default).sq).wf = true ∧ (l.getD i default).ky.size ≤ maxLen ∧ (l.getD i default).va.size ≤ maxLen ∧ (Lit.int .i64 (l.getD i default).rk).wf = true ∧ (Lit.int .i64 (l.getD i default).rp).wf = true ∧ (l.getD i default).rv.size ≤ maxLen) (hcw : (Lit.int .i64 c).wf = true) :
    Calls Try.prog 3 #[v, .int .i64 c] w fun e w' => e = .returned (.bool true) ∧ Below w.heap.size w w' := by
  have HF := hide hf
  have HZ := hide hz
  have HCW := hide hcw
  clear hf hz hcw
  go_enter Try.func3, Try.ntmps3
  go_wp2_with fail
  refine (szCallRecordS_any 1048576 (by omega) (by omega) v l w (unhide HF) (fun i hi => by obtain ⟨_, _, _, _, _, _, h6, h7, _, _, h10⟩ := unhide HZ i hi; exact ⟨h6, h7, h10⟩)).mono ?_
  rintro e w1 ⟨rfl, hb1⟩
  have K1 := hide hb1
  clear hb1
  rcases qszR_cases 1048576 l with hr | ⟨hr, hrl⟩
  · rw [hr]
    go_wp2_with fail
    go_ret
    exact ⟨rfl, unhide K1⟩
  have HS := hide (qsmall_of 1048576 (by omega) l hr).1
  generalize qszR 1048576 l = r at *
  have HW := hide (fun i hi => (unhide HZ i hi).1)
  go_wp2_with fail
  refine (toCallRecordS_any v l w1 ((unhide HF).below (unhide K1)) (unhide HS)).mono ?_
  rintro e w2 ⟨rfl, hO, hlt, hb⟩
  have K2 := hide ((unhide K1).trans (hb.mono (unhide K1).size))
  have HC := hide (specPendingCall_any _ l c w2 hO.read (unhide HS))
  clear hO hlt hb K1
  have HIM := hide (fun wx vx (hx : Crs wx vx l) => implPendingCall_any vx l c wx hx (unhide HS) (unhide HW) (unhide HCW))
  generalize pcOut l c = out at *
  obtain ⟨p, cd⟩ := out
  dsimp only at HC HIM
  go_wp2_with fail
  refine (unhide HC).mono ?_
  rintro e w3 ⟨rfl, hb⟩
  have K3 := hide ((unhide K2).trans (hb.mono (unhide K2).size))
  clear hb K2 HC
  go_wp2_with fail
  refine (toCallRecordS_any v l w3 ((unhide HF).below (unhide K3)) (unhide HS)).mono ?_
  rintro e w4 ⟨rfl, hO, hlt, hb⟩
  have K4 := hide ((unhide K3).trans (hb.mono (unhide K3).size))
  have O4 := hide hO
  have HC := hide (unhide HIM w4 _ hO.read)
  clear hO hb hlt K3 HIM
  go_wp2_with fail
  refine (unhide HC).mono ?_
  rintro e w5 ⟨rfl, hb⟩
  have K5 := hide ((unhide K4).trans (hb.mono (unhide K4).size))
  have O5 := hide ((unhide O4).below hb)
  clear hb K4 O4 HC
  have b1 : (p == p) = true := by simp
  have b2 : (p != p) = false := by simp
  have b3 : (cd == cd) = true := by simp
  have b4 : (cd != cd) = false := by simp
  go_wp2_with fail
  refine (toCallRecordS_any v l w5 ((unhide HF).below (unhide K5)) (unhide HS)).mono ?_
  rintro e w6 ⟨rfl, hO, hlt, hb⟩
  have K6 := hide ((unhide K5).trans (hb.mono (unhide K5).size))
  have HC := hide (eqCallRecordS_any _ _ l w6 ((unhide O5).below hb).read hO.read (unhide HS))
  clear hO hb hlt K5 O5
  go_wp2_with fail
  refine (unhide HC).mono ?_
  rintro e w7 ⟨rfl, hb⟩
  have K7 := hide ((unhide K6).trans (hb.mono (unhide K6).size))
  clear hb K6 HC
  go_wp2_with fail
  go_ret
  exact ⟨rfl, unhide K7⟩

theorem own : ownKnob Try.prog.godebug = none := by kernel_rfl
theorem laidOut : laidOutB Try.prog = true := by kernel_rfl
set_option maxRecDepth 100000 in
theorem lifted (os : Os) (started : os.Started) (H : Type) (enc : TypeId × Value → H) :
    ReturnsInHanded {} Try.checked os 3 .any (Rows.fnExactPendingCallSpec.pre6 enc Try.prog Try.f3 Rows.fnExactPendingCallRow.domain false) (Rows.fnExactPendingCallSpec.post enc Try.prog Try.f3 false true false false) := by
  refine returnsInHanded_of_change (C := Try.checked) own started (by kernel_rfl) Try.func3
    (ChangeSpec.witness6 (enc := enc) (C := Try.checked) false ⟨#[], #[.slice none 0 0, .int .i64 0], []⟩ 8 (by kernel_rfl) (by kernel_rfl) (by kernel_rfl) (by kernel_rfl)) ?_
  intro W base args ds gs before hval0 hW hcnd _
  have hval : ∀ (j : Nat) t v, Try.f3.params[j]? = some t → args[j]? = some v → Value.okWide Try.prog W .any base t v := hval0
  have hW' := hW
  obtain ⟨p, q, hA0, hV, rfl, hfz, hnd⟩ := hW
  have hA : DataW.TrodAll enc Try.prog W 0 (fun _ => true) true Try.f3.params.toList args.toList ds p := hA0
  rw [Try.params3] at hA hval
  obtain ⟨v0, vs0, d0, ds0, p0, q0, hargs, rfl, rfl, h0, r0⟩ := trodAll_cons hA
  obtain ⟨v1, vs1, d1, ds1, p1, q1, rfl, rfl, rfl, h1, r1⟩ := trodAll_cons r0
  obtain ⟨rfl, rfl, rfl⟩ := trodAll_nil r1
  obtain rfl : args = #[v0, v1] := by cases args; simp_all
  obtain ⟨rfl, rfl⟩ := trodVars_none hV
  have k0 := h0
  have lt0 : ∀ x ∈ p0, x.block < W.heap.size := by obtain ⟨m, hm⟩ := k0; exact DataW.trod_lt m _ _ _ hm
  obtain ⟨l0, hf0, hz0⟩ := open_calls (hval 0 22 v0 rfl rfl) h0
  have k1 := h1
  have lt1 : ∀ x ∈ p1, x.block < W.heap.size := by obtain ⟨m, hm⟩ := k1; exact DataW.trod_lt m _ _ _ hm
  obtain ⟨a1, rfl, _, _, w1⟩ := open_int Try.underlying3 (hval 1 3 v1 rfl rfl) h1
  clear hA0 hval0
  refine (walk v0 l0 a1 W hf0 hz0 w1).mono fun e W' ⟨he, bel⟩ => ?_
  subst he
  exact ⟨_, rfl, _, _, _, [], _, [], hW', trodAll_mk1 (shut_bool Try.underlying4 _), (trodAll_cons_mk (Below.trod laidOut (by kernel_rfl) (of_decide_eq_true (by kernel_rfl)) k0 bel lt0) (trodAll_cons_mk (Below.trod laidOut (by kernel_rfl) (of_decide_eq_true (by kernel_rfl)) k1 bel lt1) trodAll_mk0)), rfl, bel.frame _, fun h => by cases h⟩

theorem over : Rows.fnExactPendingCallRow.holds Try.pinned (OpenSpec.ofChange Rows.fnExactPendingCallSpec) :=
  OpenClaim.holds_of_wide 3 Try.f3 rfl rfl rfl rfl rfl rfl rfl ⟨rfl, rfl, rfl, rfl, rfl⟩ rfl rfl rfl rfl rfl (by kernel_rfl) Try.func3 (by kernel_rfl)
    (of_decide_eq_true (by kernel_rfl)) (by unfold Func.isWrapper; first | (rw [if_pos (by decide +kernel)]; kernel_rfl) | (rw [if_neg (by decide +kernel)]; exact ⟨rfl, rfl⟩))
    (fun os started H enc _ => lifted os started H enc)

end Go.Proofs.Ytkbnoahpkhmplaa.fnExactPendingCall
namespace Go.Proofs.Ytkbnoahpkhmplaa
theorem fnExactPendingCall_holds : Rows.FnExactPendingCallSaid := fnExactPendingCall.over
#print axioms fnExactPendingCall_holds
end Go.Proofs.Ytkbnoahpkhmplaa
