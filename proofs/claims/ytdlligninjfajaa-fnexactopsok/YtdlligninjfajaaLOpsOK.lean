/- For every list of acts that can be read laws.FnExactOpsOK returns true, and the list reads as it did. No condition. -/
import Derived.Test.YtdlligninjfajaaHiB
namespace Go.Proofs.Ytdlligninjfajaa.fnExactOpsOK
open Go.ChangeShapes Go.WideShapes Go.ChangeAt Go.RowKit
open Go.ChangeMaps (open_string shut_string)
set_option linter.unusedVariables false

set_option maxRecDepth 100000 in
set_option maxHeartbeats 4000000 in
theorem walk (v : Value) (l : List Op) (w : World) (hf : Ops w v l) (hz : ∀ i, i < l.length → (Lit.int .i64 (l.getD i default).bg).wf = true ∧ (Lit.int .i64 (l.getD i default).en).wf = true ∧ (l.getD i default).va.size ≤ maxLen) :
    Calls Try.prog 3 #[v] w fun e w' => e = .returned (.bool true) ∧ Below w.heap.size w w' := by
  have HF := hide hf
  have HZ := hide hz
  clear hf hz
  go_enter Try.func3, Try.ntmps3
  go_wp2_with fail
  refine (szOpS_any 1048576 (by omega) (by omega) v l w (unhide HF) (fun i hi => (unhide HZ i hi).2.2)).mono ?_
  rintro e w1 ⟨rfl, hb1⟩
  have K1 := hide hb1
  clear hb1
  rcases oszR_cases 1048576 l with hr | ⟨hr, hrl⟩
  · rw [hr]
    go_wp2_with fail
    go_ret
    exact ⟨rfl, unhide K1⟩
  have HS := hide (osmall_of 1048576 (by omega) l hr).1
  generalize oszR 1048576 l = r at *
  go_wp2_with fail
  refine (toOpS_any v l w1 ((unhide HF).below (unhide K1)) (unhide HS)).mono ?_
  rintro e w2 ⟨rfl, hO, hlt, hb⟩
  have K2 := hide ((unhide K1).trans (hb.mono (unhide K1).size))
  have HC := hide (specOpsOK_any _ l w2 hO.read (unhide HS))
  clear hO hlt hb K1
  have HIM := hide (fun wx vx (hx : Ops wx vx l) => implOpsOK_any vx l wx hx (unhide HS))
  generalize opsB l = out at *
  go_wp2_with fail
  refine (unhide HC).mono ?_
  rintro e w3 ⟨rfl, hb⟩
  have K3 := hide ((unhide K2).trans (hb.mono (unhide K2).size))
  clear hb K2 HC
  go_wp2_with fail
  refine (toOpS_any v l w3 ((unhide HF).below (unhide K3)) (unhide HS)).mono ?_
  rintro e w4 ⟨rfl, hO, hlt, hb⟩
  have K4 := hide ((unhide K3).trans (hb.mono (unhide K3).size))
  have O4 := hide hO
  have HC := hide (unhide HIM w4 _ hO.read)
  clear hO hb hlt K3 HIM
  go_wp2_with fail
  refine (unhide HC).mono ?_
  rintro e w5 ⟨rfl, hb⟩
  have K5 := hide ((unhide K4).trans (hb.mono (unhide K4).size))
  have O5 := hide ((unhide O4).below hb)
  clear hb K4 O4 HC
  have b1 : (out != out) = false := by simp
  go_wp2_with fail
  refine (toOpS_any v l w5 ((unhide HF).below (unhide K5)) (unhide HS)).mono ?_
  rintro e w6 ⟨rfl, hO, hlt, hb⟩
  have K6 := hide ((unhide K5).trans (hb.mono (unhide K5).size))
  have HC := hide (eqOpS_any _ _ l w6 ((unhide O5).below hb).read hO.read (unhide HS))
  clear hO hb hlt K5 O5
  go_wp2_with fail
  refine (unhide HC).mono ?_
  rintro e w7 ⟨rfl, hb⟩
  have K7 := hide ((unhide K6).trans (hb.mono (unhide K6).size))
  clear hb K6 HC
  go_wp2_with fail
  go_ret
  exact ⟨rfl, unhide K7⟩

theorem own : ownKnob Try.prog.godebug = none := by kernel_rfl
theorem laidOut : laidOutB Try.prog = true := by kernel_rfl
set_option maxRecDepth 100000 in
theorem lifted (os : Os) (started : os.Started) (H : Type) (enc : TypeId × Value → H) :
    ReturnsInHanded {} Try.checked os 3 .any (Rows.fnExactOpsOKSpec.pre6 enc Try.prog Try.f3 Rows.fnExactOpsOKRow.domain false) (Rows.fnExactOpsOKSpec.post enc Try.prog Try.f3 false true false false) := by
  refine returnsInHanded_of_change (C := Try.checked) own started (by kernel_rfl) Try.func3
    (ChangeSpec.witness6 (enc := enc) (C := Try.checked) false ⟨#[], #[.slice none 0 0], []⟩ 8 (by kernel_rfl) (by kernel_rfl) (by kernel_rfl) (by kernel_rfl)) ?_
  intro W base args ds gs before hval0 hW hcnd _
  have hval : ∀ (j : Nat) t v, Try.f3.params[j]? = some t → args[j]? = some v → Value.okWide Try.prog W .any base t v := hval0
  have hW' := hW
  obtain ⟨p, q, hA0, hV, rfl, hfz, hnd⟩ := hW
  have hA : DataW.TrodAll enc Try.prog W 0 (fun _ => true) true Try.f3.params.toList args.toList ds p := hA0
  rw [Try.params3] at hA hval
  obtain ⟨v0, vs0, d0, ds0, p0, q0, hargs, rfl, rfl, h0, r0⟩ := trodAll_cons hA
  obtain ⟨rfl, rfl, rfl⟩ := trodAll_nil r0
  obtain rfl : args = #[v0] := by cases args; simp_all
  obtain ⟨rfl, rfl⟩ := trodVars_none hV
  have k0 := h0
  have lt0 : ∀ x ∈ p0, x.block < W.heap.size := by obtain ⟨m, hm⟩ := k0; exact DataW.trod_lt m _ _ _ hm
  obtain ⟨l0, hf0, hz0⟩ := open_acts (hval 0 22 v0 rfl rfl) h0
  clear hA0 hval0
  refine (walk v0 l0 W hf0 hz0).mono fun e W' ⟨he, bel⟩ => ?_
  subst he
  exact ⟨_, rfl, _, _, _, [], _, [], hW', trodAll_mk1 (shut_bool Try.underlying4 _), (trodAll_cons_mk (Below.trod laidOut (by kernel_rfl) (of_decide_eq_true (by kernel_rfl)) k0 bel lt0) trodAll_mk0), rfl, bel.frame _, fun h => by cases h⟩

theorem over : Rows.fnExactOpsOKRow.holds Try.pinned (OpenSpec.ofChange Rows.fnExactOpsOKSpec) :=
  OpenClaim.holds_of_wide 3 Try.f3 rfl rfl rfl rfl rfl rfl rfl ⟨rfl, rfl, rfl, rfl, rfl⟩ rfl rfl rfl rfl rfl (by kernel_rfl) Try.func3 (by kernel_rfl)
    (of_decide_eq_true (by kernel_rfl)) (by unfold Func.isWrapper; first | (rw [if_pos (by decide +kernel)]; kernel_rfl) | (rw [if_neg (by decide +kernel)]; exact ⟨rfl, rfl⟩))
    (fun os started H enc _ => lifted os started H enc)

end Go.Proofs.Ytdlligninjfajaa.fnExactOpsOK
namespace Go.Proofs.Ytdlligninjfajaa
theorem fnExactOpsOK_holds : Rows.FnExactOpsOKSaid := fnExactOpsOK.over
#print axioms fnExactOpsOK_holds
end Go.Proofs.Ytdlligninjfajaa
