/- For every number, laws.FnExactSegmentName returns true. No condition. -/
import Derived.Test.YtmjbcepkfgfdmajSeg
import Derived.Test.YtmjbcepkfgfdmajLawG
import Derived.Laws.Cover1
namespace Go.Proofs.Ytmjbcepkfgfdmaj.fnExactSegmentName
open Go.ChangeShapes Go.WideShapes Go.ChangeAt Go.RowKit
open Go.ChangeMaps (open_string shut_string)
set_option linter.unusedVariables false

set_option maxRecDepth 100000 in
set_option maxHeartbeats 2000000 in
theorem walk (q1 : Int) (w : World) (w0 : (Lit.int .i64 q1).wf = true) :
    Calls Try.prog 6 #[.int .i64 q1] w fun e w' => e = .returned (.bool true) ∧ Below w.heap.size w w' := by
  go_enter Try.func6, Try.ntmps6
  go_wp2_with fail
  refine (specSegmentName_any q1 _).mono ?_
  rintro e w1 ⟨rfl, hb1⟩
  have B1 := hide hb1
  clear hb1
  obtain ⟨t, ht⟩ : ∃ t, t = segT q1 := ⟨_, rfl⟩
  obtain ⟨c, hc⟩ : ∃ c, c = segC q1 := ⟨_, rfl⟩
  rw [← ht, ← hc]
  have HT := hide ht
  have HC := hide hc
  have hts : t.size ≤ 3 := by
    rw [ht]; unfold segT; split
    · unfold segN; rw [strOfNums_size]; simp
    · decide
  clear ht hc
  go_wp2_with fail
  refine (implSegmentName_any q1 _).mono ?_
  rintro e w2 ⟨rfl, hb2⟩
  have B2 := hide ((unhide B1).trans (hb2.mono (unhide B1).size))
  clear hb2 B1
  rw [← unhide HT, ← unhide HC]
  clear HT HC
  go_wp2_with fail
  go_ret
  exact ⟨rfl, unhide B2⟩

theorem own : ownKnob Try.prog.godebug = none := by kernel_rfl
theorem laidOut : laidOutB Try.prog = true := by kernel_rfl
set_option maxRecDepth 100000 in
theorem lifted (os : Os) (started : os.Started) (H : Type) (enc : TypeId × Value → H) :
    ReturnsInHanded {} Try.checked os 6 .any (Rows.fnExactSegmentNameSpec.pre6 enc Try.prog Try.f6 Rows.fnExactSegmentNameRow.domain false) (Rows.fnExactSegmentNameSpec.post enc Try.prog Try.f6 false true false false) := by
  refine returnsInHanded_of_change (C := Try.checked) own started (by kernel_rfl) Try.func6
    (ChangeSpec.witness6 (enc := enc) (C := Try.checked) false ⟨#[], #[.int .i64 0], []⟩ 8 (by kernel_rfl) (by kernel_rfl) (by kernel_rfl) (by kernel_rfl)) ?_
  intro W base args ds gs before hval0 hW hcnd _
  have hval : ∀ (j : Nat) t v, Try.f6.params[j]? = some t → args[j]? = some v → Value.okWide Try.prog W .any base t v := hval0
  have hW' := hW
  obtain ⟨p, q, hA0, hV, rfl, hfz, hnd⟩ := hW
  have hA : DataW.TrodAll enc Try.prog W 0 (fun _ => true) true Try.f6.params.toList args.toList ds p := hA0
  rw [Try.params6] at hA hval
  obtain ⟨v0, vs0, d0, ds0, p0, q0, hargs, rfl, rfl, h0, r0⟩ := trodAll_cons hA
  obtain ⟨rfl, rfl, rfl⟩ := trodAll_nil r0
  obtain rfl : args = #[v0] := by cases args; simp_all
  obtain ⟨rfl, rfl⟩ := trodVars_none hV
  have k0 := h0
  have lt0 : ∀ x ∈ p0, x.block < W.heap.size := by obtain ⟨m, hm⟩ := k0; exact DataW.trod_lt m _ _ _ hm
  obtain ⟨a0, rfl, _, _, w0⟩ := open_int Try.underlying3 (hval 0 3 v0 rfl rfl) h0
  clear hA0 hval0
  refine (walk a0 W w0).mono fun e W' ⟨he, bel⟩ => ?_
  subst he
  exact ⟨_, rfl, _, _, _, [], _, [], hW', trodAll_mk1 (shut_bool Try.underlying4 _), (trodAll_cons_mk (Below.trod laidOut (by kernel_rfl) (of_decide_eq_true (by kernel_rfl)) k0 bel lt0) trodAll_mk0), rfl, bel.frame _, fun h => by cases h⟩

theorem over : Rows.fnExactSegmentNameRow.holds Try.pinned (OpenSpec.ofChange Rows.fnExactSegmentNameSpec) :=
  OpenClaim.holds_of_wide 6 Try.f6 rfl rfl rfl rfl rfl rfl rfl ⟨rfl, rfl, rfl, rfl, rfl⟩ rfl rfl rfl rfl rfl (by kernel_rfl) Try.func6 (by kernel_rfl)
    (of_decide_eq_true (by kernel_rfl)) (by unfold Func.isWrapper; first | (rw [if_pos (by decide +kernel)]; kernel_rfl) | (rw [if_neg (by decide +kernel)]; exact ⟨rfl, rfl⟩))
    (fun os started H enc _ => lifted os started H enc)

end Go.Proofs.Ytmjbcepkfgfdmaj.fnExactSegmentName
namespace Go.Proofs.Ytmjbcepkfgfdmaj
theorem fnExactSegmentName_holds : Rows.FnExactSegmentNameSaid := fnExactSegmentName.over
#print axioms fnExactSegmentName_holds
end Go.Proofs.Ytmjbcepkfgfdmaj
