/- For every list of acts and every list of numbers that can be read laws.FnExactOrderLegal returns true, and the lists read as they did. No condition. -/
import Derived.Test.YtdlligninjfajaaHiG
import Derived.Test.YtdlligninjfajaaCopI
import Derived.Test.YtdlligninjfajaaMarkI
namespace Go.Proofs.Ytdlligninjfajaa.fnExactOrderLegal
open Go.ChangeShapes Go.WideShapes Go.ChangeAt Go.RowKit
open Go.ChangeMaps (open_string shut_string)
set_option linter.unusedVariables false

set_option maxRecDepth 100000 in
set_option maxHeartbeats 4000000 in
theorem walk (v : Value) (l : List Op) (oa : Option Addr) (on oc : Nat) (zs : List Int) (w : World) (hf : Ops w v l) (hz : ∀ i, i < l.length → (Lit.int .i64 (l.getD i default).bg).wf = true ∧ (Lit.int .i64 (l.getD i default).en).wf = true ∧ (l.getD i default).va.size ≤ maxLen) (hR : IsRow .i64 w oa on oc zs) :
    Calls Try.prog 5 #[v, .slice oa on oc] w fun e w' => e = .returned (.bool true) ∧ Below w.heap.size w w' := by
  have hI := ints_of_row hR
  have hon : (zs.take on).length = on := by
    rcases hR with ⟨_, rfl, _, rfl⟩ | ⟨x, _, h1, h2, h3, _⟩
    · rfl
    · rw [List.length_take]; omega
  have hom : on ≤ 9223372036854775807 := by
    obtain ⟨a, c, e, hm, _⟩ := hI
    unfold maxLen at hm
    omega
  have HOD := hide hI
  have HON := hide hon
  have HF := hide hf
  have HZ := hide hz
  clear hf hz hR hI hon
  generalize zs.take on = od at *
  by_cases hbig : 1048576 < on
  · have hb2 : (1048576 : Int) < (on : Int) := by omega
    go_enter Try.func5, Try.ntmps5
    go_wp2_with fail
    go_ret
    exact ⟨rfl, Below.refl _ _⟩
  have hb2 : ¬ (1048576 : Int) < (on : Int) := by omega
  have HOL : Hid (od.length ≤ 1048576) := hide (by rw [unhide HON]; omega)
  go_enter Try.func5, Try.ntmps5
  go_wp2_with fail
  refine (szOpS_any 1048576 (by omega) (by omega) v l w (unhide HF) (fun i hi => (unhide HZ i hi).2.2)).mono ?_
  rintro e w1 ⟨rfl, hb1⟩
  have K1 := hide hb1
  clear hb1
  rcases oszR_cases 1048576 l with hr | ⟨hr, hrl⟩
  · rw [hr]
    go_wp2_with fail
    go_ret
    exact ⟨rfl, unhide K1⟩
  have HS := hide (osmall_of 1048576 (by omega) l hr).1
  generalize oszR 1048576 l = r at *
  have HSP := hide (fun (lv ov : Value) (wx : World) (h1 : Ops wx lv l) (h2 : Ints wx ov od) => specOrderLegal_any lv ov l od wx h1 (unhide HS) h2 (unhide HOL))
  have HIM := hide (fun (lv ov : Value) (wx : World) (h1 : Ops wx lv l) (h2 : Ints wx ov od) => implOrderLegal_any lv ov l od wx h1 (unhide HS) h2 (unhide HOL))
  have HTT := hide (fun (wx : World) (hb : Below w.heap.size w wx) => toOpS_any v l wx ((unhide HF).below hb) (unhide HS))
  have HTI := hide (fun (wx : World) (hb : Below w.heap.size w wx) => toIntS_any (.slice oa on oc) od wx ((unhide HOD).below hb) (unhide HOL))
  generalize olOut l od = out at *
  obtain ⟨p, cd⟩ := out
  dsimp only at HSP HIM
  have hr2 : ¬ r < 0 := by omega
  go_wp2_with fail
  refine (unhide HTT w1 (unhide K1)).mono ?_
  rintro e w2 ⟨rfl, hO2, hlt2, hb2⟩
  have K2 := hide ((unhide K1).trans (hb2.mono (unhide K1).size))
  have V2 := hide hO2
  clear hO2 hlt2 hb2 K1
  go_wp2_with fail
  refine (unhide HTI w2 (unhide K2)).mono ?_
  rintro e w3 ⟨ov3, rfl, hO3, hb3⟩
  have K3 := hide ((unhide K2).trans (hb3.mono (unhide K2).size))
  have V3 := hide ((unhide V2).below hb3)
  have I3 := hide hO3.ints
  clear hO3 hb3 K2 V2
  go_wp2_with fail
  refine (unhide HSP _ _ w3 (unhide V3).read (unhide I3)).mono ?_
  rintro e w4 ⟨rfl, hb4⟩
  have K4 := hide ((unhide K3).trans (hb4.mono (unhide K3).size))
  clear hb4 K3 V3 I3
  go_wp2_with fail
  refine (unhide HTT w4 (unhide K4)).mono ?_
  rintro e w5 ⟨rfl, hO5, hlt5, hb5⟩
  have K5 := hide ((unhide K4).trans (hb5.mono (unhide K4).size))
  have V5 := hide hO5
  clear hO5 hlt5 hb5 K4
  go_wp2_with fail
  refine (unhide HTI w5 (unhide K5)).mono ?_
  rintro e w6 ⟨ov6, rfl, hO6, hb6⟩
  have K6 := hide ((unhide K5).trans (hb6.mono (unhide K5).size))
  have V6 := hide ((unhide V5).below hb6)
  have I6 := hide hO6
  clear hO6 hb6 K5 V5
  go_wp2_with fail
  refine (unhide HIM _ _ w6 (unhide V6).read (unhide I6).ints).mono ?_
  rintro e w7 ⟨rfl, hb7⟩
  have K7 := hide ((unhide K6).trans (hb7.mono (unhide K6).size))
  have V7 := hide ((unhide V6).below hb7)
  have I7 := hide ((unhide I6).below hb7)
  clear hb7 K6 V6 I6
  have b1 : (p == p) = true := by simp
  have b2 : (p != p) = false := by simp
  have b3 : (cd == cd) = true := by simp
  have b4 : (cd != cd) = false := by simp
  go_wp2_with fail
  refine (unhide HTT w7 (unhide K7)).mono ?_
  rintro e w8 ⟨rfl, hO8, hlt8, hb8⟩
  have K8 := hide ((unhide K7).trans (hb8.mono (unhide K7).size))
  have V8 := hide ((unhide V7).below hb8)
  have I8 := hide ((unhide I7).below hb8)
  have HC := hide (eqOpS_any _ _ l w8 (unhide V8).read hO8.read (unhide HS))
  clear hO8 hb8 hlt8 K7 V7 I7
  go_wp2_with fail
  refine (unhide HC).mono ?_
  rintro e w9 ⟨rfl, hb9⟩
  have K9 := hide ((unhide K8).trans (hb9.mono (unhide K8).size))
  have I9 := hide ((unhide I8).below hb9)
  clear hb9 K8 V8 I8 HC
  go_wp2_with fail
  refine (unhide HTI w9 (unhide K9)).mono ?_
  rintro e w10 ⟨ov10, rfl, hO10, hb10⟩
  have K10 := hide ((unhide K9).trans (hb10.mono (unhide K9).size))
  have I10 := hide ((unhide I9).below hb10)
  have HC := hide (eqIntS_any _ _ od w10 (unhide I10).ints hO10.ints (unhide HOL))
  clear hO10 hb10 K9 I9
  go_wp2_with fail
  refine (unhide HC).mono ?_
  rintro e w11 ⟨rfl, n, rfl⟩
  have K11 := hide (below_drewN (unhide K10) n)
  clear K10 HC I10
  go_wp2_with fail
  go_ret
  exact ⟨rfl, unhide K11⟩

theorem own : ownKnob Try.prog.godebug = none := by kernel_rfl
theorem laidOut : laidOutB Try.prog = true := by kernel_rfl
set_option maxRecDepth 100000 in
theorem lifted (os : Os) (started : os.Started) (H : Type) (enc : TypeId × Value → H) :
    ReturnsInHanded {} Try.checked os 5 .any (Rows.fnExactOrderLegalSpec.pre6 enc Try.prog Try.f5 Rows.fnExactOrderLegalRow.domain false) (Rows.fnExactOrderLegalSpec.post enc Try.prog Try.f5 false true false false) := by
  refine returnsInHanded_of_change (C := Try.checked) own started (by kernel_rfl) Try.func5
    (ChangeSpec.witness6 (enc := enc) (C := Try.checked) false ⟨#[], #[.slice none 0 0, .slice none 0 0], []⟩ 8 (by kernel_rfl) (by kernel_rfl) (by kernel_rfl) (by kernel_rfl)) ?_
  intro W base args ds gs before hval0 hW hcnd _
  have hval : ∀ (j : Nat) t v, Try.f5.params[j]? = some t → args[j]? = some v → Value.okWide Try.prog W .any base t v := hval0
  have hW' := hW
  obtain ⟨p, q, hA0, hV, rfl, hfz, hnd⟩ := hW
  have hA : DataW.TrodAll enc Try.prog W 0 (fun _ => true) true Try.f5.params.toList args.toList ds p := hA0
  rw [Try.params5] at hA hval
  obtain ⟨v0, vs0, d0, ds0, p0, q0, hargs, rfl, rfl, h0, r0⟩ := trodAll_cons hA
  obtain ⟨v1, vs1, d1, ds1, p1, q1, rfl, rfl, rfl, h1, r1⟩ := trodAll_cons r0
  obtain ⟨rfl, rfl, rfl⟩ := trodAll_nil r1
  obtain rfl : args = #[v0, v1] := by cases args; simp_all
  obtain ⟨rfl, rfl⟩ := trodVars_none hV
  have k0 := h0
  have lt0 : ∀ x ∈ p0, x.block < W.heap.size := by obtain ⟨m, hm⟩ := k0; exact DataW.trod_lt m _ _ _ hm
  obtain ⟨l0, hf0, hz0⟩ := open_acts (hval 0 22 v0 rfl rfl) h0
  have k1 := h1
  have lt1 : ∀ x ∈ p1, x.block < W.heap.size := by obtain ⟨m, hm⟩ := k1; exact DataW.trod_lt m _ _ _ hm
  obtain ⟨a1, len1, cap1, rfl⟩ := okWide_slice Try.underlying35 (hval 1 35 v1 rfl rfl)
  obtain ⟨z1, w1⟩ : ∃ zs, IsRow .i64 W a1 len1 cap1 zs := by
    obtain ⟨fuel, hf⟩ := h1
    rcases open_ints Try.underlying35 Try.underlying3 (by kernel_rfl) hf with ⟨hcs, _⟩ | ⟨x, l, c, zs, hcs, _, hl, hm, hz, _, hcell, hwz⟩
    · simp [Value.cells] at hcs
      obtain ⟨rfl, rfl, rfl⟩ := hcs
      exact ⟨[], .inl ⟨rfl, rfl, rfl, rfl⟩⟩
    · simp [Value.cells] at hcs
      obtain ⟨rfl, rfl, rfl⟩ := hcs
      exact ⟨zs, .inr ⟨_, rfl, hl, hm, by simpa using hz, hcell, hwz⟩⟩
  clear hA0 hval0
  refine (walk v0 l0 a1 len1 cap1 z1 W hf0 hz0 w1).mono fun e W' ⟨he, bel⟩ => ?_
  subst he
  exact ⟨_, rfl, _, _, _, [], _, [], hW', trodAll_mk1 (shut_bool Try.underlying4 _), (trodAll_cons_mk (Below.trod laidOut (by kernel_rfl) (of_decide_eq_true (by kernel_rfl)) k0 bel lt0) (trodAll_cons_mk (Below.trod laidOut (by kernel_rfl) (of_decide_eq_true (by kernel_rfl)) k1 bel lt1) trodAll_mk0)), rfl, bel.frame _, fun h => by cases h⟩

theorem over : Rows.fnExactOrderLegalRow.holds Try.pinned (OpenSpec.ofChange Rows.fnExactOrderLegalSpec) :=
  OpenClaim.holds_of_wide 5 Try.f5 rfl rfl rfl rfl rfl rfl rfl ⟨rfl, rfl, rfl, rfl, rfl⟩ rfl rfl rfl rfl rfl (by kernel_rfl) Try.func5 (by kernel_rfl)
    (of_decide_eq_true (by kernel_rfl)) (by unfold Func.isWrapper; first | (rw [if_pos (by decide +kernel)]; kernel_rfl) | (rw [if_neg (by decide +kernel)]; exact ⟨rfl, rfl⟩))
    (fun os started H enc _ => lifted os started H enc)

end Go.Proofs.Ytdlligninjfajaa.fnExactOrderLegal
namespace Go.Proofs.Ytdlligninjfajaa
theorem fnExactOrderLegal_holds : Rows.FnExactOrderLegalSaid := fnExactOrderLegal.over
#print axioms fnExactOrderLegal_holds
end Go.Proofs.Ytdlligninjfajaa
