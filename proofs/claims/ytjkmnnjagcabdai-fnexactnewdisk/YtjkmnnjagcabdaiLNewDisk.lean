/- For every number, laws.FnExactNewDisk returns true. No condition. -/
import Derived.Test.YtjkmnnjagcabdaiIn
import Derived.Test.YtjkmnnjagcabdaiBlk
namespace Go.Proofs.Ytjkmnnjagcabdai.fnExactNewDisk
open Go.ChangeShapes Go.WideShapes Go.ChangeAt Go.RowKit
open Go.ChangeMaps (open_string shut_string)
set_option linter.unusedVariables false

/-- The value is a slice of no files. -/
def NoF (v : Value) : Prop := v = .slice none 0 0 ∨ ∃ g, v = .slice (some ⟨g, 0, none⟩) 0 0
theorem NoF.form {v : Value} (h : NoF v) : ∃ a, v = .slice a 0 0 := by
  rcases h with rfl | ⟨g, rfl⟩
  · exact ⟨_, rfl⟩
  · exact ⟨_, rfl⟩
def ndOut (room : Int) : Int × Int := if inB room 0 3000 then (room, 0) else (0, 4)
set_option maxRecDepth 100000 in
set_option maxHeartbeats 1000000 in
theorem specNewDisk_any (room : Int) (w : World) :
    Calls Try.prog 31 #[.int .i64 room] w fun e w' => ∃ v, e = .returned (.tuple #[.agg #[.int .i64 (ndOut room).1, v], .int .i64 (ndOut room).2]) ∧ NoF v ∧ Below w.heap.size w w' := by
  rcases Bool.eq_false_or_eq_true (inB room 0 3000) with hin | hin
  · have HU : Hid (ndOut room = (room, 0)) := hide (by unfold ndOut; rw [if_pos hin])
    go_enter Try.func31, Try.ntmps31
    go_wp2_with (go_at_call 48; refine (l01In_any _ _ _ _).mono ?_; rintro e w' ⟨rfl, hw'⟩; have hw2 := hw'.symm; clear hw'; subst hw2)
    refine bodyPost_ret (v := .tuple #[.agg #[.int .i64 room, .slice (some ⟨w.heap.size + 1, 0, none⟩) 0 0], .int .i64 0]) (by simp [results, Try.results31, go_sem]) rfl ?_
    rw [unhide HU]
    exact ⟨_, rfl, .inr ⟨_, rfl⟩, ((Below.refl _ _).alloc (Nat.le_refl _) _).alloc (by simp) _⟩
  · have HU : Hid (ndOut room = (0, 4)) := hide (by unfold ndOut; rw [if_neg (by simp [hin])])
    go_enter Try.func31, Try.ntmps31
    go_wp2_with (go_at_call 48; refine (l01In_any _ _ _ _).mono ?_; rintro e w' ⟨rfl, hw'⟩; have hw2 := hw'.symm; clear hw'; subst hw2)
    refine bodyPost_ret (v := .tuple #[.agg #[.int .i64 0, .slice none 0 0], .int .i64 4]) (by simp [results, Try.results31, go_sem]) rfl ?_
    rw [unhide HU]
    exact ⟨_, rfl, .inl rfl, (Below.refl _ _).alloc (Nat.le_refl _) _⟩
set_option maxRecDepth 100000 in
set_option maxHeartbeats 1000000 in
theorem implNewDisk_any (room : Int) (w : World) :
    Calls Try.prog 32 #[.int .i64 room] w fun e w' => ∃ v, e = .returned (.tuple #[.agg #[.int .i64 (ndOut room).1, v], .int .i64 (ndOut room).2]) ∧ NoF v ∧ Below w.heap.size w w' := by
  rcases Bool.eq_false_or_eq_true (inB room 0 3000) with hin | hin
  · have HU : Hid (ndOut room = (room, 0)) := hide (by unfold ndOut; rw [if_pos hin])
    go_enter Try.func32, Try.ntmps32
    go_wp2_with (go_at_call 41; refine (within_any _ _ _ _).mono ?_; rintro e w' ⟨rfl, hw'⟩; have hw2 := hw'.symm; clear hw'; subst hw2)
    refine bodyPost_ret (v := .tuple #[.agg #[.int .i64 room, .slice none 0 0], .int .i64 0]) (by simp [results, Try.results32, go_sem]) rfl ?_
    rw [unhide HU]
    exact ⟨_, rfl, .inl rfl, (Below.refl _ _).alloc (Nat.le_refl _) _⟩
  · have HU : Hid (ndOut room = (0, 4)) := hide (by unfold ndOut; rw [if_neg (by simp [hin])])
    go_enter Try.func32, Try.ntmps32
    go_wp2_with (go_at_call 41; refine (within_any _ _ _ _).mono ?_; rintro e w' ⟨rfl, hw'⟩; have hw2 := hw'.symm; clear hw'; subst hw2)
    refine bodyPost_ret (v := .tuple #[.agg #[.int .i64 0, .slice none 0 0], .int .i64 4]) (by simp [results, Try.results32, go_sem]) rfl ?_
    rw [unhide HU]
    exact ⟨_, rfl, .inl rfl, (Below.refl _ _).alloc (Nat.le_refl _) _⟩
set_option maxRecDepth 100000 in
set_option maxHeartbeats 1000000 in
theorem eqFileS_no (v v2 : Value) (w : World) (h : NoF v) (h2 : NoF v2) :
    Calls Try.prog 51 #[v, v2] w fun e w' => e = .returned (.bool true) ∧ w' = w := by
  rcases h with rfl | ⟨g, rfl⟩ <;> rcases h2 with rfl | ⟨g2, rfl⟩
  all_goals
    go_enter Try.func51, Try.ntmps51
    go_wp2_with fail
    go_loop [5] (fun i => i = .int .i64 0) (fun _ => 0)
    case atStart => rfl
    case round =>
      subst hrel
      go_wp2_with fail
      go_ret
      exact ⟨rfl, rfl⟩
set_option maxRecDepth 100000 in
set_option maxHeartbeats 1000000 in
theorem eqDisk_no (room : Int) (v v2 : Value) (w : World) (h : NoF v) (h2 : NoF v2) :
    Calls Try.prog 33 #[.agg #[.int .i64 room, v], .agg #[.int .i64 room, v2]] w fun e w' => e = .returned (.bool true) ∧ Below w.heap.size w w' := by
  have H := hide h
  have H2 := hide h2
  rcases h with rfl | ⟨g, rfl⟩ <;> rcases h2 with rfl | ⟨g2, rfl⟩
  all_goals
    go_enter Try.func33, Try.ntmps33
    go_wp2_with fail
    refine (eqFileS_no _ _ _ (unhide H) (unhide H2)).mono ?_
    rintro e w1 ⟨rfl, rfl⟩
    go_wp2_with fail
    go_ret
    exact ⟨rfl, ((Below.refl _ _).alloc (Nat.le_refl _) _).alloc (by simp) _⟩
set_option maxRecDepth 100000 in
set_option maxHeartbeats 1000000 in
theorem markFileS_no (v : Value) (w : World) (h : NoF v) :
    Calls Try.prog 52 #[v, .int .i64 1] w fun e w' => e = .returned (.int .i64 1) ∧ w' = w := by
  rcases h with rfl | ⟨g, rfl⟩
  all_goals
    go_enter Try.func52, Try.ntmps52
    go_wp2_with fail
    go_loop [1, 5] (fun k i => k = .int .i64 1 ∧ i = .int .i64 0) (fun _ _ => 0)
    case atStart => exact ⟨rfl, rfl⟩
    case round =>
      obtain ⟨rfl, rfl⟩ := hrel
      go_wp2_with fail
      go_ret
      exact ⟨rfl, rfl⟩
set_option maxRecDepth 100000 in
set_option maxHeartbeats 1000000 in
theorem markDisk_no (room : Int) (v : Value) (w : World) (h : NoF v) :
    Calls Try.prog 34 #[.agg #[.int .i64 room, v], .int .i64 1] w fun e w' => e = .returned (.int .i64 1) ∧ Below w.heap.size w w' := by
  have H := hide h
  rcases h with rfl | ⟨g, rfl⟩
  all_goals
    go_enter Try.func34, Try.ntmps34
    go_wp2_with fail
    refine (markFileS_no _ _ (unhide H)).mono ?_
    rintro e w1 ⟨rfl, rfl⟩
    go_wp2_with fail
    go_ret
    exact ⟨rfl, (Below.refl _ _).alloc (Nat.le_refl _) _⟩
set_option maxRecDepth 100000 in
set_option maxHeartbeats 1000000 in
theorem heldFileS_no (v : Value) (w : World) (h : NoF v) :
    Calls Try.prog 53 #[v, .int .i64 1] w fun e w' => e = .returned (.int .i64 1) ∧ w' = w := by
  rcases h with rfl | ⟨g, rfl⟩
  all_goals
    go_enter Try.func53, Try.ntmps53
    go_wp2_with fail
    go_loop [1, 5] (fun k i => k = .int .i64 1 ∧ i = .int .i64 0) (fun _ _ => 0)
    case atStart => exact ⟨rfl, rfl⟩
    case round =>
      obtain ⟨rfl, rfl⟩ := hrel
      go_wp2_with fail
      go_ret
      exact ⟨rfl, rfl⟩
set_option maxRecDepth 100000 in
set_option maxHeartbeats 1000000 in
theorem heldDisk_no (room : Int) (v : Value) (w : World) (h : NoF v) :
    Calls Try.prog 35 #[.agg #[.int .i64 room, v], .int .i64 1] w fun e w' => e = .returned (.int .i64 1) ∧ Below w.heap.size w w' := by
  have H := hide h
  rcases h with rfl | ⟨g, rfl⟩
  all_goals
    go_enter Try.func35, Try.ntmps35
    go_wp2_with fail
    refine (heldFileS_no _ _ (unhide H)).mono ?_
    rintro e w1 ⟨rfl, rfl⟩
    go_wp2_with fail
    go_ret
    exact ⟨rfl, (Below.refl _ _).alloc (Nat.le_refl _) _⟩
set_option maxRecDepth 100000 in
set_option maxHeartbeats 2000000 in
theorem walk (room : Int) (w : World) (hr : (Lit.int .i64 room).wf = true) :
    Calls Try.prog 8 #[.int .i64 room] w fun e w' => e = .returned (.bool true) ∧ Below w.heap.size w w' := by
  clear hr
  go_enter Try.func8, Try.ntmps8
  go_wp2_with fail
  refine (specNewDisk_any room _).mono ?_
  rintro e w1 ⟨v1, rfl, hN1, hb1⟩
  obtain ⟨q, hq⟩ : ∃ q, q = ndOut room := ⟨_, rfl⟩
  rw [← hq]
  have HQ := hide hq
  clear hq
  obtain ⟨q1, q2⟩ := q
  dsimp only
  obtain ⟨a1, rfl⟩ := hN1.form
  have B1 := (Below.refl w1.heap.size w1).alloc (Nat.le_refl _) (.cells #[.int .i64 q1, .slice a1 0 0] 51)
  have K1 := hide (hb1.trans (B1.mono hb1.size))
  have X1 := hide (Blk.new w1 #[.int .i64 q1, .slice a1 0 0] 51 w1.heap.size rfl)
  have N1 := hide hN1
  clear hb1 hN1 B1
  go_wp2_with fail
  generalize w1.alloc (.cells #[.int .i64 q1, .slice a1 0 0] 51) = w1b at *
  generalize w1.heap.size = bw at *
  refine (implNewDisk_any room _).mono ?_
  rintro e w2 ⟨v2, rfl, hN2, hb2⟩
  rw [← unhide HQ]
  dsimp only
  obtain ⟨a2, rfl⟩ := hN2.form
  have B2 := (Below.refl w2.heap.size w2).alloc (Nat.le_refl _) (.cells #[.int .i64 q1, .slice a2 0 0] 51)
  have K2 := hide ((unhide K1).trans ((hb2.mono (unhide K1).size).trans (B2.mono (Nat.le_trans (unhide K1).size hb2.size))))
  have X2 := hide (((unhide X1).below hb2).below B2)
  have Y2 := hide (Blk.new w2 #[.int .i64 q1, .slice a2 0 0] 51 w2.heap.size rfl)
  have N2 := hide hN2
  have x0 := (unhide X2).cell 0 rfl
  have x1 := (unhide X2).cell 1 rfl
  have y0 := (unhide Y2).cell 0 rfl
  have y1 := (unhide Y2).cell 1 rfl
  clear hb2 hN2 B2 K1 X1
  go_wp2_with fail
  generalize w2.alloc (.cells #[.int .i64 q1, .slice a2 0 0] 51) = w2b at *
  generalize w2.heap.size = bg at *
  refine (eqDisk_no q1 _ _ _ (unhide N2) (unhide N1)).mono ?_
  rintro e w3 ⟨rfl, hb3⟩
  have K3 := hide ((unhide K2).trans (hb3.mono (unhide K2).size))
  have X3 := hide ((unhide X2).below hb3)
  have Y3 := hide ((unhide Y2).below hb3)
  clear hb3 K2 X2 Y2 x0 x1 y0 y1
  have x0 := (unhide X3).cell 0 rfl
  have x1 := (unhide X3).cell 1 rfl
  have y0 := (unhide Y3).cell 0 rfl
  have y1 := (unhide Y3).cell 1 rfl
  go_wp2_with fail
  refine (markDisk_no q1 _ _ (unhide N2)).mono ?_
  rintro e w4 ⟨rfl, hb4⟩
  have K4 := hide ((unhide K3).trans (hb4.mono (unhide K3).size))
  have X4 := hide ((unhide X3).below hb4)
  have Y4 := hide ((unhide Y3).below hb4)
  clear hb4 K3 X3 Y3 x0 x1 y0 y1
  have x0 := (unhide X4).cell 0 rfl
  have x1 := (unhide X4).cell 1 rfl
  have y0 := (unhide Y4).cell 0 rfl
  have y1 := (unhide Y4).cell 1 rfl
  go_wp2_with fail
  refine (heldDisk_no q1 _ _ (unhide N2)).mono ?_
  rintro e w5 ⟨rfl, hb5⟩
  have K5 := hide ((unhide K4).trans (hb5.mono (unhide K4).size))
  have X5 := hide ((unhide X4).below hb5)
  have Y5 := hide ((unhide Y4).below hb5)
  clear hb5 K4 X4 Y4 x0 x1 y0 y1
  have x0 := (unhide X5).cell 0 rfl
  have x1 := (unhide X5).cell 1 rfl
  have y0 := (unhide Y5).cell 0 rfl
  have y1 := (unhide Y5).cell 1 rfl
  go_wp2_with fail
  refine (implNewDisk_any room _).mono ?_
  rintro e w6 ⟨v6, rfl, hN6, hb6⟩
  rw [← unhide HQ]
  dsimp only
  obtain ⟨a6, rfl⟩ := hN6.form
  have B6 := (Below.refl w6.heap.size w6).alloc (Nat.le_refl _) (.cells #[.int .i64 q1, .slice a6 0 0] 51)
  have K6 := hide ((unhide K5).trans ((hb6.mono (unhide K5).size).trans (B6.mono (Nat.le_trans (unhide K5).size hb6.size))))
  have X6 := hide (((unhide X5).below hb6).below B6)
  have Y6 := hide (((unhide Y5).below hb6).below B6)
  have Z6 := hide (Blk.new w6 #[.int .i64 q1, .slice a6 0 0] 51 w6.heap.size rfl)
  have N6 := hide hN6
  clear x0 x1 y0 y1
  have x0 := (unhide X6).cell 0 rfl
  have x1 := (unhide X6).cell 1 rfl
  have y0 := (unhide Y6).cell 0 rfl
  have y1 := (unhide Y6).cell 1 rfl
  have z0 := (unhide Z6).cell 0 rfl
  have z1 := (unhide Z6).cell 1 rfl
  clear hb6 hN6 B6 K5 X5 Y5
  go_wp2_with fail
  generalize w6.alloc (.cells #[.int .i64 q1, .slice a6 0 0] 51) = w6b at *
  generalize w6.heap.size = bh at *
  refine (eqDisk_no q1 _ _ _ (unhide N6) (unhide N1)).mono ?_
  rintro e w7 ⟨rfl, hb7⟩
  have K7 := hide ((unhide K6).trans (hb7.mono (unhide K6).size))
  have Y7 := hide ((unhide Y6).below hb7)
  clear hb7 K6 X6 Y6 Z6 x0 x1 y0 y1 z0 z1
  have y0 := (unhide Y7).cell 0 rfl
  have y1 := (unhide Y7).cell 1 rfl
  go_wp2_with fail
  refine (heldDisk_no q1 _ _ (unhide N2)).mono ?_
  rintro e w8 ⟨rfl, hb8⟩
  have K8 := hide ((unhide K7).trans (hb8.mono (unhide K7).size))
  clear hb8 K7 Y7 y0 y1
  go_wp2_with fail
  go_ret
  exact ⟨rfl, unhide K8⟩

theorem own : ownKnob Try.prog.godebug = none := by kernel_rfl
theorem laidOut : laidOutB Try.prog = true := by kernel_rfl
set_option maxRecDepth 100000 in
theorem lifted (os : Os) (started : os.Started) (H : Type) (enc : TypeId × Value → H) :
    ReturnsInHanded {} Try.checked os 8 .any (Rows.fnExactNewDiskSpec.pre6 enc Try.prog Try.f8 Rows.fnExactNewDiskRow.domain false) (Rows.fnExactNewDiskSpec.post enc Try.prog Try.f8 false true false false) := by
  refine returnsInHanded_of_change (C := Try.checked) own started (by kernel_rfl) Try.func8
    (ChangeSpec.witness6 (enc := enc) (C := Try.checked) false ⟨#[], #[.int .i64 0], []⟩ 8 (by kernel_rfl) (by kernel_rfl) (by kernel_rfl) (by kernel_rfl)) ?_
  intro W base args ds gs before hval0 hW hcnd _
  have hval : ∀ (j : Nat) t v, Try.f8.params[j]? = some t → args[j]? = some v → Value.okWide Try.prog W .any base t v := hval0
  have hW' := hW
  obtain ⟨p, q, hA0, hV, rfl, hfz, hnd⟩ := hW
  have hA : DataW.TrodAll enc Try.prog W 0 (fun _ => true) true Try.f8.params.toList args.toList ds p := hA0
  rw [Try.params8] at hA hval
  obtain ⟨v0, vs0, d0, ds0, p0, q0, hargs, rfl, rfl, h0, r0⟩ := trodAll_cons hA
  obtain ⟨rfl, rfl, rfl⟩ := trodAll_nil r0
  obtain rfl : args = #[v0] := by cases args; simp_all
  obtain ⟨rfl, rfl⟩ := trodVars_none hV
  have k0 := h0
  have lt0 : ∀ x ∈ p0, x.block < W.heap.size := by obtain ⟨m, hm⟩ := k0; exact DataW.trod_lt m _ _ _ hm
  obtain ⟨a0, rfl, _, _, w0⟩ := open_int Try.underlying3 (hval 0 3 v0 rfl rfl) h0
  clear hA0 hval0
  refine (walk a0 W w0).mono fun e W' ⟨he, bel⟩ => ?_
  subst he
  exact ⟨_, rfl, _, _, _, [], _, [], hW', trodAll_mk1 (shut_bool Try.underlying4 _), (trodAll_cons_mk (Below.trod laidOut (by kernel_rfl) (of_decide_eq_true (by kernel_rfl)) k0 bel lt0) trodAll_mk0), rfl, bel.frame _, fun h => by cases h⟩

theorem over : Rows.fnExactNewDiskRow.holds Try.pinned (OpenSpec.ofChange Rows.fnExactNewDiskSpec) :=
  OpenClaim.holds_of_wide 8 Try.f8 rfl rfl rfl rfl rfl rfl rfl ⟨rfl, rfl, rfl, rfl, rfl⟩ rfl rfl rfl rfl rfl (by kernel_rfl) Try.func8 (by kernel_rfl)
    (of_decide_eq_true (by kernel_rfl)) (by unfold Func.isWrapper; first | (rw [if_pos (by decide +kernel)]; kernel_rfl) | (rw [if_neg (by decide +kernel)]; exact ⟨rfl, rfl⟩))
    (fun os started H enc _ => lifted os started H enc)

end Go.Proofs.Ytjkmnnjagcabdai.fnExactNewDisk
namespace Go.Proofs.Ytjkmnnjagcabdai
theorem fnExactNewDisk_holds : Rows.FnExactNewDiskSaid := fnExactNewDisk.over
#print axioms fnExactNewDisk_holds
end Go.Proofs.Ytjkmnnjagcabdai
