/- For every statement that can be read, laws.FnExactStatementText returns true, and the statement reads as it did. Condition: the listed tables start as the program's text lays them (the card ties them). -/
import Derived.Test.YtinpoaghedhknaaDoorStmT
import Derived.LaidMore
import Derived.Stop.Joined
import Derived.Lib.LaidTab
import Derived.ChangeVars
import Derived.Test.YtinpoaghedhknaaDoorCards
import Derived.Test.YtinpoaghedhknaaDoorTie
namespace Go.Proofs.YtinpoaghedhknaaDoor.fnExactStatementText
open Go.ChangeShapes Go.WideShapes Go.ChangeAt Go.RowKit
open Go.ChangeMaps (open_string shut_string)
set_option linter.unusedVariables false

set_option maxRecDepth 100000 in
set_option maxHeartbeats 2000000 in
theorem walk (z : Int) (lg mp : ByteArray) (w : World) (wz : (Lit.int .i64 z).wf = true) (hl : lg.size ≤ maxLen) (hm : mp.size ≤ maxLen) :
    Calls Tryd.prog 4 #[.agg #[.int .i64 z, .string lg, .string mp]] w fun e w' => e = .returned (.bool true) ∧ Below w.heap.size w w' := by
  have B0 := hide ((Below.refl w.heap.size w).alloc (Nat.le_refl _) (.cells #[.int .i64 z, .string lg, .string mp] 42))
  have X0 := hide (Blk.new w #[.int .i64 z, .string lg, .string mp] 42 w.heap.size rfl)
  have HY := hide (fun h h2 wx => szStatement_yes z 1048576 lg mp wx (by omega) (by omega) h h2)
  have HN := hide (fun h wx => szStatement_no z 1048576 lg mp wx (by omega) (by omega) hl hm h)
  have HT := hide (fun wx => toStatement_any z lg mp wx)
  have HS := hide (fun wx => specStmT_any z lg mp wx hl hm)
  have HI := hide (fun wx => implStmT_any z lg mp wx hl hm)
  clear wz hl hm
  generalize stmOut z lg mp = out at *
  obtain ⟨o1, o2⟩ := out
  dsimp only at HS HI
  by_cases h : (lg.size : Int) + (mp.size : Int) ≤ 1048576
  · have HY := hide (unhide HY (by omega) h)
    have hr : ¬ (1048576 - (lg.size : Int) - (mp.size : Int)) < 0 := by omega
    go_enter Tryd.func4, Tryd.ntmps4
    go_wp2_with fail
    generalize w.alloc (.cells #[.int .i64 z, .string lg, .string mp] 42) = w0 at *
    refine (unhide HY _).mono ?_
    rintro e w1 ⟨rfl, hb1⟩
    have B1 := hide ((unhide B0).trans (hb1.mono (unhide B0).size))
    have X1 := hide ((unhide X0).below hb1)
    have c0 := (unhide X1).cell 0 rfl
    have c1 := (unhide X1).cell 1 rfl
    have c2 := (unhide X1).cell 2 rfl
    clear hb1 B0 X0
    generalize (1048576 - (lg.size : Int) - (mp.size : Int)) = r at *
    go_wp2_with fail
    refine (unhide HT _).mono ?_
    rintro e w2 ⟨rfl, hb2⟩
    have B2 := hide ((unhide B1).trans (hb2.mono (unhide B1).size))
    have X2 := hide ((unhide X1).below hb2)
    clear hb2 c0 c1 c2 B1 X1
    go_wp2_with fail
    refine (unhide HS _).mono ?_
    rintro e w3 ⟨rfl, hb3⟩
    have B3 := hide ((unhide B2).trans (hb3.mono (unhide B2).size))
    have X3 := hide ((unhide X2).below hb3)
    have c0 := (unhide X3).cell 0 rfl
    have c1 := (unhide X3).cell 1 rfl
    have c2 := (unhide X3).cell 2 rfl
    clear hb3 B2 X2
    go_wp2_with fail
    refine (unhide HT _).mono ?_
    rintro e w4 ⟨rfl, hb4⟩
    have B4 := hide ((unhide B3).trans (hb4.mono (unhide B3).size))
    clear hb4 c0 c1 c2 B3 X3
    go_wp2_with fail
    refine (unhide HI _).mono ?_
    rintro e w5 ⟨rfl, hb5⟩
    have B5 := hide ((unhide B4).trans (hb5.mono (unhide B4).size))
    clear hb5 B4
    go_wp2_with fail
    go_ret
    exact ⟨rfl, unhide B5⟩
  · have HN := hide (unhide HN (by omega))
    go_enter Tryd.func4, Tryd.ntmps4
    go_wp2_with fail
    refine (unhide HN _).mono ?_
    rintro e w1 ⟨rfl, hb1⟩
    have B1 := hide ((unhide B0).trans (hb1.mono (by simp)))
    clear hb1
    go_wp2_with fail
    go_ret
    exact ⟨rfl, unhide B1⟩

theorem own : ownKnob Tryd.prog.godebug = none := by kernel_rfl
theorem laidOut : laidOutB Tryd.prog = true := by kernel_rfl
theorem door_met (os : Os) (args : Array Value) : laidMetH Tryd.prog Rows.fnExactStatementTextRow.laid ((World.doorLaid Tryd.prog 34 os).forCall (fun _ _ => 0) ⟨#[], args, []⟩).memory :=
  laidMetH_of_parts3 (fuel := 8) (laidMet_of_run' 8 (by kernel_rfl) (by kernel_rfl)) (by kernel_rfl) (by kernel_rfl)
set_option maxRecDepth 100000 in
theorem lifted (os : Os) (started : os.Started) (H : Type) (enc : TypeId × Value → H) :
    ReturnsInHanded {} Tryd.checked os 4 .any (fun w args => (Rows.fnExactStatementTextSpec.pre enc Tryd.prog Tryd.f4 [] false w args ∧ laidMetH Tryd.prog Rows.fnExactStatementTextRow.laid w) ∧ sizedMet enc Tryd.prog Tryd.f4 (OpenSpec.ofChange Rows.fnExactStatementTextSpec) false w args)
      (Rows.fnExactStatementTextSpec.post enc Tryd.prog Tryd.f4 false true false false) := by
  refine returnsInHanded_of_change_and (C := Tryd.checked) (X := fun w _ => laidMetH Tryd.prog Rows.fnExactStatementTextRow.laid w) (fun _ _ _ hh h => h.of_heap hh) own started (by kernel_rfl) Tryd.func4
    (ChangeSpec.witness_shaped (enc := enc) (C := Tryd.checked) (os := os) (X := fun w _ => laidMetH Tryd.prog Rows.fnExactStatementTextRow.laid w) false (World.doorLaid Tryd.prog 34 os) #[.agg #[.int .i64 0, .string ByteArray.empty, .string ByteArray.empty]] 8 rfl (World.shaped_of_RefB (by kernel_rfl) (by kernel_rfl)) (by kernel_rfl) (by kernel_rfl) (by kernel_rfl) (door_met os _)) ?_
  intro W base args ds gs before hval0 hW _ _ hL _
  have hval : ∀ (j : Nat) t v, Tryd.f4.params[j]? = some t → args[j]? = some v → Value.okWide Tryd.prog W .any base t v := hval0
  have hW' := hW
  obtain ⟨p, q, hA0, hV0, rfl, hfz, hnd⟩ := hW
  have hA : DataW.TrodAll enc Tryd.prog W 0 (fun _ => true) true Tryd.f4.params.toList args.toList ds p := hA0
  have hV : DataW.TrodVars enc Tryd.prog W (fun _ => true) [] gs q := hV0
  obtain ⟨rfl, rfl⟩ := trodVars_none hV
  rw [Tryd.params4] at hA hval
  obtain ⟨v0, vs0, d0, ds0, p0, q0, hargs, rfl, rfl, h0, r0⟩ := trodAll_cons hA
  obtain ⟨rfl, rfl, rfl⟩ := trodAll_nil r0
  obtain rfl : args = #[v0] := by cases args; simp_all
  have k0 := h0
  have lt0 : ∀ x ∈ p0, x.block < W.heap.size := by obtain ⟨m, hm⟩ := k0; exact DataW.trod_lt m _ _ _ hm
  obtain ⟨sz0, lg0, mp0, rfl, wz0, hl0, hm0⟩ := open_stm (hval 0 42 v0 rfl rfl) h0
  clear hA0 hV0 hval0
  refine (walk sz0 lg0 mp0 W wz0 hl0 hm0).mono fun e W' ⟨he, bel⟩ => ?_
  subst he
  exact ⟨_, rfl, _, _, _, [], _, [], hW', trodAll_mk1 (shut_bool Tryd.underlying4 _), (trodAll_cons_mk (Below.trod laidOut (by kernel_rfl) (of_decide_eq_true (by kernel_rfl)) k0 bel lt0) trodAll_mk0), rfl, bel.frame _, fun h => by cases h⟩

theorem said : Rows.FnExactStatementTextSaid :=
  OpenClaim.holds_of_wide 4 Tryd.f4 rfl rfl rfl rfl rfl rfl rfl ⟨rfl, rfl, rfl, rfl, rfl⟩ rfl rfl rfl rfl rfl (by kernel_rfl) Tryd.func4 (by kernel_rfl)
    (of_decide_eq_true (by kernel_rfl)) (by unfold Func.isWrapper; first | (rw [if_pos (by decide +kernel)]; kernel_rfl) | (rw [if_neg (by decide +kernel)]; exact ⟨rfl, rfl⟩))
    (fun os started H enc _ => lifted os started H enc)

theorem plain (f : FuncId) (fn : Func) (hf : Tryd.pinned.checked.prog.funcNamed "loop.example/g00220/laws.FnExactStatementText" = some f) (hfn : Tryd.pinned.checked.prog.funcs[f]? = some fn) :
    false = Tryd.pinned.checked.prog.looks [] ∧ ∀ (j : Nat) t, fn.params[j]? = some t → Tryd.pinned.checked.prog.wantsStandIn t = false := by
  obtain rfl : f = 4 := Option.some.inj ((show Tryd.prog.funcNamed "loop.example/g00220/laws.FnExactStatementText" = some 4 by kernel_rfl).symm.trans hf) |>.symm
  obtain rfl : fn = Tryd.f4 := (Option.some.inj (Tryd.func4.symm.trans hfn)).symm
  refine ⟨by kernel_rfl, fun j t ht => ?_⟩
  rw [Tryd.params4] at ht
  obtain rfl : t = 42 := by
    have := Array.mem_of_getElem? ht
    simpa using this
  exact (show Tryd.prog.wantsStandIn 42 = false by kernel_rfl)
end Go.Proofs.YtinpoaghedhknaaDoor.fnExactStatementText
namespace Go.Proofs.YtinpoaghedhknaaDoor
theorem fnExactStatementText_card : Rows.FnExactStatementTextCardSaid :=
  Claim7.holds_tied_plain_at .later [] _ _ _ _ fnExactStatementText.said (fun _ h => by cases h) (by kernel_rfl) (fun _ h => by cases h) fnExactStatementText_row_tie rfl ⟨rfl, rfl⟩ (by kernel_rfl) rfl fnExactStatementText.plain (by kernel_rfl)
#print axioms fnExactStatementText_card
end Go.Proofs.YtinpoaghedhknaaDoor
