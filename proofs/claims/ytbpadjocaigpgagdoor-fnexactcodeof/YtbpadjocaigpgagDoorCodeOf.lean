/- For every text that can be read, laws.FnExactCodeOf returns true, the argument reads as it did, and so does the table of words, which the card ties to the program's text. Condition: the listed table starts as the program's text lays it. -/
import Derived.Test.YtbpadjocaigpgagDoorLaid
namespace Go.Proofs.YtbpadjocaigpgagDoor.fnExactCodeOf
open Go.ChangeShapes Go.WideShapes Go.ChangeAt Go.RowKit
open Go.ChangeMaps (open_string shut_string)
set_option linter.unusedVariables false

def notTo (s : ByteArray) (k : Nat) : Prop := ∀ j, j < k → wordL.getD j ⟨#[]⟩ ≠ s
def codeOf (s : ByteArray) : Int := match (List.range 20).find? (fun j => decide (wordL.getD j ⟨#[]⟩ = s)) with
  | some j => (j : Int)
  | none => -1
theorem codeOf_hit {s : ByteArray} {k : Nat} (hk : k < 20) (h : notTo s k) (e : wordL.getD k ⟨#[]⟩ = s) : codeOf s = (k : Int) := by
  unfold codeOf
  have : (List.range 20).find? (fun j => decide (wordL.getD j ⟨#[]⟩ = s)) = some k := by
    rw [List.find?_range_eq_some]
    exact ⟨by simpa using e, by simpa using hk, fun j hj => by simpa using h j hj⟩
  rw [this]
theorem codeOf_none {s : ByteArray} (h : notTo s 20) : codeOf s = -1 := by
  unfold codeOf
  have : (List.range 20).find? (fun j => decide (wordL.getD j ⟨#[]⟩ = s)) = none := by
    rw [List.find?_range_eq_none]
    intro j hj
    simpa using h j hj
  rw [this]
theorem not_succ {s : ByteArray} {k : Nat} (h : notTo s k) (e : wordL.getD k ⟨#[]⟩ ≠ s) : notTo s (k + 1) := by
  intro j hj
  by_cases e' : j = k
  · subst e'; exact e
  · exact h j (by omega)
theorem wordAt_nat (k : Nat) : wordAt (k : Int) = wordL.getD k ⟨#[]⟩ := by unfold wordAt; rw [if_neg (by omega), Int.toNat_natCast]

theorem eq_yes {x s : ByteArray} (h : x = s) : (x.toList == s.toList) = true := by rw [h]; simp
theorem eq_no {x s : ByteArray} (h : x ≠ s) : (x.toList == s.toList) = false := by
  simp only [beq_eq_false_iff_ne, ne_eq, ByteArray.toList_eq]
  exact fun e => h (bytes_inj e)
set_option maxHeartbeats 400000 in
theorem specOf_any (s : ByteArray) (w : World) :
    Calls Tryd.prog 8 #[.string s] w fun e w' => e = .returned (.int .i64 (codeOf s)) ∧ Below w.heap.size w w' := by
  go_enter Tryd.func8, Tryd.ntmps8
  go_wp2_with fail
  go_loopw [3] (fun i wr => ∃ k : Nat, k ≤ 20 ∧ i = .int .i64 k ∧ notTo s k ∧ Below w.heap.size w wr) (fun i _ => 20 - (intOf i).toNat)
  case atStart => exact ⟨0, by omega, rfl, fun j hj => by omega, Below.refl _ _⟩
  case round =>
    obtain ⟨k, hk, rfl, hn, hb⟩ := hrel
    by_cases hlt : k < 20
    · go_wp2_with fail
      refine (specWord_any _ _).mono ?_
      rintro e w1 ⟨rfl, hb1⟩
      rw [wordAt_nat]
      have hb2 := hb.trans (hb1.mono hb.size)
      clear hb hb1
      have HH := hide (fun e => codeOf_hit hlt hn e)
      have HN := hide (fun e => not_succ hn e)
      generalize wordL.getD k ⟨#[]⟩ = x at *
      by_cases hx : x = s
      · have H := hide (unhide HH hx)
        have hxb := eq_yes hx
        clear hx
        go_wp2_with fail
        go_ret
        exact ⟨ret_int (unhide H).symm, hb2⟩
      · have H := hide (unhide HN hx)
        have hxb := eq_no hx
        clear hx
        go_wp2_with fail
        refine ⟨⟨k + 1, by omega, by go_num, unhide H, hb2⟩, ?_⟩
        simp [intOf]; omega
    · have H := hide (codeOf_none (s := s) (by obtain rfl : k = 20 := by omega
                                               exact hn))
      go_wp2_with fail
      go_ret
      exact ⟨ret_int (unhide H).symm, hb⟩

set_option maxHeartbeats 400000 in
theorem implOf_any (s : ByteArray) (w : World) (hw : Words w) :
    Calls Tryd.prog 9 #[.string s] w fun e w' => e = .returned (.int .i64 (codeOf s)) ∧ w' = w := by
  have HW := hide hw
  clear hw
  go_enter Tryd.func9, Tryd.ntmps9
  go_wp2_with fail
  go_loop [3, 4] (fun _ i => ∃ k : Nat, k ≤ 20 ∧ i = .int .i64 k ∧ notTo s k) (fun _ i => 20 - (intOf i).toNat)
  case atStart => exact ⟨0, by omega, rfl, fun j hj => by omega⟩
  case round =>
    obtain ⟨k, hk, rfl, hn⟩ := hrel
    by_cases hlt : k < 20
    · have hc := unhide HW k hlt
      have hk0 : (0 : Int) ≤ (k : Int) := by omega
      have hk1 : (k : Int) < 20 := by omega
      have HH := hide (fun e => codeOf_hit hlt hn e)
      have HN := hide (fun e => not_succ hn e)
      generalize wordL.getD k ⟨#[]⟩ = x at *
      by_cases hx : x = s
      · have H := hide (unhide HH hx)
        have hxb := eq_yes hx
        clear hx
        go_wp2_with fail
        go_ret
        exact ⟨ret_int (unhide H).symm, rfl⟩
      · have H := hide (unhide HN hx)
        have hxb := eq_no hx
        clear hx
        go_wp2_with fail
        go_round
        case rel => exact ⟨k + 1, by omega, by go_num, unhide H⟩
        case measure => simp [intOf]; omega
    · have H := hide (codeOf_none (s := s) (by obtain rfl : k = 20 := by omega
                                               exact hn))
      go_wp2_with fail
      go_ret
      exact ⟨ret_int (unhide H).symm, rfl⟩

theorem walk (s : ByteArray) (hs : s.size ≤ maxLen) (w : World) (hw : Words w) :
    Calls Tryd.prog 4 #[.string s] w fun e w' => e = .returned (.bool true) ∧ Below w.heap.size w w' := by
  have hb : s.size ≤ 9223372036854775807 := by unfold maxLen at hs; omega
  have HW := hide hw
  clear hw hs
  by_cases h : s.size ≤ 1048576
  · go_enter Tryd.func4, Tryd.ntmps4
    go_wp2_with fail
    refine (specOf_any s _).mono ?_
    rintro e w1 ⟨rfl, hb1⟩
    go_wp2_with fail
    refine (implOf_any s _ (words_below (unhide HW) hb1)).mono ?_
    rintro e w2 ⟨rfl, rfl⟩
    generalize codeOf s = x at *
    go_wp2_with fail
    go_ret
    exact ⟨rfl, hb1⟩
  · go_enter Tryd.func4, Tryd.ntmps4
    go_wp2_with fail
    go_ret
    exact ⟨rfl, Below.refl _ _⟩

theorem met {W : World} (h : laidMetH Tryd.prog Rows.fnExactCodeOfRow.laid W) : laidMetH Tryd.prog Rows.fnExactCodeWordRow.laid W := h
set_option maxRecDepth 100000 in
theorem lifted (os : Os) (started : os.Started) (H : Type) (enc : TypeId × Value → H) :
    ReturnsInHanded {} Tryd.checked os 4 .any (fun w args => (Rows.fnExactCodeOfSpec.pre enc Tryd.prog Tryd.f4 [] false w args ∧ laidMetH Tryd.prog Rows.fnExactCodeOfRow.laid w) ∧ sizedMet enc Tryd.prog Tryd.f4 (OpenSpec.ofChange Rows.fnExactCodeOfSpec) false w args)
      (Rows.fnExactCodeOfSpec.post enc Tryd.prog Tryd.f4 false true false false) := by
  refine returnsInHanded_of_change_and (C := Tryd.checked) (X := fun w _ => laidMetH Tryd.prog Rows.fnExactCodeOfRow.laid w) (fun _ _ _ hh h => h.of_heap hh) own started (by kernel_rfl) Tryd.func4
    (ChangeSpec.witness_shaped (enc := enc) (C := Tryd.checked) (os := os) (X := fun w _ => laidMetH Tryd.prog Rows.fnExactCodeOfRow.laid w) false (World.doorLaid Tryd.prog 24 os) #[.string ByteArray.empty] 8 rfl (World.shaped_of_RefB (by kernel_rfl) (by kernel_rfl)) (by kernel_rfl) (by kernel_rfl) (by kernel_rfl) (door_met os _)) ?_
  intro W base args ds gs before hval0 hW _ _ hL _
  have hval : ∀ (j : Nat) t v, Tryd.f4.params[j]? = some t → args[j]? = some v → Value.okWide Tryd.prog W .any base t v := hval0
  have hW' := hW
  obtain ⟨p, q, hA0, hV0, rfl, hfz, hnd⟩ := hW
  have hA : DataW.TrodAll enc Tryd.prog W 0 (fun _ => true) true Tryd.f4.params.toList args.toList ds p := hA0
  have hV : DataW.TrodVars enc Tryd.prog W (fun _ => true) ["loop.example/g00220/impl.codeWords"] gs q := hV0
  rw [Tryd.params4] at hA hval
  obtain ⟨v0, d0, rfl, rfl, h0⟩ := trodAll_one hA
  obtain ⟨a0, rfl, rfl, rfl, w0⟩ := open_string Tryd.underlying9 (hval 0 9 v0 rfl rfl) h0
  have hvar := var_of_laid (met hL)
  clear hA0 hV0 hval0
  refine (walk a0 w0 W (words_of_var hvar)).mono fun e W' ⟨he, bel⟩ => ?_
  subst he
  obtain ⟨rfl, hvs⟩ := vars_again (sp := fun b => decide (b < W.heap.size)) hvar hV bel
  exact ⟨_, rfl, _, _, _, [], [], _, hW', trodAll_mk1 (shut_bool Tryd.underlying4 _), trodAll_mk1 (shut_string Tryd.underlying9 w0), hvs, bel.frame _, fun h => by cases h⟩

theorem said : Rows.FnExactCodeOfSaid :=
  OpenClaim.holds_of_wide 4 Tryd.f4 rfl rfl rfl rfl rfl rfl rfl ⟨rfl, rfl, rfl, rfl, rfl⟩ rfl rfl rfl rfl rfl (by kernel_rfl) Tryd.func4 (by kernel_rfl)
    (of_decide_eq_true (by kernel_rfl)) (by unfold Func.isWrapper; first | (rw [if_pos (by decide +kernel)]; kernel_rfl) | (rw [if_neg (by decide +kernel)]; exact ⟨rfl, rfl⟩))
    (fun os started H enc _ => lifted os started H enc)

theorem plain (f : FuncId) (fn : Func) (hf : Tryd.pinned.checked.prog.funcNamed "loop.example/g00220/laws.FnExactCodeOf" = some f) (hfn : Tryd.pinned.checked.prog.funcs[f]? = some fn) :
    false = Tryd.pinned.checked.prog.looks [] ∧ ∀ (j : Nat) t, fn.params[j]? = some t → Tryd.pinned.checked.prog.wantsStandIn t = false := by
  obtain rfl : f = 4 := Option.some.inj ((show Tryd.prog.funcNamed "loop.example/g00220/laws.FnExactCodeOf" = some 4 by kernel_rfl).symm.trans hf) |>.symm
  obtain rfl : fn = Tryd.f4 := (Option.some.inj (Tryd.func4.symm.trans hfn)).symm
  refine ⟨by kernel_rfl, fun j t ht => ?_⟩
  rw [Tryd.params4] at ht
  obtain rfl : t = 9 := by simpa using Array.mem_of_getElem? ht
  exact (show Tryd.prog.wantsStandIn 9 = false by kernel_rfl)
end Go.Proofs.YtbpadjocaigpgagDoor.fnExactCodeOf
namespace Go.Proofs.YtbpadjocaigpgagDoor
theorem fnExactCodeOf_card : Rows.FnExactCodeOfCardSaid :=
  Claim7.holds_tied_plain_at .later [] _ _ _ _ fnExactCodeOf.said (fun _ h => by cases h) (by kernel_rfl) (fun _ h => by cases h) fnExactCodeOf_row_tie rfl ⟨rfl, rfl⟩ (by kernel_rfl) rfl fnExactCodeOf.plain (by kernel_rfl)
#print axioms fnExactCodeOf_card
end Go.Proofs.YtbpadjocaigpgagDoor
