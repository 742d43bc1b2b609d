/- For every text that can be read, laws.FnExactNameOK returns true and the text reads as it did. No condition. -/
import Derived.Test.YtbpadjocaigpgagRows
import Derived.WalkKit
import Derived.ProofKit
import Derived.OpenShut
import Derived.ShutString
namespace Go.Proofs.Ytbpadjocaigpgag.fnExactNameOK
open Go.ChangeShapes Go.WideShapes Go.ChangeAt Go.RowKit
open Go.ChangeMaps (open_string shut_string)
set_option linter.unusedVariables false

def digB (c : Int) : Bool := decide (48 ≤ c) && decide (c ≤ 57)
def letB (c : Int) : Bool := (decide (97 ≤ c) && decide (c ≤ 122)) || (decide (65 ≤ c) && decide (c ≤ 90)) || (c == 95)

theorem hide {p : Prop} (h : p) : Hid p := h
theorem unhide {p : Prop} (h : Hid p) : p := h.out
theorem ret_bool {a b : Bool} (h : a = b) : Ending.returned (.bool a) = .returned (.bool b) := by rw [h]


theorem isDigit_any (c : Int) (w : World) :
    Calls Try.prog 13 #[.int .u8 c] w fun e w' => e = .returned (.bool (digB c)) ∧ w' = w := by
  go_enter Try.func13, Try.ntmps13
  go_wp2
  all_goals (go_ret; exact ⟨ret_bool (by unfold digB; rw [Bool.eq_iff_iff]; simp; omega), rfl⟩)
theorem l00Digit_any (c : Int) (w : World) :
    Calls Try.prog 20 #[.int .u8 c] w fun e w' => e = .returned (.bool (digB c)) ∧ w' = w := by
  go_enter Try.func20, Try.ntmps20
  go_wp2
  all_goals (go_ret; exact ⟨ret_bool (by unfold digB; rw [Bool.eq_iff_iff]; simp; omega), rfl⟩)
theorem isNameStart_any (c : Int) (w : World) :
    Calls Try.prog 14 #[.int .u8 c] w fun e w' => e = .returned (.bool (letB c)) ∧ w' = w := by
  go_enter Try.func14, Try.ntmps14
  go_wp2
  all_goals (go_ret; exact ⟨ret_bool (by unfold letB; rw [Bool.eq_iff_iff]; simp; omega), rfl⟩)
theorem l00Letter_any (c : Int) (w : World) :
    Calls Try.prog 19 #[.int .u8 c] w fun e w' => e = .returned (.bool (letB c)) ∧ w' = w := by
  go_enter Try.func19, Try.ntmps19
  go_wp2
  all_goals (go_ret; exact ⟨ret_bool (by unfold letB; rw [Bool.eq_iff_iff]; simp; omega), rfl⟩)


def bAt (s : ByteArray) (i : Nat) : Int := ((s.data.toList.getD i 0).toNat : Int)
theorem bAt_eq (s : ByteArray) (i : Nat) (h : i < s.size) : (s[i].toNat : Int) = bAt s i := by
  have h' : i < s.data.size := h
  have e : s[i] = s.data[i] := rfl
  unfold bAt; rw [e, List.getD_eq_getElem?_getD, Array.getElem?_toList, Array.getElem?_eq_getElem h']; rfl
def goodTo (s : ByteArray) (k : Nat) : Prop := ∀ i, i < k → (letB (bAt s i) || digB (bAt s i)) = true
theorem good_succ {s : ByteArray} {k : Nat} (h : goodTo s k) (c : (letB (bAt s k) || digB (bAt s k)) = true) : goodTo s (k + 1) := by
  intro i hi
  by_cases e : i = k
  · subst e; exact c
  · exact h i (by omega)
theorem good_one {s : ByteArray} (h : letB (bAt s 0) = true) : goodTo s 1 := by
  intro i hi
  obtain rfl : i = 0 := by omega
  simp [h]
def nameB (s : ByteArray) : Bool := decide (1 ≤ s.size) && (decide (s.size ≤ 40) && (letB (bAt s 0) && (List.range s.size).all fun i => letB (bAt s i) || digB (bAt s i)))
theorem name_short {s : ByteArray} (h : ¬ 1 ≤ s.size) : nameB s = false := by unfold nameB; rw [decide_eq_false h]; rfl
theorem name_long {s : ByteArray} (h : ¬ s.size ≤ 40) : nameB s = false := by unfold nameB; rw [decide_eq_false h]; simp
theorem name_first {s : ByteArray} (h : letB (bAt s 0) = false) : nameB s = false := by unfold nameB; rw [h]; simp
theorem name_bad {s : ByteArray} {k : Nat} (hk : k < s.size) (h1 : letB (bAt s k) = false) (h2 : digB (bAt s k) = false) : nameB s = false := by
  unfold nameB
  have : ((List.range s.size).all fun i => letB (bAt s i) || digB (bAt s i)) = false := by
    rw [List.all_eq_false]; exact ⟨k, by simpa using hk, by simp [h1, h2]⟩
  rw [this]; simp
theorem name_good {s : ByteArray} (h1 : 1 ≤ s.size) (h2 : s.size ≤ 40) (h3 : letB (bAt s 0) = true) (h4 : goodTo s s.size) : nameB s = true := by
  unfold nameB
  have : ((List.range s.size).all fun i => letB (bAt s i) || digB (bAt s i)) = true := by
    rw [List.all_eq_true]; exact fun i hi => h4 i (by simpa using hi)
  rw [this, h3, decide_eq_true h1, decide_eq_true h2]; rfl
theorem let_dig {c : Int} (h : digB c = true) : letB c = false := by
  unfold digB at h; unfold letB; simp at h ⊢; omega

set_option maxHeartbeats 400000 in
theorem l00Word_any (s : ByteArray) (w : World) (hs : s.size ≤ maxLen) :
    Calls Try.prog 12 #[.string s] w fun e w' => e = .returned (.bool (nameB s)) ∧ w' = w := by
  unfold maxLen at hs
  by_cases h1 : 1 ≤ s.size
  · by_cases h40 : s.size ≤ 40
    · go_enter Try.func12, Try.ntmps12
      go_wp2_with fail
      refine (l00Letter_any _ _).mono ?_
      rintro e w' ⟨rfl, rfl⟩
      rw [bAt_eq s 0 (by omega)]
      cases hf : letB (bAt s 0)
      · have H := hide (name_first hf); clear hf
        go_wp2_with fail
        go_ret
        exact ⟨ret_bool (unhide H).symm, rfl⟩
      · have Hf := hide hf; clear hf
        go_wp2_with fail
        go_loop [3] (fun i => ∃ k : Nat, 1 ≤ k ∧ k ≤ s.size ∧ i = .int .i64 k ∧ goodTo s k) (fun i => s.size - (intOf i).toNat)
        case atStart => exact ⟨1, by omega, by omega, rfl, good_one (unhide Hf)⟩
        case round =>
          obtain ⟨k, hk1, hk, rfl, hg⟩ := hrel
          by_cases hlt : k < s.size
          · go_wp2_with fail
            refine (l00Letter_any _ _).mono ?_
            rintro e w' ⟨rfl, rfl⟩
            rw [bAt_eq s k hlt]
            cases hl : letB (bAt s k)
            · have Hl := hide hl; clear hl
              go_wp2_with fail
              refine (l00Digit_any _ _).mono ?_
              rintro e w' ⟨rfl, rfl⟩
              rw [bAt_eq s k hlt]
              cases hd : digB (bAt s k)
              · have H := hide (name_bad hlt (unhide Hl) hd); clear hd
                go_wp2_with fail
                go_ret
                exact ⟨ret_bool (unhide H).symm, rfl⟩
              · have H := hide (good_succ hg (by simp [hd])); clear hd
                go_wp2_with fail
                go_round
                case rel => exact ⟨k + 1, by omega, by omega, by go_num, unhide H⟩
                case measure => simp [intOf]; omega
            · have H := hide (good_succ hg (by simp [hl])); clear hl
              go_wp2_with fail
              go_round
              case rel => exact ⟨k + 1, by omega, by omega, by go_num, unhide H⟩
              case measure => simp [intOf]; omega
          · have H := hide (name_good h1 h40 (unhide Hf) (by have : k = s.size := by omega
                                                             subst this; exact hg))
            go_wp2_with fail
            go_ret
            exact ⟨ret_bool (unhide H).symm, rfl⟩
    · have H := hide (name_long h40)
      go_enter Try.func12, Try.ntmps12
      go_wp2_with fail
      go_ret
      exact ⟨ret_bool (unhide H).symm, rfl⟩
  · have H := hide (name_short h1)
    go_enter Try.func12, Try.ntmps12
    go_wp2_with fail
    go_ret
    exact ⟨ret_bool (unhide H).symm, rfl⟩

set_option maxHeartbeats 400000 in
theorem NameOK_any (s : ByteArray) (w : World) (hs : s.size ≤ maxLen) :
    Calls Try.prog 7 #[.string s] w fun e w' => e = .returned (.bool (nameB s)) ∧ w' = w := by
  unfold maxLen at hs
  by_cases h1 : 1 ≤ s.size
  · by_cases h40 : s.size ≤ 40
    · go_enter Try.func7, Try.ntmps7
      go_wp2_with fail
      refine (isDigit_any _ _).mono ?_
      rintro e w' ⟨rfl, rfl⟩
      rw [bAt_eq s 0 (by omega)]
      cases hf : digB (bAt s 0)
      · have Hf := hide hf; clear hf
        go_wp2_with fail
        go_loop [3, 19] (fun _ i => ∃ k : Nat, k ≤ s.size ∧ i = .int .i64 k ∧ goodTo s k) (fun _ i => s.size - (intOf i).toNat)
        case atStart => exact ⟨0, by omega, rfl, fun i hi => by omega⟩
        case round =>
          obtain ⟨k, hk, rfl, hg⟩ := hrel
          by_cases hlt : k < s.size
          · go_wp2_with fail
            refine (isNameStart_any _ _).mono ?_
            rintro e w' ⟨rfl, rfl⟩
            rw [bAt_eq s k hlt]
            cases hl : letB (bAt s k)
            · have Hl := hide hl; clear hl
              go_wp2_with fail
              refine (isDigit_any _ _).mono ?_
              rintro e w' ⟨rfl, rfl⟩
              rw [bAt_eq s k hlt]
              cases hd : digB (bAt s k)
              · have H := hide (name_bad hlt (unhide Hl) hd); clear hd
                go_wp2_with fail
                go_ret
                exact ⟨ret_bool (unhide H).symm, rfl⟩
              · have H := hide (good_succ hg (by simp [hd])); clear hd
                go_wp2_with fail
                go_round
                case rel => exact ⟨k + 1, by omega, by go_num, unhide H⟩
                case measure => simp [intOf]; omega
            · have H := hide (good_succ hg (by simp [hl])); clear hl
              go_wp2_with fail
              go_round
              case rel => exact ⟨k + 1, by omega, by go_num, unhide H⟩
              case measure => simp [intOf]; omega
          · have hg' : goodTo s s.size := by
              have : k = s.size := by omega
              subst this; exact hg
            have H := hide (name_good h1 h40 (by have := hg' 0 (by omega); simpa [unhide Hf] using this) hg')
            go_wp2_with fail
            go_ret
            exact ⟨ret_bool (unhide H).symm, rfl⟩
      · have H := hide (name_first (let_dig hf)); clear hf
        go_wp2_with fail
        go_ret
        exact ⟨ret_bool (unhide H).symm, rfl⟩
    · have H := hide (name_long h40)
      go_enter Try.func7, Try.ntmps7
      go_wp2_with fail
      go_ret
      exact ⟨ret_bool (unhide H).symm, rfl⟩
  · have H := hide (name_short h1)
    go_enter Try.func7, Try.ntmps7
    go_wp2_with fail
    go_ret
    exact ⟨ret_bool (unhide H).symm, rfl⟩

theorem specName_any (s : ByteArray) (w : World) (hs : s.size ≤ maxLen) :
    Calls Try.prog 6 #[.string s] w fun e w' => e = .returned (.bool (nameB s)) ∧ w' = w := by
  go_enter Try.func6, Try.ntmps6
  go_wp2_with fail
  refine (l00Word_any s _ hs).mono ?_
  rintro e w' ⟨rfl, rfl⟩
  go_wp2_with fail
  go_ret
  exact ⟨rfl, rfl⟩
theorem own : ownKnob Try.prog.godebug = none := by kernel_rfl


theorem walk (a0 : ByteArray) (w0 : a0.size ≤ maxLen) (w : World) :
    Calls Try.prog 3 #[.string a0] w fun e w' => e = .returned (.bool true) ∧ Grown w w' := by
  have hb : a0.size ≤ 9223372036854775807 := by unfold maxLen at w0; omega
  by_cases h : a0.size ≤ 1048576
  · go_enter Try.func3, Try.ntmps3
    go_wp2_with fail
    refine (specName_any a0 _ w0).mono ?_
    rintro e w' ⟨rfl, rfl⟩
    go_wp2_with fail
    refine (NameOK_any a0 _ w0).mono ?_
    rintro e w' ⟨rfl, rfl⟩
    generalize nameB a0 = b
    cases b
    all_goals
      go_wp2_with fail
      go_ret
      exact ⟨rfl, by repeat (first | exact Grown.refl _ | apply Grown.drew | apply Grown.alloc)⟩
  · go_enter Try.func3, Try.ntmps3
    go_wp2_with fail
    go_ret
    exact ⟨rfl, by repeat (first | exact Grown.refl _ | apply Grown.drew | apply Grown.alloc)⟩

set_option maxRecDepth 100000 in
theorem lifted (os : Os) (started : os.Started) (H : Type) (enc : TypeId × Value → H) :
    ReturnsInHanded {} Try.checked os 3 .any (Rows.fnExactNameOKSpec.pre6 enc Try.prog Try.f3 Rows.fnExactNameOKRow.domain false) (Rows.fnExactNameOKSpec.post enc Try.prog Try.f3 false true false false) := by
  refine returnsInHanded_of_change (C := Try.checked) own started (by kernel_rfl) Try.func3
    (ChangeSpec.witness6 (enc := enc) (C := Try.checked) false ⟨#[], #[.string ByteArray.empty], []⟩ 8 (by kernel_rfl) (by kernel_rfl) (by kernel_rfl) (by kernel_rfl)) ?_
  intro W base args ds gs before hval0 hW hcnd _
  have hval : ∀ (j : Nat) t v, Try.f3.params[j]? = some t → args[j]? = some v → Value.okWide Try.prog W .any base t v := hval0
  have hW' := hW
  obtain ⟨p, q, hA0, hV, rfl, hfz, hnd⟩ := hW
  have hA : DataW.TrodAll enc Try.prog W 0 (fun _ => true) true Try.f3.params.toList args.toList ds p := hA0
  rw [Try.params3] at hA hval
  obtain ⟨v0, vs0, d0, ds0, p0, q0, hargs, rfl, rfl, h0, r0⟩ := trodAll_cons hA
  obtain ⟨rfl, rfl, rfl⟩ := trodAll_nil r0
  obtain rfl : args = #[v0] := by cases args; simp_all
  obtain ⟨rfl, rfl⟩ := trodVars_none hV
  obtain ⟨a0, rfl, rfl, rfl, w0⟩ := open_string Try.underlying9 (hval 0 9 v0 rfl rfl) h0
  clear hA0 hval0
  simp only [List.append_nil] at hW'
  refine (walk a0 w0 W).mono fun e W' ⟨he, hg⟩ => ?_
  subst he
  exact ⟨_, rfl, post_of_same (pa := []) (pv := []) hW' (fun _ _ _ => (trodAll_cons_mk (shut_bool Try.underlying4 _) trodAll_mk0)) (fun sp _ => (trodAll_cons_mk (shut_string Try.underlying9 w0) trodAll_mk0)) (fun _ _ => rfl) rfl
    (hg.frame _) hg.2.1 (ok_one (by kernel_rfl) rfl (okWide_bool_mk Try.underlying4 _))⟩

theorem over : Rows.fnExactNameOKRow.holds Try.pinned (OpenSpec.ofChange Rows.fnExactNameOKSpec) :=
  OpenClaim.holds_of_wide 3 Try.f3 rfl rfl rfl rfl rfl rfl rfl ⟨rfl, rfl, rfl, rfl, rfl⟩ rfl rfl rfl rfl rfl (by kernel_rfl) Try.func3 (by kernel_rfl)
    (of_decide_eq_true (by kernel_rfl)) (by unfold Func.isWrapper; first | (rw [if_pos (by decide +kernel)]; kernel_rfl) | (rw [if_neg (by decide +kernel)]; exact ⟨rfl, rfl⟩))
    (fun os started H enc _ => lifted os started H enc)

end Go.Proofs.Ytbpadjocaigpgag.fnExactNameOK
namespace Go.Proofs.Ytbpadjocaigpgag
theorem fnExactNameOK_holds : Rows.FnExactNameOKSaid := fnExactNameOK.over
#print axioms fnExactNameOK_holds
end Go.Proofs.Ytbpadjocaigpgag
