/- Names: spec.NameOK and impl.NameOK, walked. -/
import Derived.Test.YtfihhkhdigbmiaaGreatDoorBase
namespace Go.Proofs.YtfihhkhdigbmiaaGreatDoor
open Go.ChangeShapes Go.WideShapes Go.ChangeAt Go.RowKit
set_option linter.unusedVariables false

def digB (c : Int) : Bool := decide (48 ≤ c) && decide (c ≤ 57)
def letB (c : Int) : Bool := (decide (97 ≤ c) && decide (c ≤ 122)) || (decide (65 ≤ c) && decide (c ≤ 90)) || (c == 95)



theorem isDigit_any (c : Int) (w : World) :
    Calls Tryz.prog 64 #[.int .u8 c] w fun e w' => e = .returned (.bool (digB c)) ∧ w' = w := by
  go_enter Tryz.func64, Tryz.ntmps64
  go_wp2
  all_goals (go_ret; exact ⟨ret_bool (by unfold digB; rw [Bool.eq_iff_iff]; simp; omega), rfl⟩)
theorem l00Digit_any (c : Int) (w : World) :
    Calls Tryz.prog 79 #[.int .u8 c] w fun e w' => e = .returned (.bool (digB c)) ∧ w' = w := by
  go_enter Tryz.func79, Tryz.ntmps79
  go_wp2
  all_goals (go_ret; exact ⟨ret_bool (by unfold digB; rw [Bool.eq_iff_iff]; simp; omega), rfl⟩)
theorem isNameStart_any (c : Int) (w : World) :
    Calls Tryz.prog 65 #[.int .u8 c] w fun e w' => e = .returned (.bool (letB c)) ∧ w' = w := by
  go_enter Tryz.func65, Tryz.ntmps65
  go_wp2
  all_goals (go_ret; exact ⟨ret_bool (by unfold letB; rw [Bool.eq_iff_iff]; simp; omega), rfl⟩)
theorem l00Letter_any (c : Int) (w : World) :
    Calls Tryz.prog 78 #[.int .u8 c] w fun e w' => e = .returned (.bool (letB c)) ∧ w' = w := by
  go_enter Tryz.func78, Tryz.ntmps78
  go_wp2
  all_goals (go_ret; exact ⟨ret_bool (by unfold letB; rw [Bool.eq_iff_iff]; simp; omega), rfl⟩)


def goodTo (s : ByteArray) (k : Nat) : Prop := ∀ i, i < k → (letB (bAt s i) || digB (bAt s i)) = true
theorem good_succ {s : ByteArray} {k : Nat} (h : goodTo s k) (c : (letB (bAt s k) || digB (bAt s k)) = true) : goodTo s (k + 1) := by
  intro i hi
  by_cases e : i = k
  · subst e; exact c
  · exact h i (by omega)
theorem good_one {s : ByteArray} (h : letB (bAt s 0) = true) : goodTo s 1 := by
  intro i hi
  obtain rfl : i = 0 := by omega
  simp [h]
def nameB (s : ByteArray) : Bool := decide (1 ≤ s.size) && (decide (s.size ≤ 40) && (letB (bAt s 0) && (List.range s.size).all fun i => letB (bAt s i) || digB (bAt s i)))
theorem name_short {s : ByteArray} (h : ¬ 1 ≤ s.size) : nameB s = false := by unfold nameB; rw [decide_eq_false h]; rfl
theorem name_long {s : ByteArray} (h : ¬ s.size ≤ 40) : nameB s = false := by unfold nameB; rw [decide_eq_false h]; simp
theorem name_first {s : ByteArray} (h : letB (bAt s 0) = false) : nameB s = false := by unfold nameB; rw [h]; simp
theorem name_bad {s : ByteArray} {k : Nat} (hk : k < s.size) (h1 : letB (bAt s k) = false) (h2 : digB (bAt s k) = false) : nameB s = false := by
  unfold nameB
  have : ((List.range s.size).all fun i => letB (bAt s i) || digB (bAt s i)) = false := by
    rw [List.all_eq_false]; exact ⟨k, by simpa using hk, by simp [h1, h2]⟩
  rw [this]; simp
theorem name_good {s : ByteArray} (h1 : 1 ≤ s.size) (h2 : s.size ≤ 40) (h3 : letB (bAt s 0) = true) (h4 : goodTo s s.size) : nameB s = true := by
  unfold nameB
  have : ((List.range s.size).all fun i => letB (bAt s i) || digB (bAt s i)) = true := by
    rw [List.all_eq_true]; exact fun i hi => h4 i (by simpa using hi)
  rw [this, h3, decide_eq_true h1, decide_eq_true h2]; rfl
theorem let_dig {c : Int} (h : digB c = true) : letB c = false := by
  unfold digB at h; unfold letB; simp at h ⊢; omega

set_option maxHeartbeats 400000 in
theorem l00Word_any (s : ByteArray) (w : World) (hs : s.size ≤ maxLen) :
    Calls Tryz.prog 56 #[.string s] w fun e w' => e = .returned (.bool (nameB s)) ∧ w' = w := by
  unfold maxLen at hs
  by_cases h1 : 1 ≤ s.size
  · by_cases h40 : s.size ≤ 40
    · go_enter Tryz.func56, Tryz.ntmps56
      go_wp2_with fail
      refine (l00Letter_any _ _).mono ?_
      rintro e w' ⟨rfl, rfl⟩
      rw [bAt_eq s 0 (by omega)]
      cases hf : letB (bAt s 0)
      · have H := hide (name_first hf); clear hf
        go_wp2_with fail
        go_ret
        exact ⟨ret_bool (unhide H).symm, rfl⟩
      · have Hf := hide hf; clear hf
        go_wp2_with fail
        go_loop [3] (fun i => ∃ k : Nat, 1 ≤ k ∧ k ≤ s.size ∧ i = .int .i64 k ∧ goodTo s k) (fun i => s.size - (intOf i).toNat)
        case atStart => exact ⟨1, by omega, by omega, rfl, good_one (unhide Hf)⟩
        case round =>
          obtain ⟨k, hk1, hk, rfl, hg⟩ := hrel
          by_cases hlt : k < s.size
          · go_wp2_with fail
            refine (l00Letter_any _ _).mono ?_
            rintro e w' ⟨rfl, rfl⟩
            rw [bAt_eq s k hlt]
            cases hl : letB (bAt s k)
            · have Hl := hide hl; clear hl
              go_wp2_with fail
              refine (l00Digit_any _ _).mono ?_
              rintro e w' ⟨rfl, rfl⟩
              rw [bAt_eq s k hlt]
              cases hd : digB (bAt s k)
              · have H := hide (name_bad hlt (unhide Hl) hd); clear hd
                go_wp2_with fail
                go_ret
                exact ⟨ret_bool (unhide H).symm, rfl⟩
              · have H := hide (good_succ hg (by simp [hd])); clear hd
                go_wp2_with fail
                go_round
                case rel => exact ⟨k + 1, by omega, by omega, by go_num, unhide H⟩
                case measure => simp [intOf]; omega
            · have H := hide (good_succ hg (by simp [hl])); clear hl
              go_wp2_with fail
              go_round
              case rel => exact ⟨k + 1, by omega, by omega, by go_num, unhide H⟩
              case measure => simp [intOf]; omega
          · have H := hide (name_good h1 h40 (unhide Hf) (by have : k = s.size := by omega
                                                             subst this; exact hg))
            go_wp2_with fail
            go_ret
            exact ⟨ret_bool (unhide H).symm, rfl⟩
    · have H := hide (name_long h40)
      go_enter Tryz.func56, Tryz.ntmps56
      go_wp2_with fail
      go_ret
      exact ⟨ret_bool (unhide H).symm, rfl⟩
  · have H := hide (name_short h1)
    go_enter Tryz.func56, Tryz.ntmps56
    go_wp2_with fail
    go_ret
    exact ⟨ret_bool (unhide H).symm, rfl⟩

set_option maxHeartbeats 400000 in
theorem NameOK_any (s : ByteArray) (w : World) (hs : s.size ≤ maxLen) :
    Calls Tryz.prog 39 #[.string s] w fun e w' => e = .returned (.bool (nameB s)) ∧ w' = w := by
  unfold maxLen at hs
  by_cases h1 : 1 ≤ s.size
  · by_cases h40 : s.size ≤ 40
    · go_enter Tryz.func39, Tryz.ntmps39
      go_wp2_with fail
      refine (isDigit_any _ _).mono ?_
      rintro e w' ⟨rfl, rfl⟩
      rw [bAt_eq s 0 (by omega)]
      cases hf : digB (bAt s 0)
      · have Hf := hide hf; clear hf
        go_wp2_with fail
        go_loop [3, 19] (fun _ i => ∃ k : Nat, k ≤ s.size ∧ i = .int .i64 k ∧ goodTo s k) (fun _ i => s.size - (intOf i).toNat)
        case atStart => exact ⟨0, by omega, rfl, fun i hi => by omega⟩
        case round =>
          obtain ⟨k, hk, rfl, hg⟩ := hrel
          by_cases hlt : k < s.size
          · go_wp2_with fail
            refine (isNameStart_any _ _).mono ?_
            rintro e w' ⟨rfl, rfl⟩
            rw [bAt_eq s k hlt]
            cases hl : letB (bAt s k)
            · have Hl := hide hl; clear hl
              go_wp2_with fail
              refine (isDigit_any _ _).mono ?_
              rintro e w' ⟨rfl, rfl⟩
              rw [bAt_eq s k hlt]
              cases hd : digB (bAt s k)
              · have H := hide (name_bad hlt (unhide Hl) hd); clear hd
                go_wp2_with fail
                go_ret
                exact ⟨ret_bool (unhide H).symm, rfl⟩
              · have H := hide (good_succ hg (by simp [hd])); clear hd
                go_wp2_with fail
                go_round
                case rel => exact ⟨k + 1, by omega, by go_num, unhide H⟩
                case measure => simp [intOf]; omega
            · have H := hide (good_succ hg (by simp [hl])); clear hl
              go_wp2_with fail
              go_round
              case rel => exact ⟨k + 1, by omega, by go_num, unhide H⟩
              case measure => simp [intOf]; omega
          · have hg' : goodTo s s.size := by
              have : k = s.size := by omega
              subst this; exact hg
            have H := hide (name_good h1 h40 (by have := hg' 0 (by omega); simpa [unhide Hf] using this) hg')
            go_wp2_with fail
            go_ret
            exact ⟨ret_bool (unhide H).symm, rfl⟩
      · have H := hide (name_first (let_dig hf)); clear hf
        go_wp2_with fail
        go_ret
        exact ⟨ret_bool (unhide H).symm, rfl⟩
    · have H := hide (name_long h40)
      go_enter Tryz.func39, Tryz.ntmps39
      go_wp2_with fail
      go_ret
      exact ⟨ret_bool (unhide H).symm, rfl⟩
  · have H := hide (name_short h1)
    go_enter Tryz.func39, Tryz.ntmps39
    go_wp2_with fail
    go_ret
    exact ⟨ret_bool (unhide H).symm, rfl⟩

theorem specName_any (s : ByteArray) (w : World) (hs : s.size ≤ maxLen) :
    Calls Tryz.prog 32 #[.string s] w fun e w' => e = .returned (.bool (nameB s)) ∧ w' = w := by
  go_enter Tryz.func32, Tryz.ntmps32
  go_wp2_with fail
  refine (l00Word_any s _ hs).mono ?_
  rintro e w' ⟨rfl, rfl⟩
  go_wp2_with fail
  go_ret
  exact ⟨rfl, rfl⟩
end Go.Proofs.YtfihhkhdigbmiaaGreatDoor
