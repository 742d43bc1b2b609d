/- Whether a command is right: impl.CommandOK and spec.CommandOK, walked. -/
import Derived.Test.YtihhbngpajephaaDoorIn
namespace Go.Proofs.YtihhbngpajephaaDoor
open Go.ChangeShapes Go.WideShapes Go.ChangeAt Go.RowKit
set_option linter.unusedVariables false

theorem keyOK_any (s : ByteArray) (w : World) (hs : s.size ≤ maxLen) :
    Calls Tryd.prog 44 #[.string s] w fun e w' => e = .returned (.bool (inB s.size 1 24)) ∧ w' = w := by
  unfold maxLen at hs
  go_enter Tryd.func44, Tryd.ntmps44
  go_wp2_with fail
  refine (within_any _ _ _ _).mono ?_
  rintro e w' ⟨rfl, rfl⟩
  go_wp2
  go_ret
  exact ⟨rfl, rfl⟩
theorem l02Key_any (s : ByteArray) (w : World) (hs : s.size ≤ maxLen) :
    Calls Tryd.prog 32 #[.string s] w fun e w' => e = .returned (.bool (inB s.size 1 24)) ∧ w' = w := by
  unfold maxLen at hs
  by_cases h1 : 1 ≤ (s.size : Int)
  · go_enter Tryd.func32, Tryd.ntmps32
    go_wp2
    go_ret
    exact ⟨ret_bool (by simp [inB, h1]), rfl⟩
  · have H := hide (show inB s.size 1 24 = false by simp [inB]; omega)
    go_enter Tryd.func32, Tryd.ntmps32
    go_wp2
    go_ret
    exact ⟨ret_bool (unhide H).symm, rfl⟩

/-- A command is right. -/
def cmdOK (k s q : Int) (key val : ByteArray) : Bool :=
  if inB s 0 65535 && inB q 0 65535 && decide (val.size ≤ 60) then
    (if k = 1 ∨ k = 2 then inB key.size 1 24 else if k = 3 then inB key.size 1 24 && emptyB val else if k = 4 ∨ k = 5 then emptyB key && emptyB val && decide (q = 0) else false)
  else false

set_option maxRecDepth 100000 in
set_option maxHeartbeats 1000000 in
theorem implCommandOK_any (k s q : Int) (key val : ByteArray) (w : World) (hk : key.size ≤ maxLen) (hv : val.size ≤ maxLen) :
    Calls Tryd.prog 40 #[.agg #[.int .i64 k, .int .i64 s, .int .i64 q, .string key, .string val]] w fun e w' => e = .returned (.bool (cmdOK k s q key val)) ∧ Below w.heap.size w w' := by
  unfold maxLen at hk hv
  have HB : ∀ o, Below w.heap.size w (w.alloc o) := fun o => (Below.refl _ _).alloc (Nat.le_refl _) o
  have H5 := hide HB
  clear HB
  rcases Bool.eq_false_or_eq_true (inB s 0 65535) with h1 | h1
  case inr =>
    have H := hide (show cmdOK k s q key val = false by simp [cmdOK, h1])
    go_enter Tryd.func40, Tryd.ntmps40
    go_wp2_with (first | (go_at_call 43; refine (within_any _ _ _ _).mono ?_; rintro e w' ⟨rfl, rfl⟩) | (go_at_call 44; refine (keyOK_any _ _ (by unfold maxLen; omega)).mono ?_; rintro e w' ⟨rfl, rfl⟩))
    go_ret
    exact ⟨ret_bool (unhide H).symm, unhide H5 _⟩
  rcases Bool.eq_false_or_eq_true (inB q 0 65535) with h2 | h2
  case inr =>
    have H := hide (show cmdOK k s q key val = false by simp [cmdOK, h2])
    go_enter Tryd.func40, Tryd.ntmps40
    go_wp2_with (first | (go_at_call 43; refine (within_any _ _ _ _).mono ?_; rintro e w' ⟨rfl, rfl⟩) | (go_at_call 44; refine (keyOK_any _ _ (by unfold maxLen; omega)).mono ?_; rintro e w' ⟨rfl, rfl⟩))
    go_ret
    exact ⟨ret_bool (unhide H).symm, unhide H5 _⟩
  by_cases h3 : (60 : Int) < (val.size : Int)
  · have H := hide (show cmdOK k s q key val = false by simp [cmdOK]; omega)
    go_enter Tryd.func40, Tryd.ntmps40
    go_wp2_with (first | (go_at_call 43; refine (within_any _ _ _ _).mono ?_; rintro e w' ⟨rfl, rfl⟩) | (go_at_call 44; refine (keyOK_any _ _ (by unfold maxLen; omega)).mono ?_; rintro e w' ⟨rfl, rfl⟩))
    go_ret
    exact ⟨ret_bool (unhide H).symm, unhide H5 _⟩
  have h3' : val.size ≤ 60 := by omega
  have E := hide (show cmdOK k s q key val = (if k = 1 ∨ k = 2 then inB key.size 1 24 else if k = 3 then inB key.size 1 24 && emptyB val else if k = 4 ∨ k = 5 then emptyB key && emptyB val && decide (q = 0) else false) by simp [cmdOK, h1, h2, h3'])
  clear h3'
  by_cases k1 : k = 1
  · have H := hide ((unhide E).trans (by rw [if_pos (Or.inl k1)]))
    subst k1
    go_enter Tryd.func40, Tryd.ntmps40
    go_wp2_with (first | (go_at_call 43; refine (within_any _ _ _ _).mono ?_; rintro e w' ⟨rfl, rfl⟩) | (go_at_call 44; refine (keyOK_any _ _ (by unfold maxLen; omega)).mono ?_; rintro e w' ⟨rfl, rfl⟩))
    go_ret
    exact ⟨ret_bool (unhide H).symm, unhide H5 _⟩
  by_cases k2 : k = 2
  · have H := hide ((unhide E).trans (by rw [if_pos (Or.inr k2)]))
    subst k2
    go_enter Tryd.func40, Tryd.ntmps40
    go_wp2_with (first | (go_at_call 43; refine (within_any _ _ _ _).mono ?_; rintro e w' ⟨rfl, rfl⟩) | (go_at_call 44; refine (keyOK_any _ _ (by unfold maxLen; omega)).mono ?_; rintro e w' ⟨rfl, rfl⟩))
    go_ret
    exact ⟨ret_bool (unhide H).symm, unhide H5 _⟩
  by_cases k3 : k = 3
  · have H := hide ((unhide E).trans (by rw [if_neg (by omega), if_pos k3]))
    subst k3
    rcases Bool.eq_false_or_eq_true (inB key.size 1 24) with h4 | h4
    · go_enter Tryd.func40, Tryd.ntmps40
      go_wp2_with (first | (go_at_call 43; refine (within_any _ _ _ _).mono ?_; rintro e w' ⟨rfl, rfl⟩) | (go_at_call 44; refine (keyOK_any _ _ (by unfold maxLen; omega)).mono ?_; rintro e w' ⟨rfl, rfl⟩))
      all_goals
        go_ret
        exact ⟨ret_bool (by rw [unhide H, h4]; simp [emptyB]), unhide H5 _⟩
    · go_enter Tryd.func40, Tryd.ntmps40
      go_wp2_with (first | (go_at_call 43; refine (within_any _ _ _ _).mono ?_; rintro e w' ⟨rfl, rfl⟩) | (go_at_call 44; refine (keyOK_any _ _ (by unfold maxLen; omega)).mono ?_; rintro e w' ⟨rfl, rfl⟩))
      go_ret
      exact ⟨ret_bool (by rw [unhide H, h4]; simp), unhide H5 _⟩
  by_cases k4 : k = 4 ∨ k = 5
  · have H := hide ((unhide E).trans (by rw [if_neg (by omega), if_neg k3, if_pos k4]))
    clear E k1 k2 k3
    have H4 := hide k4
    clear k4
    rcases Bool.eq_false_or_eq_true (emptyB key) with h4 | h4 <;> rcases Bool.eq_false_or_eq_true (emptyB val) with h5 | h5
    all_goals
      unfold emptyB at h4 h5
      rcases unhide H4 with k4 | k4
      all_goals
        subst k4
        go_enter Tryd.func40, Tryd.ntmps40
        go_wp2_with (first | (go_at_call 43; refine (within_any _ _ _ _).mono ?_; rintro e w' ⟨rfl, rfl⟩) | (go_at_call 44; refine (keyOK_any _ _ (by unfold maxLen; omega)).mono ?_; rintro e w' ⟨rfl, rfl⟩))
        all_goals
          go_ret
          refine ⟨ret_bool ?_, unhide H5 _⟩
          rw [unhide H]
          simp [emptyB, h4, h5]
          try rfl
  · have H := hide ((unhide E).trans (by rw [if_neg (by omega), if_neg k3, if_neg k4]))
    have k5 : ¬ k = 4 := by omega
    have k6 : ¬ k = 5 := by omega
    clear k4 E
    go_enter Tryd.func40, Tryd.ntmps40
    go_wp2_with (first | (go_at_call 43; refine (within_any _ _ _ _).mono ?_; rintro e w' ⟨rfl, rfl⟩) | (go_at_call 44; refine (keyOK_any _ _ (by unfold maxLen; omega)).mono ?_; rintro e w' ⟨rfl, rfl⟩))
    go_ret
    exact ⟨ret_bool (unhide H).symm, unhide H5 _⟩
set_option maxRecDepth 100000 in
set_option maxHeartbeats 1000000 in
theorem specCommandOK_any (k s q : Int) (key val : ByteArray) (w : World) (hk : key.size ≤ maxLen) (hv : val.size ≤ maxLen) :
    Calls Tryd.prog 16 #[.agg #[.int .i64 k, .int .i64 s, .int .i64 q, .string key, .string val]] w fun e w' => e = .returned (.bool (cmdOK k s q key val)) ∧ Below w.heap.size w w' := by
  unfold maxLen at hk hv
  have HB : ∀ o, Below w.heap.size w (w.alloc o) := fun o => (Below.refl _ _).alloc (Nat.le_refl _) o
  have H5 := hide HB
  clear HB
  rcases Bool.eq_false_or_eq_true (inB s 0 65535) with h1 | h1
  case inr =>
    have H := hide (show cmdOK k s q key val = false by simp [cmdOK, h1])
    go_enter Tryd.func16, Tryd.ntmps16
    go_wp2_with (first | (go_at_call 31; refine (l01In_any _ _ _ _).mono ?_; rintro e w' ⟨rfl, rfl⟩) | (go_at_call 32; refine (l02Key_any _ _ (by unfold maxLen; omega)).mono ?_; rintro e w' ⟨rfl, rfl⟩))
    go_ret
    exact ⟨ret_bool (unhide H).symm, unhide H5 _⟩
  rcases Bool.eq_false_or_eq_true (inB q 0 65535) with h2 | h2
  case inr =>
    have H := hide (show cmdOK k s q key val = false by simp [cmdOK, h2])
    go_enter Tryd.func16, Tryd.ntmps16
    go_wp2_with (first | (go_at_call 31; refine (l01In_any _ _ _ _).mono ?_; rintro e w' ⟨rfl, rfl⟩) | (go_at_call 32; refine (l02Key_any _ _ (by unfold maxLen; omega)).mono ?_; rintro e w' ⟨rfl, rfl⟩))
    go_ret
    exact ⟨ret_bool (unhide H).symm, unhide H5 _⟩
  by_cases h3 : (60 : Int) < (val.size : Int)
  · have H := hide (show cmdOK k s q key val = false by simp [cmdOK]; omega)
    go_enter Tryd.func16, Tryd.ntmps16
    go_wp2_with (first | (go_at_call 31; refine (l01In_any _ _ _ _).mono ?_; rintro e w' ⟨rfl, rfl⟩) | (go_at_call 32; refine (l02Key_any _ _ (by unfold maxLen; omega)).mono ?_; rintro e w' ⟨rfl, rfl⟩))
    go_ret
    exact ⟨ret_bool (unhide H).symm, unhide H5 _⟩
  have h3' : val.size ≤ 60 := by omega
  have E := hide (show cmdOK k s q key val = (if k = 1 ∨ k = 2 then inB key.size 1 24 else if k = 3 then inB key.size 1 24 && emptyB val else if k = 4 ∨ k = 5 then emptyB key && emptyB val && decide (q = 0) else false) by simp [cmdOK, h1, h2, h3'])
  clear h3'
  by_cases k1 : k = 1
  · have H := hide ((unhide E).trans (by rw [if_pos (Or.inl k1)]))
    subst k1
    go_enter Tryd.func16, Tryd.ntmps16
    go_wp2_with (first | (go_at_call 31; refine (l01In_any _ _ _ _).mono ?_; rintro e w' ⟨rfl, rfl⟩) | (go_at_call 32; refine (l02Key_any _ _ (by unfold maxLen; omega)).mono ?_; rintro e w' ⟨rfl, rfl⟩))
    go_ret
    exact ⟨ret_bool (unhide H).symm, unhide H5 _⟩
  by_cases k2 : k = 2
  · have H := hide ((unhide E).trans (by rw [if_pos (Or.inr k2)]))
    subst k2
    go_enter Tryd.func16, Tryd.ntmps16
    go_wp2_with (first | (go_at_call 31; refine (l01In_any _ _ _ _).mono ?_; rintro e w' ⟨rfl, rfl⟩) | (go_at_call 32; refine (l02Key_any _ _ (by unfold maxLen; omega)).mono ?_; rintro e w' ⟨rfl, rfl⟩))
    go_ret
    exact ⟨ret_bool (unhide H).symm, unhide H5 _⟩
  by_cases k3 : k = 3
  · have H := hide ((unhide E).trans (by rw [if_neg (by omega), if_pos k3]))
    subst k3
    rcases Bool.eq_false_or_eq_true (inB key.size 1 24) with h4 | h4
    · go_enter Tryd.func16, Tryd.ntmps16
      go_wp2_with (first | (go_at_call 31; refine (l01In_any _ _ _ _).mono ?_; rintro e w' ⟨rfl, rfl⟩) | (go_at_call 32; refine (l02Key_any _ _ (by unfold maxLen; omega)).mono ?_; rintro e w' ⟨rfl, rfl⟩))
      all_goals
        go_ret
        exact ⟨ret_bool (by rw [unhide H, h4]; simp [emptyB]), unhide H5 _⟩
    · go_enter Tryd.func16, Tryd.ntmps16
      go_wp2_with (first | (go_at_call 31; refine (l01In_any _ _ _ _).mono ?_; rintro e w' ⟨rfl, rfl⟩) | (go_at_call 32; refine (l02Key_any _ _ (by unfold maxLen; omega)).mono ?_; rintro e w' ⟨rfl, rfl⟩))
      go_ret
      exact ⟨ret_bool (by rw [unhide H, h4]; simp), unhide H5 _⟩
  by_cases k4 : k = 4 ∨ k = 5
  · have H := hide ((unhide E).trans (by rw [if_neg (by omega), if_neg k3, if_pos k4]))
    clear E k1 k2 k3
    have H4 := hide k4
    clear k4
    rcases Bool.eq_false_or_eq_true (emptyB key) with h4 | h4 <;> rcases Bool.eq_false_or_eq_true (emptyB val) with h5 | h5
    all_goals
      unfold emptyB at h4 h5
      rcases unhide H4 with k4 | k4
      all_goals
        subst k4
        go_enter Tryd.func16, Tryd.ntmps16
        go_wp2_with (first | (go_at_call 31; refine (l01In_any _ _ _ _).mono ?_; rintro e w' ⟨rfl, rfl⟩) | (go_at_call 32; refine (l02Key_any _ _ (by unfold maxLen; omega)).mono ?_; rintro e w' ⟨rfl, rfl⟩))
        all_goals
          go_ret
          refine ⟨ret_bool ?_, unhide H5 _⟩
          rw [unhide H]
          simp [emptyB, h4, h5]
          try rfl
  · have H := hide ((unhide E).trans (by rw [if_neg (by omega), if_neg k3, if_neg k4]))
    have k5 : ¬ k = 4 := by omega
    have k6 : ¬ k = 5 := by omega
    clear k4 E
    go_enter Tryd.func16, Tryd.ntmps16
    go_wp2_with (first | (go_at_call 31; refine (l01In_any _ _ _ _).mono ?_; rintro e w' ⟨rfl, rfl⟩) | (go_at_call 32; refine (l02Key_any _ _ (by unfold maxLen; omega)).mono ?_; rintro e w' ⟨rfl, rfl⟩))
    go_ret
    exact ⟨ret_bool (unhide H).symm, unhide H5 _⟩
end Go.Proofs.YtihhbngpajephaaDoor
