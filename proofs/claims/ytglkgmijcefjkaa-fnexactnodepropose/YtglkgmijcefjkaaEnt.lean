/- Whether an entry is right: impl.entryOK and spec.l02Entry, walked. -/
import Derived.Test.YtglkgmijcefjkaaMemR
namespace Go.Proofs.Ytglkgmijcefjkaa
open Go.ChangeShapes Go.WideShapes Go.ChangeAt Go.RowKit
set_option linter.unusedVariables false

theorem rising_ge {l : List Int} (h1 : InAll l) (h2 : Rising l) : ∀ i, i < l.length → (i : Int) ≤ l.getD i 0 := by
  intro i
  induction i with
  | zero => intro hi; have := inB_iff.1 (h1 0 hi); simpa using this.1
  | succ i ih =>
    intro hi
    have h := ih (by omega)
    rcases h2 (i + 1) hi with h0 | h0
    · omega
    · rw [Nat.add_sub_cancel] at h0; omega
theorem mFault_small {l : List Int} (h : mFault l = 0) : l.length ≤ 7 := by
  unfold mFault at h
  split at h
  · rename_i h1
    split at h
    · omega
    · split at h
      · rename_i h0 h2
        have h3 := rising_ge h1 h2 (l.length - 1) (by omega)
        have h4 := inB_iff.1 (h1 (l.length - 1) (by omega))
        omega
      · omega
  · omega
theorem memRead_code (d : ByteArray) : (memRead d).2 = 0 ↔ mFault (bytesI d) = 0 := by
  unfold memRead
  by_cases h : 65536 < d.size
  · rw [if_pos h]
    constructor
    · intro h1; simp at h1
    · intro h1; have := mFault_small h1; rw [bytesI_len] at this; omega
  · rw [if_neg h]
    by_cases h1 : mFault (bytesI d) = 0
    · rw [if_pos h1]; simp [h1]
    · rw [if_neg h1]; simp [h1]
/-- An entry is right. -/
def entOK (t k : Int) (d : ByteArray) : Bool :=
  if inB t 1 1000000 then (if k = 0 then emptyB d else if k = 1 then inB d.size 1 100 else if k = 2 then decide (mFault (bytesI d) = 0) else false) else false
theorem entOK_bounds {t k : Int} {d : ByteArray} (h : entOK t k d = true) : 1 ≤ t ∧ t ≤ 1000000 ∧ 0 ≤ k ∧ k ≤ 2 ∧ d.size ≤ 100 := by
  unfold entOK at h
  split at h
  · rename_i h1
    rw [inB_iff] at h1
    have : 0 ≤ k ∧ k ≤ 2 ∧ d.size ≤ 100 := by
      split at h
      · rw [emptyB_iff] at h; omega
      · split at h
        · rw [inB_iff] at h; omega
        · split at h
          · have h2 := mFault_small (of_decide_eq_true h); rw [bytesI_len] at h2; omega
          · cases h
    omega
  · cases h
set_option maxRecDepth 100000 in
set_option maxHeartbeats 1000000 in
theorem implEntryOK_any (t k : Int) (d : ByteArray) (w : World) (hd : d.size ≤ maxLen) :
    Calls Try.prog 67 #[.agg #[.int .i64 t, .int .i64 k, .string d]] w fun e w' => e = .returned (.bool (entOK t k d)) ∧ Below w.heap.size w w' := by
  have HD := hide hd
  unfold maxLen at hd
  have H5 := hide (fun o => (Below.refl w.heap.size w).alloc (Nat.le_refl _) o)
  rcases Bool.eq_false_or_eq_true (inB t 1 1000000) with h1 | h1
  case inr =>
    have H := hide (show entOK t k d = false by simp [entOK, h1])
    go_enter Try.func67, Try.ntmps67
    go_wp2_with (go_at_call 26; refine (within_any _ _ _ _).mono ?_; rintro e w' ⟨rfl, rfl⟩)
    go_ret
    exact ⟨ret_bool (unhide H).symm, unhide H5 _⟩
  by_cases k0 : k = 0
  · have H := hide (show entOK t k d = d.toList.isEmpty by simp [entOK, h1, k0, emptyB])
    subst k0
    go_enter Try.func67, Try.ntmps67
    go_wp2_with (go_at_call 26; refine (within_any _ _ _ _).mono ?_; rintro e w' ⟨rfl, rfl⟩)
    go_ret
    exact ⟨ret_bool (unhide H).symm, unhide H5 _⟩
  by_cases k1 : k = 1
  · have H := hide (show entOK t k d = inB d.size 1 100 by simp [entOK, h1, k1])
    subst k1
    go_enter Try.func67, Try.ntmps67
    go_wp2_with (go_at_call 26; refine (within_any _ _ _ _).mono ?_; rintro e w' ⟨rfl, rfl⟩)
    go_ret
    exact ⟨ret_bool (unhide H).symm, unhide H5 _⟩
  by_cases k2 : k = 2
  · have H := hide (show entOK t k d = decide (mFault (bytesI d) = 0) by simp [entOK, h1, k2])
    subst k2
    go_enter Try.func67, Try.ntmps67
    go_wp2_with (go_at_call 26; refine (within_any _ _ _ _).mono ?_; rintro e w' ⟨rfl, rfl⟩)
    refine (implReadMembers_any d _ (unhide HD)).mono ?_
    rintro e w1 ⟨v1, rfl, hO1, hb1⟩
    have B1 := hide ((unhide H5 (.cells #[.int .i64 t, .int .i64 2, .string d] 63)).trans (hb1.mono (by simp)))
    have HM := hide (memRead_code d)
    clear hO1 hb1
    generalize (memRead d).2 = c at *
    by_cases hc : c = 0
    · have hb : (c == 0) = true := by rw [hc]; rfl
      have HC := hide hc
      clear hc
      go_wp2_with fail
      go_ret
      exact ⟨ret_bool (by rw [unhide H]; have := (unhide HM).1 (unhide HC); simp [this]), unhide B1⟩
    · have hb : (c == 0) = false := by rw [beq_eq_false_iff_ne]; exact hc
      have HC := hide hc
      clear hc
      go_wp2_with fail
      go_ret
      exact ⟨ret_bool (by rw [unhide H]; exact (decide_eq_false (fun h => unhide HC ((unhide HM).2 h))).symm), unhide B1⟩
  · have H := hide (show entOK t k d = false by simp [entOK, h1, k0, k1, k2])
    go_enter Try.func67, Try.ntmps67
    go_wp2_with (go_at_call 26; refine (within_any _ _ _ _).mono ?_; rintro e w' ⟨rfl, rfl⟩)
    go_ret
    exact ⟨ret_bool (unhide H).symm, unhide H5 _⟩
set_option maxRecDepth 100000 in
set_option maxHeartbeats 1000000 in
theorem specEntry_any (t k : Int) (d : ByteArray) (w : World) (hd : d.size ≤ maxLen) (hs : d.size ≤ 1048576) :
    Calls Try.prog 61 #[.agg #[.int .i64 t, .int .i64 k, .string d]] w fun e w' => e = .returned (.bool (entOK t k d)) ∧ Below w.heap.size w w' := by
  have HD := hide hd
  unfold maxLen at hd
  have H5 := hide (fun o => (Below.refl w.heap.size w).alloc (Nat.le_refl _) o)
  rcases Bool.eq_false_or_eq_true (inB t 1 1000000) with h1 | h1
  case inr =>
    have H := hide (show entOK t k d = false by simp [entOK, h1])
    go_enter Try.func61, Try.ntmps61
    go_wp2_with (go_at_call 20; refine (l01In_any _ _ _ _).mono ?_; rintro e w' ⟨rfl, rfl⟩)
    go_ret
    exact ⟨ret_bool (unhide H).symm, unhide H5 _⟩
  by_cases k0 : k = 0
  · have H := hide (show entOK t k d = d.toList.isEmpty by simp [entOK, h1, k0, emptyB])
    subst k0
    go_enter Try.func61, Try.ntmps61
    go_wp2_with (go_at_call 20; refine (l01In_any _ _ _ _).mono ?_; rintro e w' ⟨rfl, rfl⟩)
    go_ret
    exact ⟨ret_bool (unhide H).symm, unhide H5 _⟩
  by_cases k1 : k = 1
  · have H := hide (show entOK t k d = inB d.size 1 100 by simp [entOK, h1, k1])
    subst k1
    go_enter Try.func61, Try.ntmps61
    by_cases h6 : 1 ≤ (d.size : Int)
    · go_wp2_with (go_at_call 20; refine (l01In_any _ _ _ _).mono ?_; rintro e w' ⟨rfl, rfl⟩)
      go_ret
      exact ⟨ret_bool (by rw [unhide H]; simp [inB, h6]), unhide H5 _⟩
    · have HF := hide (show inB d.size 1 100 = false by simp [inB]; omega)
      go_wp2_with (go_at_call 20; refine (l01In_any _ _ _ _).mono ?_; rintro e w' ⟨rfl, rfl⟩)
      go_ret
      exact ⟨ret_bool (by rw [unhide H, unhide HF]), unhide H5 _⟩
  by_cases k2 : k = 2
  · have H := hide (show entOK t k d = decide (mFault (bytesI d) = 0) by simp [entOK, h1, k2])
    subst k2
    go_enter Try.func61, Try.ntmps61
    go_wp2_with (go_at_call 20; refine (l01In_any _ _ _ _).mono ?_; rintro e w' ⟨rfl, rfl⟩)
    refine (l02Members_any d _ hs).mono ?_
    rintro e w1 ⟨v1, rfl, hO1, hb1⟩
    have B1 := hide ((unhide H5 (.cells #[.int .i64 t, .int .i64 2, .string d] 63)).trans (hb1.mono (by simp)))
    have HM := hide (memOut_fault d).1
    clear hO1 hb1
    rw [unhide HM]
    go_wp2_with fail
    go_ret
    exact ⟨ret_bool (unhide H).symm, unhide B1⟩
  · have H := hide (show entOK t k d = false by simp [entOK, h1, k0, k1, k2])
    go_enter Try.func61, Try.ntmps61
    go_wp2_with (go_at_call 20; refine (l01In_any _ _ _ _).mono ?_; rintro e w' ⟨rfl, rfl⟩)
    go_ret
    exact ⟨ret_bool (unhide H).symm, unhide H5 _⟩
end Go.Proofs.Ytglkgmijcefjkaa
