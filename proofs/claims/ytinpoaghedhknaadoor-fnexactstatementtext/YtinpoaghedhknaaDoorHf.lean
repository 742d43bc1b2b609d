/- What is no hash: hashFault, notHash. -/
import Derived.Test.YtinpoaghedhknaaDoorIn
namespace Go.Proofs.YtinpoaghedhknaaDoor
open Go.ChangeShapes Go.WideShapes Go.ChangeAt Go.RowKit
set_option linter.unusedVariables false

/-- The code of a text that was handed in as a hash. -/
def hfC (s : ByteArray) : Int := if 65536 < s.size then 2 else if s.size = 32 then 0 else 1
set_option maxRecDepth 100000 in
theorem hashFault_any (s : ByteArray) (w : World) (hs : s.size ≤ maxLen) :
    Calls Tryd.prog 69 #[.string s] w fun e w' => e = .returned (.int .i64 (hfC s)) ∧ w' = w := by
  unfold maxLen at hs
  by_cases h1 : 65536 < s.size
  · have H : Hid (hfC s = 2) := hide (by unfold hfC; rw [if_pos h1])
    go_enter Tryd.func69, Tryd.ntmps69
    go_wp2_with fail
    go_ret
    exact ⟨ret_int (unhide H).symm, rfl⟩
  · by_cases h2 : s.size = 32
    · have H : Hid (hfC s = 0) := hide (by unfold hfC; rw [if_neg h1, if_pos h2])
      go_enter Tryd.func69, Tryd.ntmps69
      go_wp2_with fail
      go_ret
      exact ⟨ret_int (unhide H).symm, rfl⟩
    · have H : Hid (hfC s = 1) := hide (by unfold hfC; rw [if_neg h1, if_neg h2])
      have h3 : (s.size : Int) ≠ 32 := by omega
      go_enter Tryd.func69, Tryd.ntmps69
      go_wp2_with fail
      go_ret
      exact ⟨ret_int (unhide H).symm, rfl⟩
set_option maxRecDepth 100000 in
theorem notHash_any (s : ByteArray) (w : World) (hs : s.size ≤ maxLen) :
    Calls Tryd.prog 43 #[.string s] w fun e w' => e = .returned (.bool (!decide (s.size = 32))) ∧ w' = w := by
  have H : Hid (s.size = 32 ↔ hfC s = 0) := hide (by
    unfold hfC; constructor
    · intro h; rw [if_neg (by omega), if_pos h]
    · intro h; split at h
      · cases h
      · split at h
        · assumption
        · cases h)
  have HF := hide (hashFault_any s w hs)
  generalize hfC s = c at *
  go_enter Tryd.func43, Tryd.ntmps43
  go_wp2_with fail
  refine (unhide HF).mono ?_
  rintro e w' ⟨rfl, rfl⟩
  by_cases h : c = 0
  · have h32 := (unhide H).2 h
    subst h
    go_wp2_with fail
    go_ret
    exact ⟨ret_bool (by simp [h32]), rfl⟩
  · have h32 : ¬ s.size = 32 := fun e => h ((unhide H).1 e)
    have HN := hide h32
    clear h32
    go_wp2_with fail
    go_ret
    exact ⟨ret_bool (by simp [unhide HN, h]), rfl⟩
end Go.Proofs.YtinpoaghedhknaaDoor
