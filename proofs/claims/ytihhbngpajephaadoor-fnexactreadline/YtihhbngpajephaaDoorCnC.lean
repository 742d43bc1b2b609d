/- A console's line: whether it says nothing. -/
import Derived.Test.YtihhbngpajephaaDoorCnB
import Derived.Test.YtihhbngpajephaaDoorStrO
namespace Go.Proofs.YtihhbngpajephaaDoor.Sha
open Go.ChangeShapes Go.WideShapes Go.ChangeAt Go.RowKit
set_option linter.unusedVariables false
set_option linter.unusedSimpArgs false

/-- A text that begins with the remark's sign. -/
def hashB (s : ByteArray) : Bool := if 1 ≤ s.size then (s.extract 0 1).toList == [35] else false
set_option maxRecDepth 100000 in
set_option maxHeartbeats 1000000 in
theorem litePrefix_any (s : ByteArray) (w : World) (hs : s.size ≤ maxLen) :
    Calls Tryd.prog 42 #[.string s, .string ⟨#[35]⟩] w fun e w' => e = .returned (.bool (hashB s)) ∧ w' = w := by
  unfold maxLen at hs
  have h1 : (⟨#[35]⟩ : ByteArray).size = 1 := rfl
  unfold hashB
  go_enter Tryd.func42, Tryd.ntmps42
  by_cases h : 1 ≤ s.size
  · rw [if_pos h]
    have hi : decide ((s.size : Int) ≥ 1) = true := decide_eq_true (by omega)
    go_wp2_with fail
    go_ret
    exact ⟨rfl, rfl⟩
  · rw [if_neg h]
    have hi : decide ((s.size : Int) ≥ 1) = false := decide_eq_false (by omega)
    go_wp2_with fail
    go_ret
    exact ⟨rfl, rfl⟩
set_option maxRecDepth 100000 in
set_option maxHeartbeats 1000000 in
theorem hasPrefix_any (s : ByteArray) (w : World) (hs : s.size ≤ maxLen) :
    Calls Tryd.prog 38 #[.string s, .string ⟨#[35]⟩] w fun e w' => e = .returned (.bool (hashB s)) ∧ w' = w := by
  have HC := hide (litePrefix_any s w hs)
  go_enter Tryd.func38, Tryd.ntmps38
  go_wp2_with fail
  refine (unhide HC).mono ?_
  rintro e w9 ⟨rfl, hw⟩
  subst w9
  go_wp2_with fail
  go_ret
  exact ⟨rfl, rfl⟩
/-- Words that say nothing. -/
def silB (l : List ByteArray) : Bool := if l.length = 0 then true else hashB (l.getD 0 ByteArray.empty)
set_option maxRecDepth 100000 in
set_option maxHeartbeats 1000000 in
theorem silent_any (a : Option Addr) (cap : Nat) (l : List ByteArray) (w : World) (h : Strs w (.slice a l.length cap) l) (h0 : (l.getD 0 ByteArray.empty).size ≤ maxLen) :
    Calls Tryd.prog 28 #[.slice a l.length cap] w fun e w' => e = .returned (.bool (silB l)) ∧ w' = w := by
  obtain ⟨a2, c2, e, hm, hc⟩ := h
  simp only [Value.slice.injEq] at e
  obtain ⟨rfl, _, rfl⟩ := e
  have HC := hide (hasPrefix_any (l.getD 0 ByteArray.empty) w h0)
  unfold maxLen at hm
  unfold silB
  go_enter Tryd.func28, Tryd.ntmps28
  by_cases h0 : l.length = 0
  · rw [if_pos h0]
    have hi : ((l.length : Int) == 0) = true := by simp [h0]
    clear hc HC
    go_wp2_with fail
    go_ret
    exact ⟨rfl, rfl⟩
  · rw [if_neg h0]
    have hi : ((l.length : Int) == 0) = false := beq_eq_false_iff_ne.2 (by omega)
    rcases hc with hc | ⟨b, off, rfl, hb, hc⟩
    · exact absurd hc h0
    have c0 := hc 0 (by omega)
    rw [Nat.add_zero] at c0
    clear hc
    generalize l.getD 0 ByteArray.empty = s at *
    have hl0 : (0 : Int) < (l.length : Int) := by omega
    go_wp2_with fail
    refine (unhide HC).mono ?_
    rintro e w9 ⟨rfl, hw⟩
    subst w9
    go_wp2_with fail
    go_ret
    exact ⟨rfl, rfl⟩
end Go.Proofs.YtihhbngpajephaaDoor.Sha
