/- The words of the codes: what the listed table holds, and what spec.CodeWord and impl.CodeWord answer of every number. -/
import Derived.Test.YtbpadjocaigpgagDoorBase
import Derived.Test.YtbpadjocaigpgagDoorCards
import Derived.Test.YtbpadjocaigpgagDoorTie
import Derived.WalkSpells
import Derived.WalkSmall
import Derived.LaidMore
import Derived.Stop.Joined
import Derived.Lib.LaidTab
import Derived.ChangeVars
namespace Go.Proofs.YtbpadjocaigpgagDoor
open Go.ChangeShapes Go.WideShapes Go.ChangeAt Go.RowKit
set_option linter.unusedVariables false

def wordL : List ByteArray := [⟨#[111, 107]⟩, ⟨#[98, 97, 100]⟩, ⟨#[108, 111, 110, 103]⟩, ⟨#[102, 111, 114, 109]⟩, ⟨#[114, 97, 110, 103, 101]⟩, ⟨#[110, 111, 110, 101]⟩, ⟨#[109, 97, 110, 121]⟩, ⟨#[102, 117, 108, 108]⟩, ⟨#[115, 117, 109]⟩, ⟨#[116, 119, 105, 99, 101]⟩, ⟨#[112, 114, 111, 111, 102]⟩, ⟨#[114, 111, 111, 116]⟩, ⟨#[115, 105, 103, 110, 101, 100]⟩, ⟨#[117, 115, 101, 100]⟩, ⟨#[108, 101, 97, 100, 101, 114]⟩, ⟨#[97, 103, 97, 105, 110]⟩, ⟨#[108, 97, 116, 101]⟩, ⟨#[99, 111, 110, 102, 105, 103]⟩, ⟨#[101, 120, 112, 105, 114, 101, 100]⟩, ⟨#[102, 111, 114, 107]⟩]
def wordAt (code : Int) : ByteArray := if code < 0 then ⟨#[]⟩ else wordL.getD code.toNat ⟨#[]⟩
theorem wordAt_neg {c : Int} (h : c < 0) : wordAt c = ⟨#[]⟩ := by unfold wordAt; rw [if_pos h]
theorem wordAt_big {c : Int} (h : 20 ≤ c) : wordAt c = ⟨#[]⟩ := by
  unfold wordAt; rw [if_neg (by omega), List.getD_eq_getElem?_getD, List.getElem?_eq_none (by simp [wordL]; omega)]; rfl

set_option maxRecDepth 100000 in
set_option maxHeartbeats 2000000 in
theorem specWord_any (c : Int) (w : World) :
    Calls Tryd.prog 6 #[.int .i64 c] w fun e w' => e = .returned (.string (wordAt c)) ∧ Below w.heap.size w w' := by
  by_cases h0 : c < 0
  · have H := hide (wordAt_neg h0)
    go_enter Tryd.func6, Tryd.ntmps6
    go_wp2_with fail
    go_ret
    exact ⟨by rw [unhide H]; rfl, (Below.refl _ _).alloc (Nat.le_refl _) _⟩
  · by_cases h1 : 20 ≤ c
    · have H := hide (wordAt_big h1)
      go_enter Tryd.func6, Tryd.ntmps6
      go_wp2_with fail
      go_ret
      exact ⟨by rw [unhide H]; rfl, (Below.refl _ _).alloc (Nat.le_refl _) _⟩
    · rcases (show c = 0 ∨ c = 1 ∨ c = 2 ∨ c = 3 ∨ c = 4 ∨ c = 5 ∨ c = 6 ∨ c = 7 ∨ c = 8 ∨ c = 9 ∨ c = 10 ∨ c = 11 ∨ c = 12 ∨ c = 13 ∨ c = 14 ∨ c = 15 ∨ c = 16 ∨ c = 17 ∨ c = 18 ∨ c = 19 by omega) with rfl | rfl | rfl | rfl | rfl | rfl | rfl | rfl | rfl | rfl | rfl | rfl | rfl | rfl | rfl | rfl | rfl | rfl | rfl | rfl
      all_goals
        clear h0 h1
        go_enter Tryd.func6, Tryd.ntmps6
        go_wp2_with fail
        go_ret
        exact ⟨rfl, (Below.refl _ _).alloc (Nat.le_refl _) _⟩

def Words (w : World) : Prop := ∀ k, k < 20 → w.cell? ⟨0, k, none⟩ = some (.string (wordL.getD k ⟨#[]⟩))
set_option maxHeartbeats 400000 in
theorem implWord_any (c : Int) (w : World) (hw : Words w) :
    Calls Tryd.prog 7 #[.int .i64 c] w fun e w' => e = .returned (.string (wordAt c)) ∧ w' = w := by
  by_cases h0 : c < 0
  · have H := hide (wordAt_neg h0)
    go_enter Tryd.func7, Tryd.ntmps7
    go_wp2_with fail
    go_ret
    exact ⟨by rw [unhide H]; rfl, rfl⟩
  · by_cases h1 : 20 ≤ c
    · have H := hide (wordAt_big h1)
      go_enter Tryd.func7, Tryd.ntmps7
      go_wp2_with fail
      go_ret
      exact ⟨by rw [unhide H]; rfl, rfl⟩
    · obtain ⟨k, rfl⟩ := Int.eq_ofNat_of_zero_le (show 0 ≤ c by omega)
      have hk : k < 20 := by omega
      have hc := hw k hk
      have H : Hid (wordAt (k : Int) = wordL.getD k ⟨#[]⟩) := by unfold Hid wordAt; rw [if_neg (by omega), Int.toNat_natCast]
      generalize wordL.getD k ⟨#[]⟩ = x at *
      clear hw
      go_enter Tryd.func7, Tryd.ntmps7
      go_wp2_with fail
      go_ret
      exact ⟨by rw [unhide H]; rfl, rfl⟩
end Go.Proofs.YtbpadjocaigpgagDoor
