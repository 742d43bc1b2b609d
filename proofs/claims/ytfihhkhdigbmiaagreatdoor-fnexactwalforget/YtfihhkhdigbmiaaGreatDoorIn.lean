/- Numbers in their bounds; a struct's box; small laws. -/
import Derived.Test.YtfihhkhdigbmiaaGreatDoorBytes
namespace Go.Proofs.YtfihhkhdigbmiaaGreatDoor
open Go.ChangeShapes Go.WideShapes Go.ChangeAt Go.RowKit
set_option linter.unusedVariables false

def inB (n lo hi : Int) : Bool := decide (lo ≤ n) && decide (n ≤ hi)
theorem inB_iff {n lo hi : Int} : inB n lo hi = true ↔ lo ≤ n ∧ n ≤ hi := by simp [inB]
theorem inB_no {n lo hi : Int} (h : inB n lo hi = false) : n < lo ∨ hi < n := by
  simp [inB] at h; omega
theorem within_any (n lo hi : Int) (w : World) :
    Calls Tryz.prog 38 #[.int .i64 n, .int .i64 lo, .int .i64 hi] w fun e w' => e = .returned (.bool (inB n lo hi)) ∧ w' = w := by
  by_cases h1 : lo ≤ n
  · by_cases h2 : n ≤ hi
    · have H := hide (show inB n lo hi = true from inB_iff.2 ⟨h1, h2⟩)
      go_enter Tryz.func38, Tryz.ntmps38
      go_wp2
      go_ret
      exact ⟨ret_bool (unhide H).symm, rfl⟩
    · have H := hide (show inB n lo hi = false by simp [inB]; omega)
      go_enter Tryz.func38, Tryz.ntmps38
      go_wp2
      go_ret
      exact ⟨ret_bool (unhide H).symm, rfl⟩
  · have H := hide (show inB n lo hi = false by simp [inB]; omega)
    go_enter Tryz.func38, Tryz.ntmps38
    go_wp2
    go_ret
    exact ⟨ret_bool (unhide H).symm, rfl⟩
theorem l01In_any (n lo hi : Int) (w : World) :
    Calls Tryz.prog 31 #[.int .i64 n, .int .i64 lo, .int .i64 hi] w fun e w' => e = .returned (.bool (inB n lo hi)) ∧ w' = w := by
  by_cases h1 : lo ≤ n
  · by_cases h2 : n ≤ hi
    · have H := hide (show inB n lo hi = true from inB_iff.2 ⟨h1, h2⟩)
      go_enter Tryz.func31, Tryz.ntmps31
      go_wp2
      go_ret
      exact ⟨ret_bool (unhide H).symm, rfl⟩
    · have H := hide (show inB n lo hi = false by simp [inB]; omega)
      go_enter Tryz.func31, Tryz.ntmps31
      go_wp2
      go_ret
      exact ⟨ret_bool (unhide H).symm, rfl⟩
  · have H := hide (show inB n lo hi = false by simp [inB]; omega)
    go_enter Tryz.func31, Tryz.ntmps31
    go_wp2
    go_ret
    exact ⟨ret_bool (unhide H).symm, rfl⟩

theorem five_cell {w wx : World} {B : Nat} {a b c d e : Value} {t : TypeId} (hB : B = w.heap.size) (h : Below (w.heap.size + 1) (w.alloc (.cells #[a, b, c, d, e] t)) wx) :
    wx.cell? ⟨B, 0, none⟩ = some a ∧ wx.cell? ⟨B, 1, none⟩ = some b ∧ wx.cell? ⟨B, 2, none⟩ = some c ∧ wx.cell? ⟨B, 3, none⟩ = some d ∧ wx.cell? ⟨B, 4, none⟩ = some e := by
  subst hB
  refine ⟨?_, ?_, ?_, ?_, ?_⟩
  all_goals
    rw [h.cell (by simp), World.cell?_alloc_at _ _ _ _ rfl]; rfl

def emptyB (s : ByteArray) : Bool := s.toList.isEmpty
theorem emptyB_iff {s : ByteArray} : emptyB s = true ↔ s.size = 0 := by
  unfold emptyB; rw [List.isEmpty_iff, ByteArray.toList_eq]
  constructor
  · intro h; have : s.data.toList.length = 0 := by rw [h]; rfl
    rw [Array.length_toList] at this; exact this
  · intro h; apply List.eq_nil_of_length_eq_zero; rw [Array.length_toList]; exact h
theorem ret_two {a : Value} {x y : Int} (h : x = y) : Ending.returned (.tuple #[a, .int .i64 x]) = .returned (.tuple #[a, .int .i64 y]) := by rw [h]
end Go.Proofs.YtfihhkhdigbmiaaGreatDoor
