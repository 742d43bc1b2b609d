/- The worst of two codes: worstFault. -/
import Derived.Test.YtnajpeaieeaflaaDoorBytes
namespace Go.Proofs.YtnajpeaieeaflaaDoor.Sha
open Go.ChangeShapes Go.WideShapes Go.ChangeAt Go.RowKit
set_option linter.unusedVariables false

def mxI (a b : Int) : Int := if a < b then b else a
set_option maxRecDepth 100000 in
theorem worst1_any (a b : Int) (w : World) :
    Calls Tryd.prog 64 #[.int .i64 a, .int .i64 b] w fun e w' => e = .returned (.int .i64 (mxI a b)) ∧ w' = w := by
  by_cases h : a < b
  · have H : Hid (mxI a b = b) := hide (if_pos h)
    go_enter Tryd.func64, Tryd.ntmps64
    go_wp2_with fail
    go_ret
    exact ⟨ret_int (unhide H).symm, rfl⟩
  · have H : Hid (mxI a b = a) := hide (if_neg h)
    go_enter Tryd.func64, Tryd.ntmps64
    go_wp2_with fail
    go_ret
    exact ⟨ret_int (unhide H).symm, rfl⟩
/-- The greatest of the first k. -/
def mxTo (l : List Int) : Nat → Int
  | 0 => 0
  | k + 1 => mxI (mxTo l k) (l.getD k 0)
set_option maxRecDepth 100000 in
set_option maxHeartbeats 1000000 in
theorem foldInt_any (l : List Int) (b cap : Nat) (w : World) (hl : l.length ≤ 1000) (hc : ∀ i, i < l.length → w.cell? ⟨b, i, none⟩ = some (.int .i64 (l.getD i 0))) :
    Calls Tryd.prog 63 #[.slice (some ⟨b, 0, none⟩) l.length cap, .int .i64 0, .func (.func 64) #[] #[]] w fun e w' => e = .returned (.int .i64 (mxTo l l.length)) ∧ w' = w := by
  have HC := hide hc
  clear hc
  go_enter Tryd.func63, Tryd.ntmps63
  go_wp2_with fail
  go_loop [1, 11] (fun v i => ∃ k : Nat, k ≤ l.length ∧ i = .int .i64 k ∧ v = .int .i64 (mxTo l k)) (fun _ i => l.length - (intOf i).toNat)
  case atStart => exact ⟨0, Nat.zero_le _, rfl, rfl⟩
  case round =>
    obtain ⟨k, hk, rfl, rfl⟩ := hrel
    by_cases hlt : k < l.length
    · have c0 := unhide HC k hlt
      have hk0 : (0 : Int) ≤ (k : Int) := by omega
      have hk1 : (k : Int) < (l.length : Int) := by omega
      have HW := hide (worst1_any (mxTo l k) (l.getD k 0) w)
      have HE : Hid (mxTo l (k + 1) = mxI (mxTo l k) (l.getD k 0)) := rfl
      generalize mxTo l k = x at *
      generalize l.getD k 0 = y at *
      generalize mxI x y = z at *
      go_wp2_with fail
      refine (unhide HW).mono ?_
      rintro e w' ⟨rfl, rfl⟩
      go_wp2_with fail
      refine ⟨⟨k + 1, by omega, by go_num, by rw [unhide HE]⟩, ?_⟩
      simp [intOf]; omega
    · obtain rfl : k = l.length := by omega
      go_wp2_with fail
      go_ret
      exact ⟨rfl, rfl⟩
set_option maxRecDepth 100000 in
theorem worst_any (c1 c2 : Int) (b : Nat) (w : World) (h0 : 0 ≤ c1) (h1 : 0 ≤ c2) (k0 : w.cell? ⟨b, 0, none⟩ = some (.int .i64 c1)) (k1 : w.cell? ⟨b, 1, none⟩ = some (.int .i64 c2)) :
    Calls Tryd.prog 26 #[.slice (some ⟨b, 0, none⟩) 2 2] w fun e w' => e = .returned (.int .i64 (mxI c1 c2)) ∧ w' = w := by
  have HF := hide (foldInt_any [c1, c2] b 2 w (by simp) (fun i hi => by
    match i, hi with
    | 0, _ => exact k0
    | 1, _ => exact k1))
  have HE : Hid (mxTo [c1, c2] [c1, c2].length = mxI c1 c2) := hide (by
    show mxI (mxI 0 c1) c2 = mxI c1 c2
    have : mxI 0 c1 = c1 := by unfold mxI; split <;> omega
    rw [this])
  clear k0 k1
  go_enter Tryd.func26, Tryd.ntmps26
  go_wp2_with fail
  refine (unhide HF).mono ?_
  rintro e w' ⟨rfl, rfl⟩
  rw [unhide HE]
  go_wp2_with fail
  go_ret
  exact ⟨rfl, rfl⟩
end Go.Proofs.YtnajpeaieeaflaaDoor.Sha
