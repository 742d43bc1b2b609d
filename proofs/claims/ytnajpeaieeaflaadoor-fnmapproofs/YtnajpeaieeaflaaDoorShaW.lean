/- The hash's small functions on words, walked. -/
import Derived.Test.YtnajpeaieeaflaaDoorSha
import Derived.WalkSpells
namespace Go.Proofs.YtnajpeaieeaflaaDoor.Sha
open Go.ChangeShapes Go.WideShapes Go.ChangeAt Go.RowKit
set_option linter.unusedVariables false

theorem l01Turn_any (x n : Nat) (w : World) (hx : x < 4294967296) (h1 : 1 ≤ n) (h2 : n ≤ 31) :
    Calls Tryd.prog 90 #[.int .u32 x, .int .u64 n] w fun e w' => e = .returned (.int .u32 (rotr x n)) ∧ w' = w := by
  have H := hide (wrotr n hx)
  go_enter Tryd.func90, Tryd.ntmps90
  go_wp2
  go_ret
  exact ⟨ret_int (unhide H), rfl⟩
theorem rotl_any (x n : Nat) (w : World) (hx : x < 4294967296) (h1 : 1 ≤ n) (h2 : n ≤ 31) :
    Calls Tryd.prog 95 #[.int .u32 x, .int .i64 (-(n : Int))] w fun e w' => e = .returned (.int .u32 (rotr x n)) ∧ w' = w := by
  have H := hide (wrotl n hx)
  have ht := wturn n h1 h2
  obtain ⟨m, rfl⟩ : ∃ m, n = 32 - m := ⟨32 - n, by omega⟩
  have e : 32 - (32 - m) = m := by omega
  rw [e] at H ht
  have hm1 : 1 ≤ m := by omega
  have hm2 : m ≤ 31 := by omega
  clear e h1 h2
  go_enter Tryd.func95, Tryd.ntmps95
  go_wp2
  go_ret
  exact ⟨ret_int (unhide H), rfl⟩
theorem turnRight_any (x n : Nat) (w : World) (hx : x < 4294967296) (h1 : 1 ≤ n) (h2 : n ≤ 31) :
    Calls Tryd.prog 93 #[.int .u32 x, .int .i64 n] w fun e w' => e = .returned (.int .u32 (rotr x n)) ∧ w' = w := by
  go_enter Tryd.func93, Tryd.ntmps93
  go_wp2_with fail
  refine (rotl_any x n _ hx h1 h2).mono ?_
  rintro e w' ⟨rfl, rfl⟩
  go_wp2_with fail
  go_ret
  exact ⟨rfl, rfl⟩
theorem xor3 {a b c : Nat} (h : a < 4294967296) (h2 : b < 4294967296) (h3 : c < 4294967296) : bits BinOp.xor IntKind.u32 (bits BinOp.xor IntKind.u32 (a : Int) (b : Int)) (c : Int) = ((a ^^^ b ^^^ c : Nat) : Int) := by
  rw [wxor h h2, wxor (xor_lt h h2) h3]
theorem greatE_any (x : Nat) (w : World) (hx : x < 4294967296) :
    Calls Tryd.prog 81 #[.int .u32 x] w fun e w' => e = .returned (.int .u32 (bE x)) ∧ w' = w := by
  have H := hide (xor3 (rotr_lt hx 6) (rotr_lt hx 11) (rotr_lt hx 25))
  go_enter Tryd.func81, Tryd.ntmps81
  go_wp2_with fail
  refine (turnRight_any x 6 _ hx (by omega) (by omega)).mono ?_
  rintro e w' ⟨rfl, rfl⟩
  go_wp2_with fail
  refine (turnRight_any x 11 _ hx (by omega) (by omega)).mono ?_
  rintro e w' ⟨rfl, rfl⟩
  go_wp2_with fail
  refine (turnRight_any x 25 _ hx (by omega) (by omega)).mono ?_
  rintro e w' ⟨rfl, rfl⟩
  go_wp2_with fail
  go_ret
  exact ⟨ret_int (unhide H), rfl⟩
theorem greatA_any (x : Nat) (w : World) (hx : x < 4294967296) :
    Calls Tryd.prog 83 #[.int .u32 x] w fun e w' => e = .returned (.int .u32 (bA x)) ∧ w' = w := by
  have H := hide (xor3 (rotr_lt hx 2) (rotr_lt hx 13) (rotr_lt hx 22))
  go_enter Tryd.func83, Tryd.ntmps83
  go_wp2_with fail
  refine (turnRight_any x 2 _ hx (by omega) (by omega)).mono ?_
  rintro e w' ⟨rfl, rfl⟩
  go_wp2_with fail
  refine (turnRight_any x 13 _ hx (by omega) (by omega)).mono ?_
  rintro e w' ⟨rfl, rfl⟩
  go_wp2_with fail
  refine (turnRight_any x 22 _ hx (by omega) (by omega)).mono ?_
  rintro e w' ⟨rfl, rfl⟩
  go_wp2_with fail
  go_ret
  exact ⟨ret_int (unhide H), rfl⟩
theorem smallS_any (x : Nat) (w : World) (hx : x < 4294967296) :
    Calls Tryd.prog 86 #[.int .u32 x] w fun e w' => e = .returned (.int .u32 (s0 x)) ∧ w' = w := by
  have H := hide (xor3 (rotr_lt hx 7) (rotr_lt hx 18) (div_lt hx 8))
  go_enter Tryd.func86, Tryd.ntmps86
  go_wp2_with fail
  refine (turnRight_any x 7 _ hx (by omega) (by omega)).mono ?_
  rintro e w' ⟨rfl, rfl⟩
  go_wp2_with fail
  refine (turnRight_any x 18 _ hx (by omega) (by omega)).mono ?_
  rintro e w' ⟨rfl, rfl⟩
  go_wp2_with fail
  go_ret
  exact ⟨ret_int (unhide H), rfl⟩
theorem smallT_any (x : Nat) (w : World) (hx : x < 4294967296) :
    Calls Tryd.prog 87 #[.int .u32 x] w fun e w' => e = .returned (.int .u32 (s1 x)) ∧ w' = w := by
  have H := hide (xor3 (rotr_lt hx 17) (rotr_lt hx 19) (div_lt hx 1024))
  go_enter Tryd.func87, Tryd.ntmps87
  go_wp2_with fail
  refine (turnRight_any x 17 _ hx (by omega) (by omega)).mono ?_
  rintro e w' ⟨rfl, rfl⟩
  go_wp2_with fail
  refine (turnRight_any x 19 _ hx (by omega) (by omega)).mono ?_
  rintro e w' ⟨rfl, rfl⟩
  go_wp2_with fail
  go_ret
  exact ⟨ret_int (unhide H), rfl⟩
theorem wch {e f g : Nat} (h : e < 4294967296) (h2 : f < 4294967296) (h3 : g < 4294967296) :
    bits BinOp.or IntKind.u32 (bits BinOp.and IntKind.u32 (e : Int) (f : Int)) (bits BinOp.and IntKind.u32 (bits BinOp.xor IntKind.u32 IntKind.u32.max (e : Int)) (g : Int)) = ((ch e f g : Nat) : Int) := by
  rw [wnot h, wand h h2, wand (not_lt h) h3, wor (and_lt h) (and_lt (not_lt h))]; rfl
theorem wmaj {a b c : Nat} (h : a < 4294967296) (h2 : b < 4294967296) (h3 : c < 4294967296) :
    bits BinOp.or IntKind.u32 (bits BinOp.or IntKind.u32 (bits BinOp.and IntKind.u32 (a : Int) (b : Int)) (bits BinOp.and IntKind.u32 (a : Int) (c : Int))) (bits BinOp.and IntKind.u32 (b : Int) (c : Int)) = ((maj a b c : Nat) : Int) := by
  rw [wand h h2, wand h h3, wand h2 h3, wor (and_lt h) (and_lt h), wor (or_lt (and_lt h) (and_lt h)) (and_lt h2)]; rfl
theorem choose_any (e f g : Nat) (w : World) (h : e < 4294967296) (h2 : f < 4294967296) (h3 : g < 4294967296) :
    Calls Tryd.prog 82 #[.int .u32 e, .int .u32 f, .int .u32 g] w fun r w' => r = .returned (.int .u32 (ch e f g)) ∧ w' = w := by
  have H := hide (wch h h2 h3)
  go_enter Tryd.func82, Tryd.ntmps82
  go_wp2
  go_ret
  exact ⟨ret_int (unhide H), rfl⟩
theorem majority_any (a b c : Nat) (w : World) (h : a < 4294967296) (h2 : b < 4294967296) (h3 : c < 4294967296) :
    Calls Tryd.prog 84 #[.int .u32 a, .int .u32 b, .int .u32 c] w fun r w' => r = .returned (.int .u32 (maj a b c)) ∧ w' = w := by
  have H := hide (wmaj h h2 h3)
  go_enter Tryd.func84, Tryd.ntmps84
  go_wp2
  go_ret
  exact ⟨ret_int (unhide H), rfl⟩
end Go.Proofs.YtnajpeaieeaflaaDoor.Sha
