/- The letter of a record: strings.IndexByte of "TCE". -/
import Derived.Test.YtpdjfjapdmopoaaIn
import Derived.Laws.Externs
namespace Go.Proofs.Ytpdjfjapdmopoaa
open Go.ChangeShapes Go.WideShapes Go.ChangeAt Go.RowKit
set_option linter.unusedVariables false

def letP (c : Int) : Int := if c = 84 then 0 else if c = 67 then 1 else if c = 69 then 2 else -1
theorem idx_let (c : Int) (h0 : 0 ≤ c) (h1 : c ≤ 255) : firstIdx ⟨#[84, 67, 69]⟩ c.toNat.toUInt8 = letP c := by
  have key : ∀ n : Nat, n < 256 → firstIdx ⟨#[84, 67, 69]⟩ n.toUInt8 = letP (n : Int) := by decide +kernel
  have h := key c.toNat (by omega)
  rwa [Int.toNat_of_nonneg h0] at h
theorem call_idx (c : Int) (h0 : 0 ≤ c) (h1 : c ≤ 255) (w : World) : (callFunc 68 #[.string ⟨#[84, 67, 69]⟩, .int .u8 c]).run Try.prog w = .ok (.value (.int .i64 (letP c))) w := by
  rw [run_callFunc_extern Try.func68 (by kernel_rfl) (by kernel_rfl) (by kernel_rfl) (e := Extern.BytealgIndexByte.indexByte) (by kernel_rfl), run_indexByte_string, idx_let c h0 h1]; rfl
set_option maxRecDepth 100000 in
theorem sliteIndexByte_any (c : Int) (h0 : 0 ≤ c) (h1 : c ≤ 255) (w : World) :
    Calls Try.prog 53 #[.string ⟨#[84, 67, 69]⟩, .int .u8 c] w fun e w' => e = .returned (.int .i64 (letP c)) ∧ w' = w := by
  have h := call_idx c h0 h1 w
  generalize letP c = r at *
  go_enter Try.func53, Try.ntmps53
  go_wp2_with fail
  go_ret
  exact ⟨rfl, rfl⟩
set_option maxRecDepth 100000 in
theorem indexByte_any (c : Int) (h0 : 0 ≤ c) (h1 : c ≤ 255) (w : World) :
    Calls Try.prog 36 #[.string ⟨#[84, 67, 69]⟩, .int .u8 c] w fun e w' => e = .returned (.int .i64 (letP c)) ∧ w' = w := by
  have H := hide (sliteIndexByte_any c h0 h1 w)
  generalize letP c = r at *
  go_enter Try.func36, Try.ntmps36
  go_wp2_with fail
  refine (unhide H).mono ?_
  rintro e w' ⟨rfl, hw⟩
  have hw2 := hw.symm
  clear hw
  subst hw2
  go_wp2_with fail
  go_ret
  exact ⟨rfl, rfl⟩
end Go.Proofs.Ytpdjfjapdmopoaa
