/- strconv.Itoa of a number below 100: by the library's own contract of internal/strconv.small, laid at this program; the three functions above it walked. -/
import Derived.Test.YtinpoaghedhknaaDoorIn
import Derived.Shelf.Strconv.Itoa1
namespace Go.Proofs.YtinpoaghedhknaaDoor
open Go.ChangeShapes Go.WideShapes Go.ChangeAt Go.RowKit Go.Shelf
set_option linter.unusedVariables false

def smR : Go.Shelf.Ren := ⟨fun _ => 100, fun t => t, fun x => x⟩
set_option maxRecDepth 100000 in
theorem smL : Lays.n283 Tryd.prog smR where
  mixed := by kernel_rfl
  f283 := by kernel_rfl
  t3 := by kernel_rfl
  a3 := fun w => by kernel_rfl
  z3 := fun w => by kernel_rfl
  v3 := fun w => by kernel_rfl
  t4 := by kernel_rfl
  a4 := fun w => by kernel_rfl
  z4 := fun w => by kernel_rfl
  v4 := fun w => by kernel_rfl
  t9 := by kernel_rfl
  a9 := fun w => by kernel_rfl
  z9 := fun w => by kernel_rfl
  v9 := fun w => by kernel_rfl
/-- A number's digits. -/
def digT (n : Nat) : ByteArray := ⟨(Lib.decDigits n).toArray⟩
theorem small_any (i : Nat) (h : i < 100) (w : World) :
    Calls Tryd.prog 100 #[.int .i64 i] w fun e w' => e = .returned (.string (digT i)) ∧ w' = w := Any.internal_strconv_small smL i h w
set_option maxRecDepth 100000 in
theorem formatInt_any (i : Nat) (h : i < 100) (w : World) :
    Calls Tryd.prog 79 #[.int .i64 i, .int .i64 10] w fun e w' => e = .returned (.string (digT i)) ∧ w' = w := by
  have H := hide (small_any i h w)
  have h0 : (0 : Int) ≤ (i : Int) := by omega
  have h1 : (i : Int) < 100 := by omega
  generalize digT i = s at *
  go_enter Tryd.func79, Tryd.ntmps79
  go_wp2_with fail
  refine (unhide H).mono ?_
  rintro e w' ⟨rfl, rfl⟩
  go_wp2_with fail
  go_ret
  exact ⟨rfl, rfl⟩
set_option maxRecDepth 100000 in
theorem itoaI_any (i : Nat) (h : i < 100) (w : World) :
    Calls Tryd.prog 56 #[.int .i64 i] w fun e w' => e = .returned (.string (digT i)) ∧ w' = w := by
  have H := hide (formatInt_any i h w)
  have h0 : (0 : Int) ≤ (i : Int) := by omega
  have h1 : (i : Int) < 100 := by omega
  generalize digT i = s at *
  go_enter Tryd.func56, Tryd.ntmps56
  go_wp2_with fail
  refine (unhide H).mono ?_
  rintro e w' ⟨rfl, rfl⟩
  go_wp2_with fail
  go_ret
  exact ⟨rfl, rfl⟩
set_option maxRecDepth 100000 in
theorem itoa_any (i : Nat) (h : i < 100) (w : World) :
    Calls Tryd.prog 30 #[.int .i64 i] w fun e w' => e = .returned (.string (digT i)) ∧ w' = w := by
  have H := hide (itoaI_any i h w)
  generalize digT i = s at *
  go_enter Tryd.func30, Tryd.ntmps30
  go_wp2_with fail
  refine (unhide H).mono ?_
  rintro e w' ⟨rfl, rfl⟩
  go_wp2_with fail
  go_ret
  exact ⟨rfl, rfl⟩
end Go.Proofs.YtinpoaghedhknaaDoor
