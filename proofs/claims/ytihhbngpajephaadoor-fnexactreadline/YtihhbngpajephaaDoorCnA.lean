/- A console's line: what raises a fault. -/
import Derived.Test.YtihhbngpajephaaDoorBytes
import Derived.WalkLawsBesides
namespace Go.Proofs.YtihhbngpajephaaDoor.Sha
open Go.ChangeShapes Go.WideShapes Go.ChangeAt Go.RowKit
set_option linter.unusedVariables false
set_option linter.unusedSimpArgs false

/-- A fault that was raised. -/
def flt (c : Int) : Ending := .panicked [{ v := .iface 45 (.agg #[.int .i64 c]), recovered := false }]
set_option maxRecDepth 100000 in
set_option maxHeartbeats 1000000 in
theorem raise_any (c : Int) (w : World) : Calls Tryd.prog 29 #[.int .i64 c] w fun e w' => e = flt c ∧ w' = w := by
  go_enter Tryd.func29, Tryd.ntmps29
  go_wp2_with fail
  exact ⟨rfl, rfl, rfl⟩
set_option maxRecDepth 100000 in
set_option maxHeartbeats 1000000 in
theorem mustBe_ok (a : Option Addr) (n cap : Nat) (w : World) (hn : n ≤ 9223372036854775807) :
    Calls Tryd.prog 34 #[.slice a n cap, .int .i64 n] w fun e w' => (∃ v, e = .returned v) ∧ w' = w := by
  go_enter Tryd.func34, Tryd.ntmps34
  go_wp2_with fail
  go_end0
  exact ⟨⟨_, rfl⟩, rfl⟩
set_option maxRecDepth 100000 in
set_option maxHeartbeats 1000000 in
theorem mustBe_no (a : Option Addr) (n cap : Nat) (k : Int) (w : World) (hn : n ≤ 9223372036854775807) (h : (n : Int) ≠ k) :
    Calls Tryd.prog 34 #[.slice a n cap, .int .i64 k] w fun e w' => e = flt 3 ∧ w' = w := by
  have HR := hide (fun wx => raise_any 3 wx)
  go_enter Tryd.func34, Tryd.ntmps34
  go_wp2_with fail
  refine (unhide HR _).mono ?_
  rintro e w9 ⟨rfl, hw9⟩
  subst w9
  unfold flt
  go_wp2_with fail
  exact ⟨rfl, rfl, rfl⟩
end Go.Proofs.YtihhbngpajephaaDoor.Sha
