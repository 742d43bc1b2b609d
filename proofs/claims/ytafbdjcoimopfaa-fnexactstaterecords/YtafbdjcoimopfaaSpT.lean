/- spec.l02Two, spec.l02Four; rows known whole. -/
import Derived.Test.YtafbdjcoimopfaaWrB
import Derived.Test.YtafbdjcoimopfaaSpG
namespace Go.Proofs.Ytafbdjcoimopfaa
open Go.ChangeShapes Go.WideShapes Go.ChangeAt Go.RowKit
set_option linter.unusedVariables false

theorem wrapU (n : Int) : IntKind.u8.wrap n = n % 256 := by simp [IntKind.wrap, IntKind.bits, IntKind.signed]
theorem l02Four_any (n : Int) (w : World) (h0 : 0 ≤ n) (h1 : n < 4294967296) :
    Calls Try.prog 107 #[.int .i64 n] w fun e w' => e = .returned (.slice (some ⟨w.heap.size, 0, none⟩) 4 4) ∧ w' = w.alloc (.cells #[.int .u8 (n / 16777216 % 256), .int .u8 (n / 65536 % 256), .int .u8 (n / 256 % 256), .int .u8 (n % 256)] 5) := by
  have m1 := wrapU (n / 16777216)
  have m2 := wrapU (n / 65536)
  have m3 := wrapU (n / 256)
  have m4 := wrapU n
  go_enter Try.func107, Try.ntmps107
  go_wp2_with fail
  go_ret
  exact ⟨rfl, rfl⟩

end Go.Proofs.Ytafbdjcoimopfaa
