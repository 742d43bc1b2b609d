/- The laws' markBranch; how many branches there are at most. -/
import Derived.Test.YtcmdilmjdnbfkaaDoorBrX
import Derived.Test.YtcmdilmjdnbfkaaDoorBlk
namespace Go.Proofs.YtcmdilmjdnbfkaaDoor.Sha
open Go.ChangeShapes Go.WideShapes Go.ChangeAt Go.RowKit
set_option linter.unusedVariables false

set_option maxRecDepth 100000 in
set_option maxHeartbeats 1000000 in
theorem markBranch_any (k v : ByteArray) (at_ : Int) (a : Option Addr) (n cap : Nat) {S : Nat → Prop} {w : World} {l : List Br} (h : BrO w S (.slice a n cap) l) (hc : 1 + 3 * cntL l ≤ 8388608) :
    Calls Tryd.prog 23 #[.agg #[.string k, .string v, .int .i64 at_, .slice a n cap], .int .i64 1] w fun e w' => e = .returned (.int .i64 ((1 + 3 * cntL l : Nat) : Int)) ∧ BrO w' S (.slice a n cap) (markL 1 l) ∧ Touch S w w' := by
  have T1 := hide ((Touch.refl (fun _ => False) w).alloc (.cells #[.string k, .string v, .int .i64 at_, .slice a n cap] 37))
  have HE := hide (markBranchS_any h _ (fun _ => False) 1 (unhide T1) (fun _ _ h => h) (by omega) hc)
  have TS := hide ((Touch.refl S w).alloc (.cells #[.string k, .string v, .int .i64 at_, .slice a n cap] 37))
  clear h
  generalize 1 + 3 * cntL l = m at *
  go_enter Tryd.func23, Tryd.ntmps23
  go_wp2_with fail
  refine (unhide HE).mono ?_
  rintro e w2 ⟨rfl, hO2, hT2⟩
  have R := hide (And.intro hO2 ((unhide TS).trans hT2 (fun _ _ h => h)))
  clear hO2 hT2 HE
  go_wp2_with fail
  go_ret
  exact ⟨rfl, (unhide R).1, (unhide R).2⟩
end Go.Proofs.YtcmdilmjdnbfkaaDoor.Sha
