/- The reader's texts. -/
import Derived.Test.YtpdjfjapdmopoaaRdD
namespace Go.Proofs.Ytpdjfjapdmopoaa
open Go.ChangeShapes Go.WideShapes Go.ChangeAt Go.RowKit
set_option linter.unusedVariables false

set_option maxRecDepth 100000 in
set_option maxHeartbeats 1000000 in
theorem implText_any (b : Nat) (st : Option (List Int)) (w : World) (h : Rd w b st) :
    Calls Try.prog 69 #[.pointer (some ⟨b, 0, none⟩)] w fun e w' => e = .returned (.string (strOfNums (textP st).1)) ∧ Rd w' b (textP st).2 ∧ Touch (fun k => k = b) w w' ∧ w'.heap.size = w.heap.size := by
  have H := hide h
  have hr := num1_range h.range
  have HP : Hid (textP st = takeP (numP 1 st).1.toNat (numP 1 st).2) := rfl
  clear h
  go_enter Try.func69, Try.ntmps69
  go_wp2_with fail
  refine (implNumber_any 1 1 rfl b st w (unhide H) (by omega)).mono ?_
  rintro e w1 ⟨rfl, hR1, hT1, hz1⟩
  have R1 := hide (And.intro hR1 (And.intro hT1 hz1))
  clear hR1 hT1 hz1 H
  generalize (numP 1 st).1 = x at *
  generalize (numP 1 st).2 = st1 at *
  obtain ⟨n, rfl⟩ : ∃ n : Nat, x = (n : Int) := ⟨x.toNat, by omega⟩
  rw [Int.toNat_natCast] at HP
  go_wp2_with fail
  refine (take_any n b st1 w1 (unhide R1).1 (by omega)).mono ?_
  rintro e w2 ⟨v2, rfl, hv2, hR2, hT2, hz2⟩
  have hcv := conv_rd (P := Try.prog) 66 9 5 Try.underlying66 Try.underlying5 Try.underlying9 hv2
  have R2 := hide (And.intro hR2 (And.intro hT2 hz2))
  clear hR2 hT2 hz2 hv2
  generalize hs2 : strOfNums (takeP n st1).1 = s2 at *
  have HS := hide hs2
  clear hs2
  go_wp2_with fail
  go_ret
  rw [unhide HP]
  exact ⟨ret_str (unhide HS).symm, (unhide R2).1, (unhide R1).2.1.trans (unhide R2).2.1 (fun _ _ h => h), by rw [(unhide R2).2.2, (unhide R1).2.2]⟩

end Go.Proofs.Ytpdjfjapdmopoaa
