/- A text of one byte. -/
import Derived.Test.YtnajpeaieeaflaaDoorMkA
namespace Go.Proofs.YtnajpeaieeaflaaDoor.Sha
open Go.ChangeShapes Go.WideShapes Go.ChangeAt Go.RowKit
set_option linter.unusedVariables false

theorem bytes_nums1 (x : Nat) (h : x < 256) : bytesI (strOfNums [(x : Int)]) = [(x : Int)] := by
  unfold bytesI strOfNums
  simp
  omega
theorem conv_oneB (w : World) (x : Int) : (convert 22 9 (.slice (some ⟨w.heap.size, 0, none⟩) 1 1)).run Tryd.prog (w.alloc (.cells #[.int .u8 x] 5)) = .ok (.string (strOfNums [x])) (w.alloc (.cells #[.int .u8 x] 5)) :=
  run_convert_bytes_arg (P := Tryd.prog) _ 22 5 Tryd.underlying22 Tryd.underlying5 w.heap.size 0 1 1 [x] rfl (fun i hi => by
    rw [World.cell?_alloc_at _ _ _ _ rfl]
    match i, hi with
    | 0, _ => rfl) 9 Tryd.underlying9
set_option maxRecDepth 100000 in
theorem oneByte_any (n : Nat) (w : World) (hn : n < 256) :
    Calls Tryd.prog 80 #[.int .i64 n] w fun e w' => e = .returned (.string (strOfNums [(n : Int)])) ∧ Below w.heap.size w w' := by
  have hq : IntKind.u8.wrap (n : Int) = (n : Int) := wraps_u8 _ (by omega) (by omega)
  have hcv := conv_oneB w (n : Int)
  have B0 := hide ((Below.refl w.heap.size w).alloc (Nat.le_refl _) (.cells #[.int .u8 n] 5))
  go_enter Tryd.func80, Tryd.ntmps80
  go_wp2_with fail
  go_ret
  exact ⟨rfl, unhide B0⟩
end Go.Proofs.YtnajpeaieeaflaaDoor.Sha
