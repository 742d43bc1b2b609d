/- A console's line: faultOf. -/
import Derived.Test.YtihhbngpajephaaDoorCnE
namespace Go.Proofs.YtihhbngpajephaaDoor.Sha
open Go.ChangeShapes Go.WideShapes Go.ChangeAt Go.RowKit Go.Maps
set_option linter.unusedVariables false
set_option linter.unusedSimpArgs false

set_option maxRecDepth 100000 in
set_option maxHeartbeats 1000000 in
theorem faultOf_any (caps : Array Value) (w : World) (P : Int → World → Prop)
    (hact : Calls Tryd.prog 10 caps (w.alloc (.cells #[.int .i64 0] 3)) fun e w' => Blk w' w.heap.size [.int .i64 0] ∧ ((e = .returned (.tuple #[]) ∧ P 0 w') ∨ ∃ c, e = flt c ∧ P c w')) :
    Calls Tryd.prog 9 #[.func (.func 10) #[] caps] w fun e w' => ∃ c w2, P c w2 ∧ Blk w2 w.heap.size [.int .i64 0] ∧ e = .returned (.int .i64 c) ∧ (w' = w2.setCell ⟨w.heap.size, 0, none⟩ (.int .i64 c) ∨ w' = (w2.alloc (.cells #[.int .i64 c] 45)).setCell ⟨w.heap.size, 0, none⟩ (.int .i64 c)) := by
  have hmf : ∀ (fn : Fn) (first cap : Array Value) (w : World), (Instr.makeFunc fn first cap).run Tryd.prog w = .ok (.func fn first cap) w := fun _ _ _ _ => rfl
  have HA := hide hact
  clear hact
  go_enter_defers Tryd.func9, Tryd.ntmps9
  go_wp2_with fail
  refine (unhide HA).mono ?_
  rintro e w2 ⟨hB, ⟨rfl, hP⟩ | ⟨c, rfl, hP⟩⟩
  · have c0 := hB.cell 0 rfl
    have f0 := hB.fro 0
    have d0 := (hB.set 0 (.int .i64 0) (by simp)).cell 0 rfl
    have HQ := hide (And.intro hB hP)
    clear HA hB hP
    go_wp2_with fail
    refine leaves_cons (f := 18) (args := #[.pointer (some ⟨w.heap.size, 0, none⟩)]) (by simp) (by simp [go_sem]) ?_
    refine (fault_idle ⟨w.heap.size, 0, none⟩ _).mono ?_
    rintro e u' w'' ⟨rfl, rfl, rfl⟩
    simp only [Leaves, settle, results, Tryd.results9]
    exact ⟨.int .i64 0, by simp [go_sem, d0], 0, w2, (unhide HQ).2, (unhide HQ).1, rfl, .inl rfl⟩
  · have d0 := (((hB.alloc (.cells #[.int .i64 c] 45))).set 0 (.int .i64 c) (by simp)).cell 0 rfl
    have HQ := hide (And.intro hB hP)
    clear HA hP
    unfold flt
    go_wp2_with fail
    refine leaves_cons (f := 18) (args := #[.pointer (some ⟨w.heap.size, 0, none⟩)]) (by simp) (by simp [go_sem]) ?_
    refine (fault_caught w.heap.size c [] _ hB).mono ?_
    rintro e u' w'' ⟨rfl, rfl, rfl⟩
    simp only [Leaves, settle, results, Tryd.results9, List.dropWhile]
    exact ⟨.int .i64 c, by simp [go_sem, d0], c, w2, (unhide HQ).2, (unhide HQ).1, rfl, .inr rfl⟩
end Go.Proofs.YtihhbngpajephaaDoor.Sha
