/- A console's line: a fault that is raised is told by its code. -/
import Derived.Test.YtihhbngpajephaaDoorCnD
import Derived.Defers
import Derived.Recover
import Derived.Laws.Pointers
namespace Go.Proofs.YtihhbngpajephaaDoor.Sha
open Go.ChangeShapes Go.WideShapes Go.ChangeAt Go.RowKit Go.Maps
set_option linter.unusedVariables false
set_option linter.unusedSimpArgs false

set_option maxRecDepth 100000 in
set_option maxHeartbeats 1000000 in
/-- The deferred closure, where nothing was raised. -/
theorem fault_idle (p : Addr) (w : World) :
    CallsD Tryd.prog 18 #[.pointer (some p)] .returning w fun e u' w' => e = .returned (.tuple #[]) ∧ u' = .returning ∧ w' = w := by
  refine callsD_of_wpS Tryd.func18 rfl fun c₀ cs hu => ?_
  apply wpS_seq
  apply wpS_region
  simp [wpOpsS, go_sem, recoverD, hu, Tryd.ntmps18, Exit.thenS]
  refine wpS_of_wp ?_
  have hnil : (binOp BinOp.eql 20 .nilIface .nilIface).run Tryd.prog w = .ok (.bool true) w := by kernel_rfl
  simp only [Array.replicate]
  go_wp2_with fail
  cases c₀
  simp_all [bodyPostS, results, Tryd.results18, Exit.thenS]
set_option maxRecDepth 100000 in
set_option maxHeartbeats 1000000 in
/-- The deferred closure, where a fault was raised. -/
theorem fault_caught (b : Nat) (c : Int) (older : List PanicEntry) (w : World) (hb : Blk w b [.int .i64 0]) :
    CallsD Tryd.prog 18 #[.pointer (some ⟨b, 0, none⟩)] (.panicking ({ v := .iface 45 (.agg #[.int .i64 c]), recovered := false } :: older)) w fun e u' w' =>
      e = .returned (.tuple #[]) ∧ u' = .panicking ({ v := .iface 45 (.agg #[.int .i64 c]), recovered := true } :: older) ∧ w' = (w.alloc (.cells #[.int .i64 c] 45)).setCell ⟨b, 0, none⟩ (.int .i64 c) := by
  refine callsD_of_wpS Tryd.func18 rfl fun c₀ cs hu => ?_
  apply wpS_seq
  apply wpS_region
  simp [wpOpsS, go_sem, recoverD, hu, Tryd.ntmps18, Exit.thenS]
  refine wpS_of_wp ?_
  have hnil : (binOp BinOp.eql 20 (.iface 45 (.agg #[.int .i64 c])) .nilIface).run Tryd.prog w = .ok (.bool false) w := by kernel_rfl
  have hta : (Instr.typeAssert (.iface 45 (.agg #[.int .i64 c])) 20 45 true).run Tryd.prog w = .ok (.tuple #[.agg #[.int .i64 c], .bool true]) w := by kernel_rfl
  have H1 := hb.alloc (.cells #[.int .i64 c] 45)
  have h0 := H1.cell 0 rfl
  have f0 := H1.fro 0
  have H2 := Blk.new w #[.int .i64 c] 45 w.heap.size rfl
  have h2 := H2.cell 0 rfl
  simp only [Array.replicate]
  go_wp2_with fail
  simp [bodyPostS, results, Tryd.results18, Exit.thenS]
end Go.Proofs.YtihhbngpajephaaDoor.Sha
