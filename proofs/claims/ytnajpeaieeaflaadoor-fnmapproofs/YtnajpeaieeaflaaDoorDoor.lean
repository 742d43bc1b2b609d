/- The two tables of words of a seat with a door: what they hold, and that they are read again. -/
import Derived.Test.YtnajpeaieeaflaaDoorShaH
import Derived.WalkSmall
import Derived.LaidMore
import Derived.Stop.Joined
import Derived.Lib.LaidTab
import Derived.ChangeVars
namespace Go.Proofs.YtnajpeaieeaflaaDoor.Sha
open Go.ChangeShapes Go.WideShapes Go.ChangeAt Go.RowKit
set_option linter.unusedVariables false

theorem own : ownKnob Tryd.prog.godebug = none := by kernel_rfl
theorem laidOut : laidOutB Tryd.prog = true := by kernel_rfl
theorem gFirst : Tryd.prog.globalNamed "loop.example/g00220/impl.firstWords" = some 0 := by kernel_rfl
theorem gFirstType : (Tryd.prog.globals[0]?).map (·.type) = some 83 := by kernel_rfl
theorem gRound : Tryd.prog.globalNamed "loop.example/g00220/impl.roundWords" = some 1 := by kernel_rfl
theorem gRoundType : (Tryd.prog.globals[1]?).map (·.type) = some 87 := by kernel_rfl
theorem cellsA : Tryd.prog.cellsOf 83 = 8 := by kernel_rfl
theorem cellsB : Tryd.prog.cellsOf 87 = 64 := by kernel_rfl
theorem cellsE : Tryd.prog.cellsOf 82 = 1 := by kernel_rfl
def firstCells : Array Value := (cells32 8 iW).toArray
def roundCells : Array Value := (cells32 64 kW).toArray
def firstH {H : Type} : DataW H := .agg ((List.range 8).map fun j => .lit (.int .u32 (iW j)))
def roundH {H : Type} : DataW H := .agg ((List.range 64).map fun j => .lit (.int .u32 (kW j)))
theorem first_of {W : World} (h : W.var? Tryd.prog "loop.example/g00220/impl.firstWords" = some firstCells) : First W := by
  have hc : ∀ i, i < 8 → W.cell? ⟨0, i, none⟩ = some (.int .u32 (iW i)) := fun i hi => by
    rw [World.var?_cell gFirst h i]; simp [firstCells, cells32, hi]
  exact ⟨World.block_lt_of_cell? W _ (hc 0 (by omega)), hc⟩
theorem table_of {W : World} (h : W.var? Tryd.prog "loop.example/g00220/impl.roundWords" = some roundCells) : Table W := by
  have hc : ∀ i, i < 64 → W.cell? ⟨1, i, none⟩ = some (.int .u32 (kW i)) := fun i hi => by
    rw [World.var?_cell gRound h i]; simp [roundCells, cells32, hi]
  exact ⟨World.block_lt_of_cell? W _ (hc 0 (by omega)), hc⟩
theorem reads_first {H : Type} (enc : TypeId × Value → H) (W : World) (sp : Nat → Bool) : DataW.trod enc Tryd.prog W 0 sp true 3 83 firstCells.toList = some (firstH, []) := by kernel_rfl
theorem reads_round {H : Type} (enc : TypeId × Value → H) (W : World) (sp : Nat → Bool) : DataW.trod enc Tryd.prog W 0 sp true 3 87 roundCells.toList = some (roundH, []) := by kernel_rfl
theorem vars_again {H : Type} {enc : TypeId × Value → H} {W W' : World} {sp : Nat → Bool} {gs : List (DataW H)} {q : List MemPlace}
    (hv1 : W.var? Tryd.prog "loop.example/g00220/impl.firstWords" = some firstCells) (hv2 : W.var? Tryd.prog "loop.example/g00220/impl.roundWords" = some roundCells)
    (hV : DataW.TrodVars enc Tryd.prog W (fun _ => true) ["loop.example/g00220/impl.firstWords", "loop.example/g00220/impl.roundWords"] gs q) (hb : Below W.heap.size W W') :
    gs = [firstH, roundH] ∧ ∃ pv, DataW.TrodVars enc Tryd.prog W' sp ["loop.example/g00220/impl.firstWords", "loop.example/g00220/impl.roundWords"] [firstH, roundH] pv := by
  match gs, hV with
  | d1 :: gs1, ⟨g, t, cs, fuel, p, q1, hg, ht, hvar, hd, hV1, _⟩ =>
    match gs1, hV1 with
    | d2 :: gs2, ⟨g', t', cs', fuel', p', q2, hg', ht', hvar', hd', hV2, _⟩ =>
      match gs2, hV2 with
      | [], _ =>
        obtain rfl := Option.some.inj (gFirst.symm.trans hg)
        obtain rfl := Option.some.inj (gFirstType.symm.trans ht)
        obtain rfl := Option.some.inj (gRound.symm.trans hg')
        obtain rfl := Option.some.inj (gRoundType.symm.trans ht')
        obtain rfl : cs = firstCells := Option.some.inj (hvar.symm.trans hv1)
        obtain rfl : cs' = roundCells := Option.some.inj (hvar'.symm.trans hv2)
        obtain ⟨rfl, rfl⟩ := DataW.Trod.unique (v := .agg firstCells) ⟨fuel, hd⟩ ⟨3, reads_first enc W _⟩
        obtain ⟨rfl, rfl⟩ := DataW.Trod.unique (v := .agg roundCells) ⟨fuel', hd'⟩ ⟨3, reads_round enc W _⟩
        exact ⟨rfl, _, 0, 83, firstCells, 3, [], _, hg, ht, var?_below hb gFirst (first_of hv1).1 hv1, reads_first enc W' sp,
          ⟨1, 87, roundCells, 3, [], [], hg', ht', var?_below hb gRound (table_of hv2).1 hv2, reads_round enc W' sp, rfl, rfl⟩, rfl⟩
theorem First.below {w w' : World} (h : First w) (hb : Below w.heap.size w w') : First w' :=
  ⟨Nat.lt_of_lt_of_le h.1 hb.size, fun i hi => by rw [hb.cell (p := ⟨0, i, none⟩) h.1]; exact h.2 i hi⟩

end Go.Proofs.YtnajpeaieeaflaaDoor.Sha
