/- A table of files, in memory. -/
import Derived.Test.YtfihhkhdigbmiaaGreatDoorMpA
import Derived.Test.YtfihhkhdigbmiaaGreatDoorStrO
import Derived.Maps.OwnOps
import Derived.Lib.SmallJoins
namespace Go.Proofs.YtfihhkhdigbmiaaGreatDoor
open Go.ChangeShapes Go.WideShapes Go.ChangeAt Go.RowKit Go.Maps Go.Sort
set_option linter.unusedVariables false
set_option linter.unusedSimpArgs false

theorem fKey : Keyed Tryz.prog 9 := string_keyed Tryz.underlying9
theorem zeroFl (w : World) : (zeroValue 68).run Tryz.prog w = .ok (.agg #[.string ⟨#[]⟩, .string ⟨#[]⟩, .int .i64 0]) w := by kernel_rfl
/-- Block b is a map that holds these files. -/
def FMap (w : World) (b : Nat) (l : List Fl) : Prop := w.ownsMap Tryz.prog 9 flR b l.length (mapD l)
theorem own_tight {P : Program} {k : TypeId} {R : Value → Option (DataW Unit × List MemPlace)} {w : World} {b n : Nat} {D : DataW Unit} (h : w.ownsMap P k R b n D) : w.ownsMap P k R b (Maps.size D) D := by
  obtain ⟨es, clock, hb, F, hs, rfl⟩ := h
  exact ⟨es, clock, hb, F, by simp [Maps.size, length_sorted], rfl⟩
theorem FMap.of {w : World} {b n : Nat} {l : List Fl} (h : w.ownsMap Tryz.prog 9 flR b n (mapD l)) : FMap w b l := by
  have := own_tight h
  rwa [size_mapD] at this
theorem FMap.made (w : World) : FMap (w.alloc (.map #[] 0)) w.heap.size [] := World.ownsMap_made w Tryz.prog 9 flR
theorem FMap.kept {w w' : World} {b : Nat} {l : List Fl} (h : FMap w b l) (hb : Below w.heap.size w w') : FMap w' b l := by
  have hl := World.ownsMap.lt h
  obtain ⟨es, clock, hc, F, hs, hD⟩ := h
  exact ⟨es, clock, (hb.block b hl).trans hc, F, hs, hD⟩
theorem FMap.touch {T : Nat → Prop} {w w' : World} {b : Nat} {l : List Fl} (h : FMap w b l) (ht : Touch T w w') (hn : ¬ T b) : FMap w' b l := by
  have hl := World.ownsMap.lt h
  obtain ⟨es, clock, hc, F, hs, hD⟩ := h
  exact ⟨es, clock, (ht.block b hl hn).trans hc, F, hs, hD⟩
theorem FMap.lt {w : World} {b : Nat} {l : List Fl} (h : FMap w b l) : b < w.heap.size := World.ownsMap.lt h
theorem FMap.put {w : World} {b : Nat} {A B : List Fl} {f : Fl} (h : FMap w b (A ++ B)) (hA : ∀ g ∈ A, bb g f = true) (hB : ∀ g ∈ B, bb f g = true) (hl : (A ++ B).length ≤ 1048576) (hn : f.n.size ≤ maxLen) :
    ∃ w', (Instr.mapUpdate 103 (.map (some b)) (.string f.n) (flV f)).run Tryz.prog w = .ok () w' ∧ FMap w' b (A ++ f :: B) ∧ w.grownBy w' (some b) := by
  obtain ⟨w', hr, ho, hg⟩ := World.ownsMap.update h fKey Tryz.underlying103 (by unfold maxLen; omega) (key := .string f.n) (val := flV f) (Go.WideMaps.keyOf_string_mk Tryz.underlying9 hn) (flR_mk f)
  refine ⟨w', hr, FMap.of (n := (A ++ B).length + 1) ?_, hg⟩
  rw [← put_mid A B f hA hB]
  exact ho
theorem FMap.look {w : World} {b : Nat} {A B : List Fl} {f : Fl} (h : FMap w b (A ++ f :: B)) (hA : ∀ g ∈ A, nmL g ≠ nmL f) (hn : f.n.size ≤ maxLen) :
    (Instr.lookup 103 (.map (some b)) (.string f.n) false).run Tryz.prog w = .ok (flV f) w := by
  obtain ⟨v, ps, hr, hv⟩ := World.ownsMap.lookup h fKey Tryz.underlying103 (zeroFl w) (zd := flD ⟨⟨#[]⟩, ⟨#[]⟩, 0⟩) (zp := []) rfl (key := .string f.n) (Go.WideMaps.keyOf_string_mk Tryz.underlying9 hn)
  have e := at_mid A B f hA (flD ⟨⟨#[]⟩, ⟨#[]⟩, 0⟩)
  rw [show (DataW.atKey (mapD (A ++ f :: B)) (.string f.n.data.toList) (flD ⟨⟨#[]⟩, ⟨#[]⟩, 0⟩)) = flD f from e] at hv
  rw [flR_inv hv] at hr
  exact hr
theorem FMap.look_ok {w : World} {b : Nat} {A B : List Fl} {f : Fl} (h : FMap w b (A ++ f :: B)) (hA : ∀ g ∈ A, nmL g ≠ nmL f) (hn : f.n.size ≤ maxLen) :
    (Instr.lookup 103 (.map (some b)) (.string f.n) true).run Tryz.prog w = .ok (.tuple #[flV f, .bool true]) w := by
  obtain ⟨v, ps, hr, hv⟩ := World.ownsMap.look_ok h fKey Tryz.underlying103 (zeroFl w) (zd := flD ⟨⟨#[]⟩, ⟨#[]⟩, 0⟩) (zp := []) rfl (key := .string f.n) (Go.WideMaps.keyOf_string_mk Tryz.underlying9 hn)
  have e := at_mid A B f hA (flD ⟨⟨#[]⟩, ⟨#[]⟩, 0⟩)
  rw [show (DataW.atKey (mapD (A ++ f :: B)) (.string f.n.data.toList) (flD ⟨⟨#[]⟩, ⟨#[]⟩, 0⟩)) = flD f from e] at hv
  rw [flR_inv hv, show has (mapD (A ++ f :: B)) (.string f.n.data.toList) = true from has_mid A B f] at hr
  exact hr
theorem FMap.look_no {w : World} {b : Nat} {l : List Fl} {s : ByteArray} (h : FMap w b l) (hA : ∀ g ∈ l, nmL g ≠ s.data.toList) (hn : s.size ≤ maxLen) :
    ∃ v, (Instr.lookup 103 (.map (some b)) (.string s) true).run Tryz.prog w = .ok (.tuple #[v, .bool false]) w := by
  obtain ⟨v, ps, hr, hv⟩ := World.ownsMap.look_ok h fKey Tryz.underlying103 (zeroFl w) (zd := flD ⟨⟨#[]⟩, ⟨#[]⟩, 0⟩) (zp := []) rfl (key := .string s) (Go.WideMaps.keyOf_string_mk Tryz.underlying9 hn)
  rw [has_no hA] at hr
  exact ⟨v, hr⟩
theorem FMap.del {w : World} {b : Nat} {A B : List Fl} {f : Fl} (h : FMap w b (A ++ f :: B)) (hno : ∀ g ∈ A ++ B, nmL g ≠ nmL f) (hn : f.n.size ≤ maxLen) (ty : TypeId) :
    ∃ w', (Builtin.delete_ #[103, 9] ty #[.map (some b), .string f.n]).run Tryz.prog w = .ok (.tuple #[]) w' ∧ FMap w' b (A ++ B) ∧ w.grownBy w' (some b) := by
  obtain ⟨w', hr, ho, ht⟩ := World.ownsMap.drop h fKey Tryz.underlying103 (key := .string f.n) (Go.WideMaps.keyOf_string_mk Tryz.underlying9 hn) ty
  refine ⟨w', hr, FMap.of (n := (A ++ f :: B).length) ?_, ht.grown⟩
  rw [← del_mid A B f hno]
  exact ho
theorem FMap.len {w : World} {b : Nat} {l : List Fl} (h : FMap w b l) (ty : TypeId) : (Builtin.len_ #[103] ty #[.map (some b)]).run Tryz.prog w = .ok (.int .i64 l.length) w := by
  have := World.ownsMap.len h Tryz.underlying103 ty
  rwa [size_mapD] at this
theorem FMap.clear {w : World} {b : Nat} {l : List Fl} (h : FMap w b l) (ty : TypeId) :
    ∃ w', (Builtin.clear_ #[103] ty #[.map (some b)]).run Tryz.prog w = .ok (.tuple #[]) w' ∧ FMap w' b [] ∧ w.grownBy w' (some b) := by
  obtain ⟨es, clock, hb, F, hs, hD⟩ := h
  refine ⟨Go.ChangeMaps.setBlock w b (.map #[] clock), ?_, ⟨#[], clock, Go.ChangeMaps.heap_setBlock_same hb _, ⟨by simp, MapKept.stamped_empty clock, by simp⟩, Nat.le_refl _, rfl⟩, ⟨rfl, rfl, rfl, by simp [Go.ChangeMaps.setBlock], fun i _ hi => Go.ChangeMaps.heap_setBlock_other hb _ (fun e => hi (by rw [e]))⟩⟩
  simp [Builtin.clear_, run_underlying Tryz.underlying103, MapKept.run_getObj_map hb, MapKept.run_setObj_map _ hb, Go.ChangeMaps.setBlock, Result.andThen]
end Go.Proofs.YtfihhkhdigbmiaaGreatDoor
