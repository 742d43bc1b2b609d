/- impl.openBook: a ledger made into a book. Short forms of the steps of a region that draws (claims are bounded in size). -/
import Derived.Test.YtnhhnjmjodmacaaGreatDoorQan01
import Derived.Test.YtnhhnjmjodmacaaGreatDoorQan11
import Derived.Test.YtnhhnjmjodmacaaGreatDoorQan00
import Derived.Test.YtnhhnjmjodmacaaGreatDoorQan24
import Derived.Test.YtnhhnjmjodmacaaGreatDoorQan10
import Derived.Deep.RegionLaw
import Derived.Deep.DeepCutAuto
import Derived.Deep.Fields
import Derived.Deep.Slices
import Derived.SliceStrings
import Derived.Deep.RegionHeld3
import Derived.Lib.BitFns
namespace Go.Proofs.YtnhhnjmjodmacaaGreatDoor.Sha
open Go.ChangeShapes Go.WideShapes Go.ChangeAt Go.RowKit
set_option linter.unusedVariables false
set_option linter.unusedSimpArgs false
/-- A book in memory: its leaves, its map, its sessions, all the call's own and apart. -/
def Bk (B : Nat) (w : World) (p : Nat) (lv : Value) (tp : Option Addr) (sv : Value) (S : Nat → Prop) (ls : List ByteArray) (o : Option Tr) (ss : List Se) : Prop :=
  Blk w p [lv, .pointer tp, sv] ∧ B ≤ p ∧ OwnS B w lv ls ∧ OwnSe B w sv ss ∧ PtrM w S tp o ∧ (∀ x, S x → B ≤ x ∧ x < w.heap.size ∧ x ≠ p ∧ lv.ownBlock ≠ some x ∧ sv.ownBlock ≠ some x) ∧ lv.ownBlock ≠ some p ∧ sv.ownBlock ≠ some p ∧ (∀ x, lv.ownBlock = some x → sv.ownBlock ≠ some x)
theorem Bk.below {B : Nat} {w w' : World} {p : Nat} {lv : Value} {tp : Option Addr} {sv : Value} {S : Nat → Prop} {ls : List ByteArray} {o : Option Tr} {ss : List Se} (h : Bk B w p lv tp sv S ls o ss) (hb : Below w.heap.size w w') : Bk B w' p lv tp sv S ls o ss := by
  obtain ⟨h1, h2, h3, h4, h5, h6, h7⟩ := h
  exact ⟨h1.below hb, h2, h3.below hb, h4.below hb, h5.blw hb, fun x hx => ⟨(h6 x hx).1, Nat.lt_of_lt_of_le (h6 x hx).2.1 hb.size, (h6 x hx).2.2⟩, h7⟩
end Go.Proofs.YtnhhnjmjodmacaaGreatDoor.Sha
namespace Go.Proofs.YtnhhnjmjodmacaaGreatDoor
open Go.ChangeShapes Go.WideShapes Go.ChangeAt Go.RowKit
set_option linter.unusedVariables false
/-- One that only reads comes first. -/
theorem tkH {P : Program} {md : Region.Mode} {ops : Array Oper} {Q : Exit → Act → World → Prop} {S : World → Prop} (i : Nat) {oi : Oper} {v : Value} {fuel : Nat} {listed : Array Bool} {a a' : Act} {w : World} (hi : ops[i]? = some oi)
    (h : wpAnyH P md ops Q S fuel (listed.setIfInBounds i true) a' w)
    (hs : Region.noSelect ops = true := by kernel_rfl) (hf : Region.free md ops listed i = true := by kernel_rfl) (hr : (Region.ready md ops listed).contains i = true := by kernel_rfl)
    (hQ : ∀ c a w, Q (.panic c) (a.put oi.dst v) w → Q (.panic c) a w := by exact fun _ _ _ h => h) (hy : YieldsIf P ops S oi v a := by (refine Or.inl ⟨by rfl, ?_⟩; intro wq hSw; (try dsimp only at hSw); (try simp only [List.getElem_toArray, List.getElem_cons_succ, List.getElem_cons_zero]); go_simp; try with_reducible rfl)) (hS : S w := by assumption)
    (ha : a.put oi.dst v = a' := by ((try simp only [Act.put, List.getElem_toArray, List.getElem_cons_succ, List.getElem_cons_zero, List.setIfInBounds_toArray, List.set_cons_zero, List.set_cons_succ]); try rfl)) : wpAnyH P md ops Q S (fuel + 1) listed a w := by
  subst ha
  exact wpAnyH_take hi hs hf hr hQ hy hS h
end Go.Proofs.YtnhhnjmjodmacaaGreatDoor
