/- Entries of a state: slices of structs of three cells; what is told of one that can be read. -/
import Derived.Test.YtglkgmijcefjkaaBlk
import Derived.Test.YtglkgmijcefjkaaIn
namespace Go.Proofs.Ytglkgmijcefjkaa
open Go.ChangeShapes Go.WideShapes Go.ChangeAt Go.RowKit
set_option linter.unusedVariables false

/-- An entry: term, kind, data. -/
structure En where
  t : Int
  k : Int
  d : ByteArray
deriving Inhabited
def enC (f : En) : List Value := [.int .i64 f.t, .int .i64 f.k, .string f.d]
def ensC (l : List En) : List Value := l.flatMap enC
/-- The value is a slice that holds these entries. -/
def Ens (w : World) (v : Value) (l : List En) : Prop :=
  ∃ a cap, v = .slice a l.length cap ∧ l.length ≤ cap ∧ cap ≤ maxLen ∧ (l.length = 0 ∨ ∃ b off, a = some ⟨b, off, none⟩ ∧ b < w.heap.size ∧ ∀ i, i < l.length → w.cell? ⟨b, off + i * 3, none⟩ = some (.int .i64 (l.getD i default).t) ∧ w.cell? ⟨b, off + i * 3 + 1, none⟩ = some (.int .i64 (l.getD i default).k) ∧ w.cell? ⟨b, off + i * 3 + 2, none⟩ = some (.string (l.getD i default).d))
theorem Ens.below {w w' : World} {v : Value} {l : List En} (h : Ens w v l) (hb : Below w.heap.size w w') : Ens w' v l := by
  obtain ⟨a, cap, hv, hn, hm, hc⟩ := h
  refine ⟨a, cap, hv, hn, hm, ?_⟩
  rcases hc with h0 | ⟨b, off, ha, hlt, hc⟩
  · exact .inl h0
  · exact .inr ⟨b, off, ha, Nat.lt_of_lt_of_le hlt hb.size, fun i hi => ⟨(hb.cell (p := ⟨b, off + i * 3, none⟩) hlt).trans (hc i hi).1, (hb.cell (p := ⟨b, off + i * 3 + 1, none⟩) hlt).trans (hc i hi).2.1, (hb.cell (p := ⟨b, off + i * 3 + 2, none⟩) hlt).trans (hc i hi).2.2⟩⟩
end Go.Proofs.Ytglkgmijcefjkaa
