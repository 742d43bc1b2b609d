/- A node, as data. -/
import Derived.Test.YtljolldacpkeeaaHaa
namespace Go.Proofs.Ytljolldacpkeeaa
open Go.ChangeShapes Go.WideShapes Go.ChangeAt Go.RowKit
set_option linter.unusedVariables false

/-- A node, as data. -/
structure NoD where
  id : Int
  tm : Int
  vo : Int
  ro : Int
  cm : Int
  el : Int
  wt : Int
  up : Bool
  lg : List En
  st : List Int
  vs : List Int
  nx : List Int
  mt : List Int
def zeroNo : NoD := ⟨0, 0, 0, 0, 0, 0, 0, false, [], [], [], [], []⟩
/-- A node, the call's own, and a code come out. -/
def NAns (B : Nat) (d : NoD) (code : Int) (w : World) (e : Ending) (w' : World) : Prop :=
  ∃ la lc sa sc va vc na nc ma mc, e = .returned (.tuple #[.agg #[.int .i64 d.id, .int .i64 d.tm, .int .i64 d.vo, .slice la d.lg.length lc, .slice sa d.st.length sc, .int .i64 d.ro, .slice va d.vs.length vc, .slice na d.nx.length nc, .slice ma d.mt.length mc, .int .i64 d.cm, .int .i64 d.el, .int .i64 d.wt, .bool d.up], .int .i64 code]) ∧ NoO B w' (.slice la d.lg.length lc) (.slice sa d.st.length sc) (.slice va d.vs.length vc) (.slice na d.nx.length nc) (.slice ma d.mt.length mc) d.lg d.st d.vs d.nx d.mt ∧ Below w.heap.size w w'
theorem noO_zero (B : Nat) (w : World) : NoO B w (.slice none 0 0) (.slice none 0 0) (.slice none 0 0) (.slice none 0 0) (.slice none 0 0) [] [] [] [] [] := by
  have nn : ∀ v : Value, Apart (.slice none 0 0) v := fun v k h1 _ => by cases h1
  exact ⟨⟨rfl, .inl ⟨rfl, rfl⟩⟩, ⟨rfl, .inl ⟨rfl, rfl⟩⟩, ⟨rfl, .inl ⟨rfl, rfl⟩⟩, ⟨rfl, .inl ⟨rfl, rfl⟩⟩, ⟨rfl, .inl ⟨rfl, rfl⟩⟩, by
    simp only [List.pairwise_cons, List.mem_cons, List.not_mem_nil, or_false, or_self, forall_eq, List.Pairwise.nil, and_true, false_implies, implies_true]
    exact ⟨nn _, nn _, nn _, nn _⟩⟩
end Go.Proofs.Ytljolldacpkeeaa
