/- Entries held against each other: slices.Equal, spec.l05Same. -/
import Derived.Test.YtafbdjcoimopfaaSta
import Derived.Laws.Cover1
import Derived.Laws.StructEq
namespace Go.Proofs.Ytafbdjcoimopfaa
open Go.ChangeShapes Go.WideShapes Go.ChangeAt Go.RowKit
set_option linter.unusedVariables false

def enEq (a b : En) : Bool := (a.t == b.t) && ((a.k == b.k) && (a.d.toList == b.d.toList))
theorem eq_ent (w : World) (ft gt fk gk : Int) (fd gd : ByteArray) : (Op.equalIn 10000 102 (.agg #[.int .i64 ft, .int .i64 fk, .string fd]) (.agg #[.int .i64 gt, .int .i64 gk, .string gd])).run Try.prog w = .ok (enEq ⟨ft, fk, fd⟩ ⟨gt, gk, gd⟩) w := by
  rw [run_equalIn_struct w 9999 102 _ _ (by kernel_rfl) (by kernel_rfl)]
  simp only [Program.fieldsOf, Try.underlying102]
  simp [Op.eqFields, go_sem, enEq]
  by_cases h1 : ft = gt
  · by_cases h2 : fk = gk
    · by_cases h3 : fd.toList = gd.toList
      · simp [h1, h2, h3]
      · simp [h1, h2, h3]
    · simp [h1, h2]
  · simp [h1]
theorem neq_ent (w : World) (ft gt fk gk : Int) (fd gd : ByteArray) : (binOp .neq 102 (.agg #[.int .i64 ft, .int .i64 fk, .string fd]) (.agg #[.int .i64 gt, .int .i64 gk, .string gd])).run Try.prog w = .ok (.bool (!(enEq ⟨ft, fk, fd⟩ ⟨gt, gk, gd⟩))) w := by
  rw [run_neq_struct, eq_ent]; rfl
theorem eql_ent (w : World) (ft gt fk gk : Int) (fd gd : ByteArray) : (binOp .eql 102 (.agg #[.int .i64 ft, .int .i64 fk, .string fd]) (.agg #[.int .i64 gt, .int .i64 gk, .string gd])).run Try.prog w = .ok (.bool (enEq ⟨ft, fk, fd⟩ ⟨gt, gk, gd⟩)) w := by
  rw [run_eql_struct, eq_ent]; rfl
def enTo (x y : List En) (k : Nat) : Prop := ∀ i, i < k → enEq (x.getD i default) (y.getD i default) = true
theorem enTo.next {x y : List En} {k : Nat} (h : enTo x y k) (hk : enEq (x.getD k default) (y.getD k default) = true) : enTo x y (k + 1) := fun i hi => by
  by_cases e : i = k
  · subst e; exact hk
  · exact h i (by omega)
def eqEns (x y : List En) : Bool := decide (x.length = y.length) && (List.range x.length).all (fun i => enEq (x.getD i default) (y.getD i default))
theorem eqEns_bad {x y : List En} {k : Nat} (hk : k < x.length) (h : enEq (x.getD k default) (y.getD k default) = false) : eqEns x y = false := by
  have : (List.range x.length).all (fun i => enEq (x.getD i default) (y.getD i default)) = false := by
    rw [List.all_eq_false]; exact ⟨k, by simpa using hk, by rw [h]; decide⟩
  unfold eqEns; rw [this]; simp
theorem eqEns_all {x y : List En} (hl : x.length = y.length) (h : enTo x y x.length) : eqEns x y = true := by
  have : (List.range x.length).all (fun i => enEq (x.getD i default) (y.getD i default)) = true := by
    rw [List.all_eq_true]; exact fun i hi => h i (by simpa using hi)
  unfold eqEns; rw [this, decide_eq_true hl]; simp

def eqSt (tm vo : Int) (x : List En) (tm2 vo2 : Int) (y : List En) : Bool := (tm == tm2) && ((vo == vo2) && eqEns x y)
end Go.Proofs.Ytafbdjcoimopfaa
