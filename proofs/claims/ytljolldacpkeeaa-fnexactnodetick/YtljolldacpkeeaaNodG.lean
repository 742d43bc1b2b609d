/- Lists of nodes: laws.markNodeS, laws.heldNodeS, walked. (Written by py/nodg.py behind the row MARK.) -/
import Derived.Test.YtljolldacpkeeaaNest
import Derived.Test.YtljolldacpkeeaaMarkJ
import Derived.Test.YtljolldacpkeeaaStM
import Derived.Deep.Cut
namespace Go.Proofs.Ytljolldacpkeeaa
open Go.ChangeShapes Go.WideShapes Go.ChangeAt Go.RowKit Go.Deep
set_option linter.unusedVariables false

/-- A node as it lies in a list. -/
structure NV where
  id : Int
  tm : Int
  vo : Int
  ro : Int
  cm : Int
  el : Int
  wt : Int
  up : Bool
  lg : List En
  st : List Int
  vs : List Int
  nx : List Int
  mt : List Int
  lv : Value
  sv : Value
  vv : Value
  nv : Value
  mv : Value
def nvCells (x : NV) : List Value := [.int .i64 x.id, .int .i64 x.tm, .int .i64 x.vo, x.lv, x.sv, .int .i64 x.ro, x.vv, x.nv, x.mv, .int .i64 x.cm, .int .i64 x.el, .int .i64 x.wt, .bool x.up]
def nvSubs (x : NV) : List (Value × Sub) := [(x.lv, .E x.lg), (x.sv, .I x.st), (x.vv, .I x.vs), (x.nv, .I x.nx), (x.mv, .I x.mt)]
def nvS : Sh NV := ⟨29, 13, nvCells, nvSubs, fun _ => rfl⟩
/-- How many marks a node takes. -/
def wtV (x : NV) : Nat := 8 + 3 * x.lg.length + x.st.length + x.vs.length + x.nx.length + x.mt.length
def m3 (k : Nat) : Bool := Int.tmod (k : Int) 3 == 0
/-- A node's marks from k on. -/
def mkV (k : Nat) (x : NV) : NV :=
  { x with
    id := (k : Int), tm := ((k + 1 : Nat) : Int), vo := ((k + 1 + 1 : Nat) : Int),
    lg := mkEs (k + 1 + 1 + 1) x.lg.length, st := marksJ (k + 1 + 1 + 1 + 3 * x.lg.length) x.st.length,
    ro := ((k + 1 + 1 + 1 + 3 * x.lg.length + x.st.length : Nat) : Int),
    vs := marksJ (k + 1 + 1 + 1 + 3 * x.lg.length + x.st.length + 1) x.vs.length,
    nx := marksJ (k + 1 + 1 + 1 + 3 * x.lg.length + x.st.length + 1 + x.vs.length) x.nx.length,
    mt := marksJ (k + 1 + 1 + 1 + 3 * x.lg.length + x.st.length + 1 + x.vs.length + x.nx.length) x.mt.length,
    cm := ((k + 1 + 1 + 1 + 3 * x.lg.length + x.st.length + 1 + x.vs.length + x.nx.length + x.mt.length : Nat) : Int),
    el := ((k + 1 + 1 + 1 + 3 * x.lg.length + x.st.length + 1 + x.vs.length + x.nx.length + x.mt.length + 1 : Nat) : Int),
    wt := ((k + 1 + 1 + 1 + 3 * x.lg.length + x.st.length + 1 + x.vs.length + x.nx.length + x.mt.length + 1 + 1 : Nat) : Int),
    up := m3 (k + 1 + 1 + 1 + 3 * x.lg.length + x.st.length + 1 + x.vs.length + x.nx.length + x.mt.length + 1 + 1 + 1) }
def mkVs (k : Nat) : List NV → List NV
  | [] => []
  | x :: l => mkV k x :: mkVs (k + wtV x) l
def wtVs : List NV → Nat
  | [] => 0
  | x :: l => wtV x + wtVs l
theorem mkVs_len (k : Nat) (l : List NV) : (mkVs k l).length = l.length := by
  induction l generalizing k with
  | nil => rfl
  | cons x l ih => simp [mkVs, ih]
theorem wtVs_app (l m : List NV) : wtVs (l ++ m) = wtVs l + wtVs m := by
  induction l with
  | nil => simp [wtVs]
  | cons x l ih => simp [wtVs, ih]; omega
theorem mkVs_app (k : Nat) (l m : List NV) : mkVs k (l ++ m) = mkVs k l ++ mkVs (k + wtVs l) m := by
  induction l generalizing k with
  | nil => rfl
  | cons x l ih => simp [mkVs, wtVs, ih, Nat.add_assoc]
theorem mkVs_one (k : Nat) (l m : List NV) (x : NV) : mkVs k (l ++ x :: m) = mkVs k l ++ mkV (k + wtVs l) x :: mkVs (k + wtVs l + wtV x) m := by rw [mkVs_app]; rfl
theorem wt_bound (l1 l2 : List NV) (x : NV) (l : List NV) (he : l = l1 ++ x :: l2) (hw : ∀ y ∈ l, wtV y ≤ 1000) (hl : l.length ≤ 8) : wtVs l1 ≤ 8000 ∧ wtV x ≤ 1000 := by
  have key : ∀ m : List NV, (∀ y ∈ m, wtV y ≤ 1000) → wtVs m ≤ m.length * 1000 := by
    intro m
    induction m with
    | nil => intro _; simp [wtVs]
    | cons y m ih =>
      intro h
      have h1 := h y (by simp)
      have h2 := ih (fun z hz => h z (by simp [hz]))
      simp only [wtVs, List.length_cons, Nat.add_mul, Nat.one_mul]
      omega
  subst he
  have h1 := key l1 (fun y hy => hw y (by simp [hy]))
  rw [List.length_append, List.length_cons] at hl
  have h2 : l1.length * 1000 ≤ 7 * 1000 := Nat.mul_le_mul_right _ (by omega)
  exact ⟨by omega, hw x (by simp)⟩
end Go.Proofs.Ytljolldacpkeeaa
