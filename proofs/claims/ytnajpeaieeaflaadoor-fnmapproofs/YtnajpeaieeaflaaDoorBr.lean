/- Branches in memory: slices of structs of four cells, their kids' slices below them; how much a branch weighs. -/
import Derived.Test.YtnajpeaieeaflaaDoorBlk
import Derived.Test.YtnajpeaieeaflaaDoorIn
namespace Go.Proofs.YtnajpeaieeaflaaDoor.Sha
open Go.ChangeShapes Go.WideShapes Go.ChangeAt Go.RowKit
set_option linter.unusedVariables false

/-- A branch as it is handed on. -/
inductive Br where
  | mk (key val : ByteArray) (at_ : Int) (kids : List Br)
def Br.key : Br → ByteArray | .mk k _ _ _ => k
def Br.val : Br → ByteArray | .mk _ v _ _ => v
def Br.at_ : Br → Int | .mk _ _ a _ => a
def Br.kids : Br → List Br | .mk _ _ _ l => l
instance : Inhabited Br := ⟨.mk ⟨#[]⟩ ⟨#[]⟩ 0 []⟩
/-- The value is a slice that holds these branches; all blocks of theirs are in S. -/
inductive Brs (S : Nat → Prop) (w : World) : Value → List Br → Prop
  | nil (a : Option Addr) (cap : Nat) : cap ≤ maxLen → Brs S w (.slice a 0 cap) []
  | row (b off cap : Nat) (l : List Br) (kv : Nat → Value) : 0 < l.length → l.length ≤ cap → cap ≤ maxLen → b < w.heap.size → S b →
      (∀ i, i < l.length → w.cell? ⟨b, off + i * 4, none⟩ = some (.string (l.getD i default).key) ∧ w.cell? ⟨b, off + i * 4 + 1, none⟩ = some (.string (l.getD i default).val) ∧ w.cell? ⟨b, off + i * 4 + 2, none⟩ = some (.int .i64 (l.getD i default).at_) ∧ w.cell? ⟨b, off + i * 4 + 3, none⟩ = some (kv i)) →
      (∀ i, i < l.length → (l.getD i default).key.size ≤ maxLen ∧ (l.getD i default).val.size ≤ maxLen) →
      (∀ i, i < l.length → Brs S w (kv i) (l.getD i default).kids) →
      Brs S w (.slice (some ⟨b, off, none⟩) l.length cap) l
theorem Brs.kept {S : Nat → Prop} {w w' : World} {v : Value} {l : List Br} (h : Brs S w v l) (hs : w.heap.size ≤ w'.heap.size) (hk : ∀ k, k < w.heap.size → S k → w'.heap[k]? = w.heap[k]?) : Brs S w' v l := by
  induction h with
  | nil a cap hc => exact .nil a cap hc
  | row b off cap l kv h0 h1 h2 h3 h4 h5 h6 h7 ih =>
    have e : ∀ j, w'.cell? ⟨b, j, none⟩ = w.cell? ⟨b, j, none⟩ := fun j => World.cell?_of_block (w := w) (hk b h3 h4)
    exact .row b off cap l kv h0 h1 h2 (Nat.lt_of_lt_of_le h3 hs) h4 (fun i hi => ⟨(e _).trans (h5 i hi).1, (e _).trans (h5 i hi).2.1, (e _).trans (h5 i hi).2.2.1, (e _).trans (h5 i hi).2.2.2⟩) h6 ih
theorem Brs.blw {S : Nat → Prop} {w w' : World} {v : Value} {l : List Br} (h : Brs S w v l) (hb : Below w.heap.size w w') : Brs S w' v l := h.kept hb.size (fun k hk _ => hb.block k hk)
theorem Brs.touch {S T : Nat → Prop} {w w' : World} {v : Value} {l : List Br} (h : Brs S w v l) (ht : Touch T w w') (hn : ∀ k, S k → ¬ T k) : Brs S w' v l := h.kept ht.size (fun k hk hs => ht.block k hk (hn k hs))
theorem Brs.mono {S T : Nat → Prop} {w : World} {v : Value} {l : List Br} (h : Brs S w v l) (hst : ∀ k, S k → T k) : Brs T w v l := by
  induction h with
  | nil a cap hc => exact .nil a cap hc
  | row b off cap l kv h0 h1 h2 h3 h4 h5 h6 h7 ih => exact .row b off cap l kv h0 h1 h2 h3 (hst b h4) h5 h6 ih
theorem Brs.shape {S : Nat → Prop} {w : World} {v : Value} {l : List Br} (h : Brs S w v l) : ∃ a cap, v = .slice a l.length cap ∧ l.length ≤ cap ∧ cap ≤ maxLen := by
  cases h with
  | nil a cap hc => exact ⟨a, cap, rfl, Nat.zero_le _, hc⟩
  | row b off cap l kv h0 h1 h2 => exact ⟨_, cap, rfl, h1, h2⟩
/-- What is told of a slice of branches that is not empty. -/
structure BrAt (S : Nat → Prop) (w : World) (b off : Nat) (l : List Br) (kv : Nat → Value) : Prop where
  lt : b < w.heap.size
  here : S b
  cells : ∀ i, i < l.length → w.cell? ⟨b, off + i * 4, none⟩ = some (.string (l.getD i default).key) ∧ w.cell? ⟨b, off + i * 4 + 1, none⟩ = some (.string (l.getD i default).val) ∧ w.cell? ⟨b, off + i * 4 + 2, none⟩ = some (.int .i64 (l.getD i default).at_) ∧ w.cell? ⟨b, off + i * 4 + 3, none⟩ = some (kv i)
  small : ∀ i, i < l.length → (l.getD i default).key.size ≤ maxLen ∧ (l.getD i default).val.size ≤ maxLen
  kids : ∀ i, i < l.length → Brs S w (kv i) (l.getD i default).kids
theorem Brs.at {S : Nat → Prop} {w : World} {a : Option Addr} {n cap : Nat} {l : List Br} (h : Brs S w (.slice a n cap) l) (h0 : 0 < l.length) : ∃ b off kv, a = some ⟨b, off, none⟩ ∧ n = l.length ∧ BrAt S w b off l kv := by
  cases h with
  | nil a cap hc => simp at h0
  | row b off cap l kv h0 h1 h2 h3 h4 h5 h6 h7 => exact ⟨b, off, kv, rfl, rfl, h3, h4, h5, h6, h7⟩
mutual
def Br.wt : Br → Int
  | .mk k v _ l => (k.size : Int) + (v.size : Int) + wtL l
def wtL : List Br → Int
  | [] => 0
  | b :: r => 1 + Br.wt b + wtL r
end
mutual
theorem Br.wt_lo : ∀ b : Br, 0 ≤ b.wt
  | .mk k v _ l => by unfold Br.wt; have := wtL_lo l; omega
theorem wtL_lo : ∀ l : List Br, 0 ≤ wtL l
  | [] => by unfold wtL; omega
  | b :: r => by unfold wtL; have := Br.wt_lo b; have := wtL_lo r; omega
end
theorem Br.wt_eq (b : Br) : b.wt = (b.key.size : Int) + (b.val.size : Int) + wtL b.kids := by cases b; unfold Br.wt; rfl
/-- The weights of branches, without one for each. -/
def wtS : List Br → Int
  | [] => 0
  | b :: r => b.wt + wtS r
theorem wtS_lo : ∀ l : List Br, 0 ≤ wtS l
  | [] => by unfold wtS; omega
  | b :: r => by unfold wtS; have := Br.wt_lo b; have := wtS_lo r; omega
theorem wtL_eq : ∀ l : List Br, wtL l = (l.length : Int) + wtS l
  | [] => by unfold wtL wtS; simp
  | b :: r => by unfold wtL wtS; rw [wtL_eq r]; simp; omega
theorem wtS_drop : ∀ (l : List Br) (k : Nat), k < l.length → wtS (l.drop k) = (l.getD k default).wt + wtS (l.drop (k + 1))
  | [], k, h => by simp at h
  | b :: r, 0, h => by simp [wtS]
  | b :: r, k + 1, h => by
    have := wtS_drop r k (by simpa using h)
    simpa using this
theorem wtS_le : ∀ (l : List Br) (k : Nat), wtS (l.drop k) ≤ wtS l
  | [], k => by simp
  | b :: r, 0 => by simp
  | b :: r, k + 1 => by
    have := wtS_le r k
    have := Br.wt_lo b
    simp only [List.drop_succ_cons, wtS]; omega
theorem wtS_end (l : List Br) : wtS (l.drop l.length) = 0 := by simp [wtS]
theorem kid_wt (l : List Br) (k : Nat) (h : k < l.length) : (l.getD k default).wt ≤ wtS l := by
  have h1 := wtS_drop l k h
  have h2 := wtS_le l k
  have h3 := wtS_lo (l.drop (k + 1))
  omega
/-- What a measure leaves of L, or -1. -/
def szB (L x : Int) : Int := if x ≤ L then L - x else -1
theorem szB_cases (L x : Int) (h : 0 ≤ x) : szB L x = -1 ∨ (0 ≤ szB L x ∧ szB L x ≤ L ∧ x ≤ L) := by
  unfold szB; split
  · right; omega
  · left; rfl
end Go.Proofs.YtnajpeaieeaflaaDoor.Sha
