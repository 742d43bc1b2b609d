/- Branches of the call's own: each slice in a block that nothing else of the map has; toBranch makes such ones. -/
import Derived.Test.YtkcpdjeemdlgcaaDoorBrL
import Derived.Test.YtkcpdjeemdlgcaaDoorStrO
import Derived.Test.YtkcpdjeemdlgcaaDoorLawG
import Derived.Deep.Onto
namespace Go.Proofs.YtkcpdjeemdlgcaaDoor.Sha
open Go.ChangeShapes Go.WideShapes Go.ChangeAt Go.RowKit
set_option linter.unusedVariables false

/-- The cells of a row of branches. -/
def RowIs (xs : List Value) (l : List Br) (kv : Nat → Value) (k : Nat) : Prop :=
  ∀ i, i < k → xs[i * 4]? = some (.string (l.getD i default).key) ∧ xs[i * 4 + 1]? = some (.string (l.getD i default).val) ∧ xs[i * 4 + 2]? = some (.int .i64 (l.getD i default).at_) ∧ xs[i * 4 + 3]? = some (kv i)
theorem set4_same (xs : List Value) (k n : Nat) (a b c d : Value) (hl : xs.length = n * 4) (hk : k < n) :
    ((((xs.set (k * 4) a).set (k * 4 + 1) b).set (k * 4 + 2) c).set (k * 4 + 3) d)[k * 4]? = some a ∧ ((((xs.set (k * 4) a).set (k * 4 + 1) b).set (k * 4 + 2) c).set (k * 4 + 3) d)[k * 4 + 1]? = some b ∧
    ((((xs.set (k * 4) a).set (k * 4 + 1) b).set (k * 4 + 2) c).set (k * 4 + 3) d)[k * 4 + 2]? = some c ∧ ((((xs.set (k * 4) a).set (k * 4 + 1) b).set (k * 4 + 2) c).set (k * 4 + 3) d)[k * 4 + 3]? = some d := by
  refine ⟨?_, ?_, ?_, ?_⟩
  · rw [List.getElem?_set_ne (by omega), List.getElem?_set_ne (by omega), List.getElem?_set_ne (by omega), List.getElem?_set_self (by omega)]
  · rw [List.getElem?_set_ne (by omega), List.getElem?_set_ne (by omega), List.getElem?_set_self (by simp; omega)]
  · rw [List.getElem?_set_ne (by omega), List.getElem?_set_self (by simp; omega)]
  · rw [List.getElem?_set_self (by simp; omega)]
theorem set4_other (xs : List Value) (k j : Nat) (a b c d : Value) (h : j < k * 4 ∨ k * 4 + 3 < j) : ((((xs.set (k * 4) a).set (k * 4 + 1) b).set (k * 4 + 2) c).set (k * 4 + 3) d)[j]? = xs[j]? := by
  rw [List.getElem?_set_ne (by omega), List.getElem?_set_ne (by omega), List.getElem?_set_ne (by omega), List.getElem?_set_ne (by omega)]
/-- The value is a slice of the call's own that holds these branches, and all their slices lie in blocks of S, no two in one. -/
inductive BrO (w : World) : (Nat → Prop) → Value → List Br → Prop
  | nil (S : Nat → Prop) (a : Option Addr) (cap : Nat) : cap ≤ maxLen → BrO w S (.slice a 0 cap) []
  | row (S : Nat → Prop) (g cap : Nat) (l : List Br) (kv : Nat → Value) (xs : List Value) (Si : Nat → Nat → Prop) : 0 < l.length → S g →
      w.ownsRow 0 27 4 (.slice (some ⟨g, 0, none⟩) l.length cap) l.length xs → RowIs xs l kv l.length →
      (∀ i, i < l.length → (l.getD i default).key.size ≤ maxLen ∧ (l.getD i default).val.size ≤ maxLen) →
      (∀ i b, i < l.length → Si i b → S b ∧ b ≠ g) →
      (∀ i j b, i < j → j < l.length → Si i b → ¬ Si j b) →
      (∀ i, i < l.length → BrO w (Si i) (kv i) (l.getD i default).kids) →
      BrO w S (.slice (some ⟨g, 0, none⟩) l.length cap) l
theorem BrO.brs {w : World} {S : Nat → Prop} {v : Value} {l : List Br} (h : BrO w S v l) : Brs S w v l := by
  induction h with
  | nil S a cap hc => exact .nil a cap hc
  | row S g cap l kv xs Si h0 h1 h2 h3 h4 h5 h6 h7 ih =>
    obtain ⟨hl, hc⟩ := id h2
    rcases hc with ⟨hx, _⟩ | ⟨g', cap', cur, hv, hb, hg, hn, hm, hz, ht⟩
    · cases hx
    · simp only [Value.slice.injEq, Option.some.injEq, Addr.mk.injEq] at hv
      obtain ⟨⟨rfl, _, _⟩, _, rfl⟩ := hv
      refine .row g 0 cap l kv h0 hn hm (Array.getElem?_eq_some_iff.1 hg).1 h1 (fun i hi => ?_) h4 (fun i hi => (ih i hi).mono (fun b hb => (h5 i b hi hb).1))
      obtain ⟨e0, e1, e2, e3⟩ := h3 i hi
      rw [Nat.zero_add]
      exact ⟨(h2.cellAt _ (by omega)).trans e0, (h2.cellAt _ (by omega)).trans e1, (h2.cellAt _ (by omega)).trans e2, (h2.cellAt _ (by omega)).trans e3⟩
theorem BrO.touch {w w' : World} {S T : Nat → Prop} {v : Value} {l : List Br} (h : BrO w S v l) (ht : Touch T w w') (hn : ∀ k, S k → ¬ T k) : BrO w' S v l := by
  induction h with
  | nil S a cap hc => exact .nil S a cap hc
  | row S g cap l kv xs Si h0 h1 h2 h3 h4 h5 h6 h7 ih =>
    exact .row S g cap l kv xs Si h0 h1 (own_kept h2 ht (fun k hk => by cases hk; exact hn g h1)) h3 h4 h5 h6 (fun i hi => ih i hi (fun k hk => hn k (h5 i k hi hk).1))
theorem BrO.blw {w w' : World} {S : Nat → Prop} {v : Value} {l : List Br} (h : BrO w S v l) (hb : Below w.heap.size w w') : BrO w' S v l := h.touch (T := fun _ => False) (Touch.ofBelow hb) (fun _ _ h => h)
theorem BrO.mono {w : World} {S T : Nat → Prop} {v : Value} {l : List Br} (h : BrO w S v l) (hst : ∀ k, S k → T k) : BrO w T v l := by
  cases h with
  | nil S a cap hc => exact .nil T a cap hc
  | row S g cap l kv xs Si h0 h1 h2 h3 h4 h5 h6 h7 => exact .row T g cap l kv xs Si h0 (hst g h1) h2 h3 h4 (fun i b hi hb => ⟨hst b (h5 i b hi hb).1, (h5 i b hi hb).2⟩) h6 h7
theorem BrO.shape {w : World} {S : Nat → Prop} {v : Value} {l : List Br} (h : BrO w S v l) : ∃ a cap, v = .slice a l.length cap ∧ l.length ≤ cap ∧ cap ≤ maxLen := h.brs.shape
theorem infoBr : (Tryd.prog.info? 27).map (fun i => (i.zero, i.size, i.bytes)) = some (some (.agg #[.string ⟨#[]⟩, .string ⟨#[]⟩, .int .i64 0, .slice none 0 0]), 4, 64) := by kernel_rfl

theorem made4_len (l : Nat) : (madeCells (Value.agg #[.string ⟨#[]⟩, .string ⟨#[]⟩, .int .i64 0, .slice none 0 0]).cells (l * 4)).toList.length = l * 4 := by
  rw [Array.length_toList, size_madeCells]
end Go.Proofs.YtkcpdjeemdlgcaaDoor.Sha
