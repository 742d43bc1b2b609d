/- Flags: marks laid into them, and found there (the like of GdM, without lists of lists: never import both). -/
import Derived.Test.YtkojmnlfpccbiaaBo
namespace Go.Proofs.Ytkojmnlfpccbiaa
open Go.ChangeShapes Go.WideShapes Go.ChangeAt Go.RowKit Go.Deep
set_option linter.unusedVariables false
set_option linter.unusedSimpArgs false

def mbo (n : Int) : Bool := n % 3 == 0
theorem wrapOp (n : Int) (h0 : 0 ≤ n) (h1 : n < 9223372036854775808) : IntKind.i64.wrap n = n := by
  simp only [IntKind.wrap, IntKind.bits, IntKind.signed]; simp; omega
def mrow (c n : Nat) : List Bool := (List.range n).map fun (j : Nat) => mbo ((c : Int) + (j : Int))
def mTo (c : Nat) (l : List Bool) (k : Nat) : List Bool := (List.range l.length).map fun (j : Nat) => if j < k then mbo ((c : Int) + (j : Int)) else l.getD j false
theorem mrow_len (c n : Nat) : (mrow c n).length = n := by simp [mrow]
theorem mTo_len (c : Nat) (l : List Bool) (k : Nat) : (mTo c l k).length = l.length := by simp [mTo]
theorem mTo_zero (c : Nat) (l : List Bool) : mTo c l 0 = l := by
  apply List.ext_getElem?
  intro j
  by_cases hj : j < l.length
  · simp [mTo, hj, List.getD_eq_getElem?_getD]
  · simp [mTo, hj]
theorem mTo_all (c : Nat) (l : List Bool) : mTo c l l.length = mrow c l.length := by
  apply List.ext_getElem?
  intro j
  by_cases hj : j < l.length
  · simp [mTo, mrow, hj]
  · simp [mTo, mrow, hj]
theorem mTo_set (c : Nat) (l : List Bool) (k : Nat) (hk : k < l.length) : ((mTo c l k).map Value.bool).set k (.bool (mbo ((c : Int) + (k : Int)))) = (mTo c l (k + 1)).map Value.bool := by
  apply List.ext_getElem?
  intro j
  rw [List.getElem?_set]
  simp only [List.length_map, mTo_len, List.getElem?_map]
  by_cases e : k = j
  · subst e
    rw [if_pos rfl, if_pos hk]
    simp [mTo, hk]
  · rw [if_neg e]
    by_cases hj : j < l.length
    · by_cases h1 : j < k
      · simp [mTo, hj, h1, show j < k + 1 by omega]
      · simp [mTo, hj, h1, show ¬ j < k + 1 by omega]
    · simp [mTo, hj]
theorem mrow_get (c n j : Nat) (h : j < n) : (mrow c n).getD j false = mbo ((c : Int) + (j : Int)) := by simp [mrow, List.getD_eq_getElem?_getD, h]
set_option maxRecDepth 100000 in
set_option maxHeartbeats 1000000 in
theorem markBoolS_at (c : Nat) (hc1 : c ≤ 8388608) (B : Nat) (v : Value) (l : List Bool) (w : World) (h : OwnBo B w v l) (hl : l.length ≤ 1048576) :
    Calls Try.prog 33 #[v, .int .i64 (c : Int)] w fun e w' => e = .returned (.int .i64 ((c : Int) + (l.length : Int))) ∧ OwnBo B w' v (mrow c l.length) ∧ Touch (fun k => v.ownBlock = some k) w w' := by
  rcases own_shape h with ⟨rfl, h0⟩ | ⟨g, cap, rfl, hB, hlt0, hn, hm⟩
  · obtain rfl : l = [] := List.eq_nil_of_length_eq_zero h0
    have HO : Hid (OwnBo B w (.slice none 0 0) (mrow c 0)) := hide h
    clear h
    go_enter Try.func33, Try.ntmps33
    go_wp2_with fail
    go_loop [1, 5] (fun k i => k = .int .i64 (c : Int) ∧ i = .int .i64 0) (fun _ _ => 0)
    case atStart => exact ⟨rfl, rfl⟩
    case round =>
      obtain ⟨rfl, rfl⟩ := hrel
      go_wp2_with fail
      go_ret
      exact ⟨ret_int (by simp), unhide HO, Touch.refl _ _⟩
  · have H : Hid (w.ownsRow B 4 1 (.slice (some ⟨g, 0, none⟩) l.length cap) l.length ((mTo c l 0).map Value.bool)) := hide (by rw [mTo_zero]; exact h)
    clear h
    go_enter Try.func33, Try.ntmps33
    go_wp2_with fail
    go_loopw [1, 5] (fun k i wr => ∃ j : Nat, j ≤ l.length ∧ k = .int .i64 ((c : Int) + (j : Int)) ∧ i = .int .i64 j ∧ wr.ownsRow B 4 1 (.slice (some ⟨g, 0, none⟩) l.length cap) l.length ((mTo c l j).map Value.bool) ∧ Touch (fun k => (Value.slice (some ⟨g, 0, none⟩) l.length cap).ownBlock = some k) w wr) (fun _ i _ => l.length - (intOf i).toNat)
    case atStart => exact ⟨0, Nat.zero_le _, congrArg (Value.int .i64) (by omega), rfl, unhide H, Touch.refl _ _⟩
    case round =>
      obtain ⟨j, hj, rfl, rfl, hL, hT⟩ := hrel
      by_cases hlt2 : j < l.length
      · have p0 : (0 : Int) ≤ (j : Int) := by omega
        have p1 : (j : Int) < (l.length : Int) := by omega
        have hc0 := hL.cellAt j (by omega)
        rw [List.getElem?_map, List.getElem?_eq_getElem (by rw [mTo_len]; exact hlt2)] at hc0
        simp only [Option.map_some] at hc0
        obtain ⟨x, hc0⟩ : ∃ x, wr.cell? ⟨g, j, none⟩ = some (.bool x) := ⟨_, hc0⟩
        have hf0 := hL.frozenAt j
        have q1 : IntKind.i64.wrap ((c : Int) + (j : Int) + 1) = (c : Int) + (j : Int) + 1 := wrapOp _ (by omega) (by omega)
        have R := hide (And.intro (hL.stored j (.bool (mbo ((c : Int) + (j : Int))))).1 (hT.setCell ⟨g, j, none⟩ (.bool (mbo ((c : Int) + (j : Int)))) (fun _ => rfl)))
        rw [mTo_set c l j hlt2] at R
        have m2 : (((c : Int) + (j : Int)) % 3 == 0) = mbo ((c : Int) + (j : Int)) := rfl
        clear hL hT
        generalize mbo ((c : Int) + (j : Int)) = z at *
        go_wp2_with fail
        refine ⟨⟨j + 1, by omega, congrArg (Value.int .i64) (by omega), by go_num, (unhide R).1, (unhide R).2⟩, ?_⟩
        simp [intOf]; omega
      · obtain rfl : j = l.length := by omega
        have R := hide (And.intro hL hT)
        clear hL hT
        go_wp2_with fail
        go_ret
        refine ⟨rfl, ?_, (unhide R).2⟩
        have := (unhide R).1
        rw [mTo_all] at this
        unfold OwnBo
        rw [mrow_len]
        exact this
set_option maxRecDepth 100000 in
set_option maxHeartbeats 1000000 in
theorem heldBoolS_at (c : Nat) (hc1 : c ≤ 8388608) (v : Value) (n : Nat) (w : World) (h : Bos w v (mrow c n)) (hl : n ≤ 1048576) :
    Calls Try.prog 34 #[v, .int .i64 (c : Int)] w fun e w' => e = .returned (.int .i64 ((c : Int) + (n : Int))) ∧ w' = w := by
  obtain ⟨a, cap, rfl, hm, hc⟩ := h
  rw [mrow_len] at hc ⊢
  have HC := hide hc
  clear hc hm
  go_enter Try.func34, Try.ntmps34
  go_wp2_with fail
  go_loop [1, 5] (fun k i => ∃ j : Nat, j ≤ n ∧ k = .int .i64 ((c : Int) + (j : Int)) ∧ i = .int .i64 j) (fun _ i => n - (intOf i).toNat)
  case atStart => exact ⟨0, Nat.zero_le _, congrArg (Value.int .i64) (by omega), rfl⟩
  case round =>
    obtain ⟨j, hj, rfl, rfl⟩ := hrel
    by_cases hlt2 : j < n
    · obtain ⟨b, off, rfl, hbl, hsrc⟩ : ∃ b off, a = some ⟨b, off, none⟩ ∧ b < w.heap.size ∧ ∀ i, i < n → w.cell? ⟨b, off + i, none⟩ = some (.bool ((mrow c n).getD i false)) := by
        rcases unhide HC with h0 | h1
        · omega
        · exact h1
      have c0 := hsrc j hlt2
      rw [mrow_get c n j hlt2] at c0
      have p0 : (0 : Int) ≤ (j : Int) := by omega
      have p1 : (j : Int) < (n : Int) := by omega
      have q1 : IntKind.i64.wrap ((c : Int) + (j : Int) + 1) = (c : Int) + (j : Int) + 1 := wrapOp _ (by omega) (by omega)
      have m2 : (((c : Int) + (j : Int)) % 3 == 0) = mbo ((c : Int) + (j : Int)) := rfl
      clear hsrc
      generalize mbo ((c : Int) + (j : Int)) = z at *
      have mm : (z != z) = false := by simp
      go_wp2_with fail
      refine ⟨⟨j + 1, by omega, congrArg (Value.int .i64) (by omega), by go_num⟩, ?_⟩
      simp [intOf]; omega
    · obtain rfl : j = n := by omega
      go_wp2_with fail
      go_ret
      exact ⟨rfl, rfl⟩
end Go.Proofs.Ytkojmnlfpccbiaa
