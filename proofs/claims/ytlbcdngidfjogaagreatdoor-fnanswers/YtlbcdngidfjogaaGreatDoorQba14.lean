/- What the proof of the claim needs (joined by program): ApT ApU. -/
import Derived.Test.YtlbcdngidfjogaaGreatDoorQba10
import Derived.Test.YtlbcdngidfjogaaGreatDoorQba11
import Derived.Test.YtlbcdngidfjogaaGreatDoorQba06
namespace Go.Proofs.YtlbcdngidfjogaaGreatDoor
set_option maxRecDepth 100000
set_option maxHeartbeats 8000000
open Go.ChangeShapes Go.WideShapes Go.ChangeAt Go.RowKit Go.Deep
set_option linter.unusedVariables false
set_option linter.unusedSimpArgs false
def seI (ss : List Se) (id : Int) : Int := if hasS ss id then (posS ss id : Int) else -1
theorem seI_at {ss : List Se} {id : Int} (h : RiseS ss) (k : Nat) (hk : k < ss.length) (he : (ss.getD k default).id = id) : seI ss id = (k : Int) := by
 have hp : IsPos ss id k := ⟨by omega, fun i hi => by rw [← he]; exact h i k hi hk, fun i h1 h2 => by
  by_cases e : k = i
  ·rw [← e, he]; exact Int.le_refl _
  ·have := h k i (by omega) h2; omega⟩
 have := (pos_is (id := id) h).uniq hp
 unfold seI
 rw [if_pos (has_iff.2 ⟨by rw [this]; exact hk, by rw [this]; exact he⟩), this]
theorem seI_no {ss : List Se} {id : Int} (h : ∀ i, i < ss.length → (ss.getD i default).id ≠ id) : seI ss id = -1 := by
 unfold seI
 rw [if_neg (fun e => by have := has_iff.1 e; exact h _ this.1 this.2)]
theorem l09Session_any (v : Value) (ss : List Se) (id : Int) (w : World) (h : Sess w v ss) (hs : ss.length ≤ 1048576) (hr : RiseS ss) :
  Calls Tryz.prog 35 #[v, .int .i64 id] w fun e w' => e = .returned (.int .i64 (seI ss id)) ∧ w' = w := by
 have HA := Hd (fun k hk he => seI_at (id := id) hr k hk he)
 have HN := Hd (seI_no (ss := ss) (id := id))
 obtain ⟨a, cap, rfl, hn, hm, hc⟩ := h
 have HC := Hd hc
 generalize seI ss id = r at *
 clear hc hn hm hr
 go_enter Tryz.func35, Tryz.ntmps35
 go_wp2_with fail
 go_loopw [5] (fun i wr => ∃ k : Nat, k ≤ ss.length ∧ i = .int .i64 k ∧ Hid (∀ i, i < k → (ss.getD i default).id ≠ id) ∧ wr = w) (fun i _ => ss.length - (intOf i).toNat)
 case atStart => exact ⟨0, Nat.zero_le _, rfl, Hd (fun i hi => by omega), rfl⟩
 case round =>
  obtain ⟨k, hk, rfl, hno, hwr⟩ := hrel
  have hw2 := hwr.symm
  clear hwr
  subst hw2
  by_cases hlt : k < ss.length
  ·obtain ⟨b, off, rfl, hbl, hsrc⟩ : ∃ b off, a = some ⟨b, off, none⟩ ∧ b < w.heap.size ∧ ∀ i, i < ss.length → w.cell? ⟨b, off + i * 5, none⟩ = some (.int .i64 (ss.getD i default).id) := by
    rcases uh HC with h0 | ⟨b, off, e, hb, h1⟩
    ·omega
    ·exact ⟨b, off, e, hb, fun i hi => (h1 i hi).1⟩
   have c0 := hsrc k hlt
   have m0 : (0 : Int) ≤ (k : Int) := by omega
   have m1 : (k : Int) < (ss.length : Int) := by omega
   have m2 : IntKind.i64.wrap ((k : Int) + 1) = (k : Int) + 1 := wrapSe2 _ (by omega) (by omega)
   have HK := Hd (uh HA k hlt)
   clear hsrc HA
   obtain ⟨f, hf⟩ : ∃ f, f = (ss.getD k default).id := ⟨_, rfl⟩
   rw [← hf] at c0 HK
   have HF := Hd hf
   clear hf
   by_cases he : f = id
   ·have b1 : (f == id) = true := by rw [he]; simp
    have E := Hd (uh HK he)
    clear he
    go_wp2_with fail
    go_ret
    exact ⟨ret_int (uh E).symm, rfl⟩
   ·have b1 : (f == id) = false := by rw [beq_eq_false_iff_ne]; exact he
    go_wp2_with fail
    refine ⟨⟨k + 1, by omega, by push_cast; rfl, Hd (fun i hi => ?_), by first | trivial | rfl⟩, ?_⟩
    ·by_cases e : i = k
     ·rw [e, ← uh HF]; exact he
     ·exact uh hno i (by omega)
    ·simp [intOf]; omega
  ·obtain rfl : k = ss.length := by omega
   have E := Hd (uh HN (uh hno))
   go_wp2_with fail
   go_ret
   exact ⟨ret_int (uh E).symm, rfl⟩
theorem ses_cells {w : World} {b off : Nat} {ss : List Se} (hc : ∀ i, i < ss.length → w.cell? ⟨b, off + i * 5, none⟩ = some (.int .i64 (ss.getD i default).id) ∧ w.cell? ⟨b, off + i * 5 + 1, none⟩ = some (.int .i64 (ss.getD i default).sq) ∧ w.cell? ⟨b, off + i * 5 + 2, none⟩ = some (.int .i64 (ss.getD i default).kd) ∧ w.cell? ⟨b, off + i * 5 + 3, none⟩ = some (.int .i64 (ss.getD i default).pl) ∧ w.cell? ⟨b, off + i * 5 + 4, none⟩ = some (.string (ss.getD i default).vl)) (j : Nat) (hj : j < ss.length * 5) : w.cell? ⟨b, off + j, none⟩ = (sesC ss)[j]? := by
 have hi : j / 5 < ss.length := by omega
 obtain ⟨h0, h1, h2, h3, h4⟩ := hc (j / 5) hi
 obtain ⟨e0, e1, e2, e3, e4⟩ := sesC_get ss (j / 5) hi
 rcases (show j % 5 = 0 ∨ j % 5 = 1 ∨ j % 5 = 2 ∨ j % 5 = 3 ∨ j % 5 = 4 by omega) with e | e | e | e | e
 ·rw [show j / 5 * 5 = j by omega] at e0 h0; rw [e0, h0]
 ·rw [show j / 5 * 5 + 1 = j by omega] at e1; rw [show off + j / 5 * 5 + 1 = off + j by omega] at h1; rw [e1, h1]
 ·rw [show j / 5 * 5 + 2 = j by omega] at e2; rw [show off + j / 5 * 5 + 2 = off + j by omega] at h2; rw [e2, h2]
 ·rw [show j / 5 * 5 + 3 = j by omega] at e3; rw [show off + j / 5 * 5 + 3 = off + j by omega] at h3; rw [e3, h3]
 ·rw [show j / 5 * 5 + 4 = j by omega] at e4; rw [show off + j / 5 * 5 + 4 = off + j by omega] at h4; rw [e4, h4]
theorem ses_take {w : World} {a : Option Addr} {cap : Nat} {ss : List Se} (h : Sess w (.slice a ss.length cap) ss) (k c : Nat) (hk : k ≤ ss.length) : Rw w (.slice a k c) k (sesC (ss.take k)) := by
 refine ⟨a, c, rfl, ?_⟩
 obtain ⟨a', cap', e, _, _, hc⟩ := h
 simp only [Value.slice.injEq] at e
 obtain ⟨rfl, _, rfl⟩ := e
 rcases hc with h0 | ⟨b, off, rfl, _, hc⟩
 ·exact .inl (by omega)
 ·refine .inr ⟨_, rfl, fun j u hj => ?_⟩
  have hl : j < (sesC (ss.take k)).length := (List.getElem?_eq_some_iff.1 hj).1
  rw [sesC_len, List.length_take] at hl
  rw [sesC_take, List.getElem?_take_of_lt (by omega)] at hj
  rw [Addr.add_lit, ses_cells hc j (by omega)]
  exact hj
theorem ses_drop {w : World} {b off cap : Nat} {ss : List Se} (h : Sess w (.slice (some ⟨b, off, none⟩) ss.length cap) ss) (k c x : Nat) (hx : k < ss.length → x = off + k * 5) : Rw w (.slice (some ⟨b, x, none⟩) (ss.length - k) c) (ss.length - k) (sesC (ss.drop k)) := by
 refine ⟨_, c, rfl, ?_⟩
 by_cases hk : k < ss.length
 ·obtain ⟨a', cap', e, _, _, hc⟩ := h
  simp only [Value.slice.injEq] at e
  obtain ⟨rfl, _, rfl⟩ := e
  rcases hc with h0 | ⟨b', off', e, _, hc⟩
  ·omega
  ·simp only [Option.some.injEq, Addr.mk.injEq, and_true] at e
   obtain ⟨rfl, rfl⟩ := e
   refine .inr ⟨_, rfl, fun j u hj => ?_⟩
   have hl : j < (sesC (ss.drop k)).length := (List.getElem?_eq_some_iff.1 hj).1
   rw [sesC_len, List.length_drop] at hl
   rw [sesC_drop, List.getElem?_drop] at hj
   rw [Addr.add_lit, hx hk, show off + k * 5 + j = off + (k * 5 + j) by omega, ses_cells hc _ (by omega)]
   exact hj
 ·exact .inl (by omega)
end Go.Proofs.YtlbcdngidfjogaaGreatDoor
