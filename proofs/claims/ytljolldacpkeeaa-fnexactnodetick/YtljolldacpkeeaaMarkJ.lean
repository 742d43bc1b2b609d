/- laws.markIntS, laws.heldIntS from any number on. -/
import Derived.Test.YtljolldacpkeeaaHaa
namespace Go.Proofs.Ytljolldacpkeeaa
open Go.ChangeShapes Go.WideShapes Go.ChangeAt Go.RowKit
set_option linter.unusedVariables false

def marksJ (c n : Nat) : List Int := (List.range n).map fun j => ((c + j : Nat) : Int)
theorem marksJ_len (c n : Nat) : (marksJ c n).length = n := by simp [marksJ]
theorem marksJ_get (c n j : Nat) (h : j < n) : (marksJ c n).getD j 0 = (c : Int) + (j : Int) := by simp [marksJ, List.getD_eq_getElem?_getD, h]
def markG (c : Nat) (l : List Int) (k j : Nat) : Int := if j < k then (c : Int) + (j : Int) else l.getD j 0

set_option maxRecDepth 100000 in
set_option maxHeartbeats 1000000 in
theorem markIntS_at (c : Nat) (hc0 : 0 < c) (hc1 : c ≤ 8388608) (B : Nat) (v : Value) (l : List Int) (w : World) (h : OwnI B w v l) (hl : l.length ≤ 1048576) :
    Calls Try.prog 34 #[v, .int .i64 (c : Int)] w fun e w' => e = .returned (.int .i64 ((c : Int) + (l.length : Int))) ∧ OwnI B w' v (marksJ c l.length) ∧ Touch (fun k => v.ownBlock = some k) w w' := by
  rcases h.shape with ⟨rfl, rfl⟩ | ⟨g, cap, rfl⟩
  · have H := hide h
    clear h
    go_enter Try.func34, Try.ntmps34
    go_wp2_with fail
    go_loopw [1, 5] (fun k i wr => k = .int .i64 (c : Int) ∧ i = .int .i64 0 ∧ wr = w) (fun _ _ _ => 0)
    case atStart => exact ⟨rfl, rfl, rfl⟩
    case round =>
      obtain ⟨rfl, rfl, rfl⟩ := hrel
      go_wp2_with fail
      go_ret
      exact ⟨rfl, unhide H, Touch.refl _ _⟩
  · obtain ⟨hL0, hm, hB, _, hlt0⟩ := LaidI.of h
    have HL := hide hL0
    have HM := hide hm
    clear h hL0 hm
    go_enter Try.func34, Try.ntmps34
    go_wp2_with fail
    go_loopw [1, 5] (fun k i wr => ∃ j : Nat, j ≤ l.length ∧ k = .int .i64 ((c : Int) + (j : Int)) ∧ i = .int .i64 j ∧ LaidI wr g cap (markG c l j) l.length ∧ Touch (fun k => k = g) w wr) (fun _ i _ => l.length - (intOf i).toNat)
    case atStart => exact ⟨0, Nat.zero_le _, rfl, rfl, by
      obtain ⟨cur, q1, q2, q3, q4⟩ := unhide HL
      exact ⟨cur, q1, q2, q3, fun j hj => by rw [q4 j hj]; unfold markG; rw [if_neg (by omega)]⟩, Touch.refl _ _⟩
    case round =>
      obtain ⟨j, hj, rfl, rfl, hL, hT⟩ := hrel
      by_cases hlt2 : j < l.length
      · obtain ⟨c1, f1⟩ := hL.cell j hlt2
        have R := hide (And.intro (hL.set (f' := markG c l (j + 1)) j ((c : Int) + (j : Int)) hlt2 (by unfold markG; rw [if_pos (by omega)]) (fun i hi => by
          unfold markG
          by_cases h1 : i < j
          · rw [if_pos h1, if_pos (by omega)]
          · rw [if_neg h1, if_neg (by omega)])) (hT.setCell ⟨g, j, none⟩ (.int .i64 ((c : Int) + (j : Int))) (fun _ => rfl)))
        have p0 : (0 : Int) ≤ (j : Int) := by omega
        have p1 : (j : Int) < (l.length : Int) := by omega
        clear hL hT
        go_wp2_with fail
        refine ⟨⟨j + 1, by omega, by go_num, by go_num, (unhide R).1, (unhide R).2⟩, ?_⟩
        simp [intOf]; omega
      · obtain rfl : j = l.length := by omega
        have R := hide (And.intro hL hT)
        clear hL hT
        go_wp2_with fail
        go_ret
        refine ⟨rfl, ?_, ?_⟩
        · have hh := LaidI.own (B := B) (l := marksJ c l.length) (f := markG c l l.length) (w := _) (g := g) (cap := cap) (by rw [marksJ_len]; exact (unhide R).1) (fun j hj => by rw [marksJ_len] at hj; rw [marksJ_get _ _ _ hj]; unfold markG; rw [if_pos hj]) hB (unhide HM)
          rw [marksJ_len] at hh; exact hh
        · exact (Touch.refl (fun k => (Value.slice (some ⟨g, 0, none⟩) l.length cap).ownBlock = some k) w).trans (unhide R).2 (fun k _ e => by subst e; rfl)

set_option maxRecDepth 100000 in
set_option maxHeartbeats 1000000 in
theorem heldIntS_at (c : Nat) (hc0 : 0 < c) (hc1 : c ≤ 8388608) (B : Nat) (v : Value) (n : Nat) (w : World) (h : OwnI B w v (marksJ c n)) (hn : n ≤ 1048576) :
    Calls Try.prog 36 #[v, .int .i64 (c : Int)] w fun e w' => e = .returned (.int .i64 ((c : Int) + (n : Int))) ∧ w' = w := by
  rcases h.shape with ⟨rfl, h0⟩ | ⟨g, cap, rfl⟩
  · have hn0 : n = 0 := by have := congrArg List.length h0; rw [marksJ_len] at this; simpa using this
    subst hn0
    clear h h0
    go_enter Try.func36, Try.ntmps36
    go_wp2_with fail
    go_loop [1, 5] (fun k i => k = .int .i64 (c : Int) ∧ i = .int .i64 0) (fun _ _ => 0)
    case atStart => exact ⟨rfl, rfl⟩
    case round =>
      obtain ⟨rfl, rfl⟩ := hrel
      go_wp2_with fail
      go_ret
      exact ⟨rfl, rfl⟩
  · obtain ⟨hL0, _, _, _, _⟩ := LaidI.of h
    have HC := hide (fun j hj => (hL0.cell j hj).1)
    have hml := marksJ_len c n
    clear h hL0
    go_enter Try.func36, Try.ntmps36
    go_wp2_with fail
    go_loop [1, 5] (fun k i => ∃ j : Nat, j ≤ n ∧ k = .int .i64 ((c : Int) + (j : Int)) ∧ i = .int .i64 j) (fun _ i => n - (intOf i).toNat)
    case atStart => exact ⟨0, Nat.zero_le _, rfl, rfl⟩
    case round =>
      obtain ⟨j, hj, rfl, rfl⟩ := hrel
      by_cases hlt2 : j < n
      · have c1 := unhide HC j (by omega)
        simp only [marksJ_get c n j hlt2] at c1
        have p0 : (0 : Int) ≤ (j : Int) := by omega
        have p1 : (j : Int) < (n : Int) := by omega
        go_wp2_with fail
        go_round
        case rel => exact ⟨j + 1, by omega, by go_num, by go_num⟩
        case measure => simp [intOf]; omega
      · obtain rfl : j = n := by omega
        go_wp2_with fail
        go_ret
        exact ⟨rfl, rfl⟩

end Go.Proofs.Ytljolldacpkeeaa
