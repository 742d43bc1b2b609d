/- laws.sameTexts; laws.at of one. -/
import Derived.Test.YtnaoccndghnmpaaDoorStrO
import Derived.Test.YtnaoccndghnmpaaDoorAtS
namespace Go.Proofs.YtnaoccndghnmpaaDoor
open Go.ChangeShapes Go.WideShapes Go.ChangeAt Go.RowKit
set_option linter.unusedVariables false

set_option maxRecDepth 100000 in
set_option maxHeartbeats 1000000 in
theorem at_one (v : Value) (i : Int) (w : World) :
    Calls Tryd.prog 9 #[v, .int .i64 i, .int .i64 1] w fun e w' => e = .returned (.int .i64 0) ∧ w' = w := by
  go_enter Tryd.func9, Tryd.ntmps9
  go_wp2_with fail
  go_ret
  exact ⟨rfl, rfl⟩
theorem at_all (v : Value) (l : List Int) (i n : Int) (w : World) (h : Bytes w v l) (hi0 : 0 ≤ i) (hi : i ≤ 1000) (hn : 1 ≤ n) (hn2 : n ≤ 1048576000) :
    Calls Tryd.prog 9 #[v, .int .i64 i, .int .i64 n] w fun e w' => ∃ r : Int, e = .returned (.int .i64 r) ∧ 0 ≤ r ∧ r < n ∧ ∃ d, w' = w.drewN d := by
  by_cases h1 : n = 1
  · subst h1
    refine (at_one v i w).mono ?_
    rintro e w' ⟨rfl, rfl⟩
    exact ⟨0, rfl, by omega, by omega, 0, rfl⟩
  · exact at_any v l i n w h hi0 hi (by omega) hn2

set_option maxRecDepth 100000 in
set_option maxHeartbeats 1000000 in
theorem sameTexts_any (v v2 : Value) (l : List ByteArray) (w : World) (h : Strs w v l) (h2 : Strs w v2 l) (hs : l.length ≤ 1048576) :
    Calls Tryd.prog 13 #[v, v2] w fun e w' => e = .returned (.bool true) ∧ ∃ n, w' = w.drewN n := by
  obtain ⟨a, cap, rfl, hm, hc⟩ := h
  obtain ⟨a2, cap2, rfl, hm2, hc2⟩ := h2
  have HC := hide hc
  have HC2 := hide hc2
  clear hc hm hc2 hm2
  go_enter Tryd.func13, Tryd.ntmps13
  go_wp2_with fail
  go_loopw [5] (fun i wr => ∃ k n : Nat, k ≤ l.length ∧ i = .int .i64 k ∧ wr = w.drewN n) (fun i _ => l.length - (intOf i).toNat)
  case atStart => exact ⟨0, 0, Nat.zero_le _, rfl, rfl⟩
  case round =>
    obtain ⟨k, n, hk, rfl, rfl⟩ := hrel
    by_cases hlt : k < l.length
    · obtain ⟨b, off, rfl, hbl, hsrc⟩ : ∃ b off, a = some ⟨b, off, none⟩ ∧ b < w.heap.size ∧ ∀ i, i < l.length → w.cell? ⟨b, off + i, none⟩ = some (.string (l.getD i ByteArray.empty)) := by
        rcases unhide HC with h0 | h1
        · omega
        · exact h1
      obtain ⟨b2, off2, rfl, hbl2, hsrc2⟩ : ∃ b off, a2 = some ⟨b, off, none⟩ ∧ b < w.heap.size ∧ ∀ i, i < l.length → w.cell? ⟨b, off + i, none⟩ = some (.string (l.getD i ByteArray.empty)) := by
        rcases unhide HC2 with h0 | h1
        · omega
        · exact h1
      have hs1 : w.cell? ⟨b, off + k, none⟩ = some (.string (l.getD k ByteArray.empty)) := hsrc k hlt
      have hs2 : w.cell? ⟨b2, off2 + k, none⟩ = some (.string (l.getD k ByteArray.empty)) := hsrc2 k hlt
      have hk0 : (0 : Int) ≤ (k : Int) := by omega
      have hk1 : (k : Int) < (l.length : Int) := by omega
      clear hsrc hsrc2
      generalize l.getD k ByteArray.empty = x at *
      go_wp2_with fail
      go_quiet (fail)
      go_wp2_with fail
      refine ⟨⟨k + 1, n + nq, by omega, by go_num, rfl⟩, ?_⟩
      simp [intOf]; omega
    · go_wp2_with fail
      go_ret
      exact ⟨rfl, n, rfl⟩
end Go.Proofs.YtnaoccndghnmpaaDoor
