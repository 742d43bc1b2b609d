/- Numbers in a list: spec.l10Has, slices.Index and Contains of numbers, walked (out of NodB and CfA, for cuts without nodes). -/
import Derived.Test.YtedfidpmehamdaaMemI
namespace Go.Proofs.Ytedfidpmehamdaa
open Go.ChangeShapes Go.WideShapes Go.ChangeAt Go.RowKit
set_option linter.unusedVariables false

theorem hasB_none {l : List Int} {n : Int} (h : ∀ i, i < l.length → l.getD i 0 ≠ n) : decide (n ∈ l) = false := by
  refine decide_eq_false (fun hm => ?_)
  obtain ⟨i, hi, e⟩ := List.getElem_of_mem hm
  refine h i hi ?_
  rw [List.getD_eq_getElem?_getD, List.getElem?_eq_getElem hi]; exact e
theorem hasB_some {l : List Int} {n : Int} {k : Nat} (hk : k < l.length) (h : l.getD k 0 = n) : decide (n ∈ l) = true := by
  refine decide_eq_true ?_
  rw [List.getD_eq_getElem?_getD, List.getElem?_eq_getElem hk] at h
  simp only [Option.getD_some] at h
  rw [← h]; exact List.getElem_mem hk
set_option maxRecDepth 100000 in
set_option maxHeartbeats 1000000 in
theorem l10Has_any (v : Value) (l : List Int) (n : Int) (w : World) (h : Ints w v l) (hs : l.length ≤ 1048576) :
    Calls Try.prog 41 #[v, .int .i64 n] w fun e w' => e = .returned (.bool (decide (n ∈ l))) ∧ w' = w := by
  obtain ⟨a, cap, rfl, hm, hc⟩ := h
  have HC := hide hc
  clear hc hm
  have HN := hide (fun (hx : ∀ i, i < l.length → l.getD i 0 ≠ n) => hasB_none hx)
  have HS := hide (fun k (hk : k < l.length) (hx : l.getD k 0 = n) => hasB_some hk hx)
  generalize decide (n ∈ l) = R at *
  go_enter Try.func41, Try.ntmps41
  go_wp2_with fail
  go_loop [5] (fun i => ∃ k : Nat, k ≤ l.length ∧ i = .int .i64 k ∧ Hid (∀ i, i < k → l.getD i 0 ≠ n)) (fun i => l.length - (intOf i).toNat)
  case atStart => exact ⟨0, Nat.zero_le _, rfl, fun i hi => absurd hi (Nat.not_lt_zero _)⟩
  case round =>
    obtain ⟨k, hk, rfl, hA⟩ := hrel
    by_cases hlt : k < l.length
    · obtain ⟨b, off, rfl, hbl, hsrc⟩ : ∃ b off, a = some ⟨b, off, none⟩ ∧ b < w.heap.size ∧ ∀ i, i < l.length → w.cell? ⟨b, off + i, none⟩ = some (.int .i64 (l.getD i 0)) := by
        rcases unhide HC with h0 | h1
        · omega
        · exact h1
      have s1 := hsrc k hlt
      have hk0 : (0 : Int) ≤ (k : Int) := by omega
      have hk1 : (k : Int) < (l.length : Int) := by omega
      clear hsrc
      by_cases he : l.getD k 0 = n
      · have E := hide (unhide HS k hlt he)
        have hb : (l.getD k 0 == n) = true := by simpa using he
        generalize l.getD k 0 = x at *
        go_wp2_with fail
        go_ret
        exact ⟨ret_bool (unhide E).symm, rfl⟩
      · have hb : (l.getD k 0 == n) = false := by simpa using he
        have E := hide (show ∀ i, i < k + 1 → l.getD i 0 ≠ n from fun i hi => by
          by_cases e : i = k
          · subst e; exact he
          · exact unhide hA i (by omega))
        generalize l.getD k 0 = x at *
        go_wp2_with fail
        go_round
        case rel => exact ⟨k + 1, by omega, by go_num, E⟩
        case measure => simp [intOf]; omega
    · obtain rfl : k = l.length := by omega
      have E := hide (unhide HN (unhide hA))
      go_wp2_with fail
      go_ret
      exact ⟨ret_bool (unhide E).symm, rfl⟩
set_option maxRecDepth 100000 in
set_option maxHeartbeats 1000000 in
theorem indexInt_any (v : Value) (l : List Int) (n : Int) (w : World) (h : Ints w v l) (hs : l.length ≤ 1048576) :
    Calls Try.prog 50 #[v, .int .i64 n] w fun e w' => ∃ r : Int, e = .returned (.int .i64 r) ∧ (0 ≤ r ↔ n ∈ l) ∧ w' = w := by
  obtain ⟨a, cap, rfl, hm, hc⟩ := h
  have HC := hide hc
  clear hc hm
  go_enter Try.func50, Try.ntmps50
  go_wp2_with fail
  go_loop [8] (fun i => ∃ k : Nat, k ≤ l.length ∧ i = .int .i64 k ∧ Hid (∀ j, j < k → l.getD j 0 ≠ n)) (fun i => l.length - (intOf i).toNat)
  case atStart => exact ⟨0, Nat.zero_le _, rfl, fun j hj => absurd hj (Nat.not_lt_zero _)⟩
  case round =>
    obtain ⟨k, hk, rfl, HGO⟩ := hrel
    by_cases hlt : k < l.length
    · obtain ⟨b, off, rfl, hbl, hsrc⟩ : ∃ b off, a = some ⟨b, off, none⟩ ∧ b < w.heap.size ∧ ∀ i, i < l.length → w.cell? ⟨b, off + i, none⟩ = some (.int .i64 (l.getD i 0)) := by
        rcases unhide HC with h0 | h1
        · omega
        · exact h1
      have c0 := hsrc k hlt
      have hk0 : (0 : Int) ≤ (k : Int) := by omega
      have hk1 : (k : Int) < (l.length : Int) := by omega
      have HM : Hid (l.getD k 0 ∈ l) := hide (by rw [List.getD_eq_getElem?_getD, List.getElem?_eq_getElem hlt]; exact List.getElem_mem hlt)
      clear hsrc
      by_cases ht : l.getD k 0 = n
      · rw [ht] at c0 HM
        have hb : (n == n) = true := by simp
        go_wp2_with fail
        go_ret
        exact ⟨_, rfl, ⟨fun _ => unhide HM, fun _ => hk0⟩, rfl⟩
      · have ht2 : (n == l.getD k 0) = false := beq_eq_false_iff_ne.2 (fun e => ht e.symm)
        have E := hide (show ∀ i, i < k + 1 → l.getD i 0 ≠ n from fun i hi => by
          by_cases e : i = k
          · subst e; exact ht
          · exact unhide HGO i (by omega))
        generalize l.getD k 0 = t at *
        go_wp2_with fail
        refine ⟨⟨k + 1, by omega, by go_num, E⟩, ?_⟩
        simp [intOf]; omega
    · obtain rfl : k = l.length := by omega
      have HA : Hid (¬ n ∈ l) := hide (of_decide_eq_false (hasB_none (unhide HGO)))
      go_wp2_with fail
      go_ret
      exact ⟨_, rfl, ⟨fun h => by omega, fun h => absurd h (unhide HA)⟩, rfl⟩
set_option maxRecDepth 100000 in
theorem containsInt_any (v : Value) (l : List Int) (n : Int) (w : World) (h : Ints w v l) (hs : l.length ≤ 1048576) :
    Calls Try.prog 49 #[v, .int .i64 n] w fun e w' => e = .returned (.bool (decide (n ∈ l))) ∧ w' = w := by
  have HI := hide (indexInt_any v l n w h hs)
  obtain ⟨a, cap, rfl, hm, hc⟩ := h
  clear hc
  go_enter Try.func49, Try.ntmps49
  go_wp2_with fail
  refine (unhide HI).mono ?_
  rintro e w' ⟨r, rfl, hr, hw⟩
  subst w'
  by_cases h0 : 0 ≤ r
  · have HA := hide (decide_eq_true (hr.1 h0))
    clear hr
    go_wp2_with fail
    go_ret
    exact ⟨ret_bool (by rw [unhide HA]), rfl⟩
  · have HA : Hid (decide (n ∈ l) = false) := hide (decide_eq_false (fun h => h0 (hr.2 h)))
    clear hr
    go_wp2_with fail
    go_ret
    exact ⟨ret_bool (by rw [unhide HA]; simp; omega), rfl⟩
end Go.Proofs.Ytedfidpmehamdaa
