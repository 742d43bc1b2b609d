/- spec.l10Ids, walked. -/
import Derived.Test.YtglkgmijcefjkaaNodO
namespace Go.Proofs.Ytglkgmijcefjkaa
open Go.ChangeShapes Go.WideShapes Go.ChangeAt Go.RowKit Go.Deep
set_option linter.unusedVariables false

/-- The numbers are within the nodes' bounds and rise. -/
def idsB (l : List Int) : Bool := decide (InAll l ∧ Rising l)
theorem idsB_fault (l : List Int) : decide (mFault l = 0) = (idsB l && !decide (l.length = 0)) := by
  unfold mFault idsB
  by_cases h1 : InAll l
  · rw [if_pos h1]
    by_cases h0 : l.length = 0
    · rw [if_pos h0]; simp [h0]
    · rw [if_neg h0]
      by_cases h2 : Rising l
      · rw [if_pos h2, decide_eq_true (⟨h1, h2⟩ : InAll l ∧ Rising l), decide_eq_false h0]; rfl
      · rw [if_neg h2, decide_eq_false (fun h : InAll l ∧ Rising l => h2 h.2)]; rfl
  · rw [if_neg h1, decide_eq_false (fun h : InAll l ∧ Rising l => h1 h.1)]; rfl
theorem risB_ids (l : List Int) : risB l = idsB l := by
  by_cases h0 : l.length = 0
  · have : idsB l = true := decide_eq_true ⟨fun i hi => by omega, fun i hi => by omega⟩
    rw [this]; unfold risB; simp [h0]
  · have h := idsB_fault l
    rw [decide_eq_false h0] at h
    unfold risB
    simp only [h0, false_or]
    rw [h]; simp
set_option maxRecDepth 100000 in
set_option maxHeartbeats 1000000 in
theorem l10Ids_any (v : Value) (l : List Int) (w : World) (h : Ints w v l) (hs : l.length ≤ 1048576) :
    Calls Try.prog 41 #[v] w fun e w' => e = .returned (.bool (idsB l)) ∧ ∃ n, w' = w.drewN n := by
  obtain ⟨a, cap, rfl, hm, hc⟩ := h
  have HC := hide hc
  clear hc hm
  go_enter Try.func41, Try.ntmps41
  go_wp2_with fail
  go_loopw [3] (fun i wr => ∃ k n : Nat, k ≤ l.length ∧ i = .int .i64 k ∧ Hid (∀ i, i < k → inB (l.getD i 0) 0 6 = true ∧ (i = 0 ∨ l.getD (i - 1) 0 < l.getD i 0)) ∧ wr = w.drewN n) (fun i _ => l.length - (intOf i).toNat)
  case atStart => exact ⟨0, 0, Nat.zero_le _, rfl, fun i hi => absurd hi (Nat.not_lt_zero _), rfl⟩
  case round =>
    obtain ⟨k, n, hk, rfl, hA, hwr⟩ := hrel
    by_cases hlt : k < l.length
    · obtain ⟨b, off, rfl, hbl, hsrc⟩ : ∃ b off, a = some ⟨b, off, none⟩ ∧ b < w.heap.size ∧ ∀ i, i < l.length → w.cell? ⟨b, off + i, none⟩ = some (.int .i64 (l.getD i 0)) := by
        rcases unhide HC with h0 | h1
        · omega
        · exact h1
      have hsr : ∀ i, i < l.length → wr.cell? ⟨b, off + i, none⟩ = some (.int .i64 (l.getD i 0)) := fun i hi => by subst hwr; simpa using hsrc i hi
      have HWR := hide hwr
      have s1 := hsr k hlt
      have hk0 : (0 : Int) ≤ (k : Int) := by omega
      have hk1 : (k : Int) < (l.length : Int) := by omega
      have HBad := hide (fun (hx : ¬ (inB (l.getD k 0) 0 6 = true ∧ (k = 0 ∨ l.getD (k - 1) 0 < l.getD k 0))) => (show idsB l = false from decide_eq_false (fun hh => hx ⟨hh.1 k hlt, hh.2 k hlt⟩)))
      have HNx := hide (fun (hx : inB (l.getD k 0) 0 6 = true ∧ (k = 0 ∨ l.getD (k - 1) 0 < l.getD k 0)) => show ∀ i, i < k + 1 → inB (l.getD i 0) 0 6 = true ∧ (i = 0 ∨ l.getD (i - 1) 0 < l.getD i 0) from fun i hi => by
          by_cases e : i = k
          · subst e; exact hx
          · exact unhide hA i (by omega))
      clear hwr hsrc hA
      rcases Bool.eq_false_or_eq_true (inB (l.getD k 0) 0 6) with hin | hin
      case inr =>
        have E := hide (unhide HBad (fun hx => by rw [hx.1] at hin; cases hin))
        have hgz : ∀ z : Nat, z + 1 = k → (0 : Int) < (k : Int) := fun z hz => by omega
        clear HBad HNx hsr
        generalize l.getD k 0 = x at *
        go_wp2_with fail
        go_quiet ((go_at_call 20; exact Calls.quiet_of_same (l01In_any _ _ _ _)))
        go_wp2_with fail
        go_ret
        exact ⟨ret_bool (unhide E).symm, n + nq, by rw [unhide HWR]; exact drewN_two _ _ _⟩
      by_cases hk00 : k = 0
      · subst hk00
        rw [Nat.add_zero] at s1
        have E := hide (unhide HNx ⟨hin, .inl rfl⟩)
        clear HBad HNx hsr
        generalize l.getD 0 0 = x at *
        go_wp2_with fail
        go_quiet ((go_at_call 20; exact Calls.quiet_of_same (l01In_any _ _ _ _)))
        go_wp2_with fail
        refine ⟨⟨0 + 1, n + nq, by omega, by go_num, unhide E, by rw [unhide HWR]; exact drewN_two _ _ _⟩, ?_⟩
        simp [intOf]; omega
      obtain ⟨q, rfl⟩ : ∃ q, k = q + 1 := ⟨k - 1, by omega⟩
      have s2 : wr.cell? ⟨b, off + q, none⟩ = _ := hsr q (by omega)
      have hk2 : (0 : Int) ≤ (q : Int) := by omega
      have hk3 : (q : Int) < (l.length : Int) := by omega
      have hk4 : (0 : Int) < ((q + 1 : Nat) : Int) := by omega
      have m1 : IntKind.i64.wrap (((q + 1 : Nat) : Int) - 1) = (q : Int) := by simp only [IntKind.wrap, IntKind.bits, IntKind.signed]; simp; omega
      have m2 : IntKind.i64.wrap (q : Int) = (q : Int) := by simp only [IntKind.wrap, IntKind.bits, IntKind.signed]; simp; omega
      rw [Nat.add_sub_cancel] at HBad HNx
      clear hsr hk00
      by_cases hle : l.getD (q + 1) 0 ≤ l.getD q 0
      · have E := hide (unhide HBad (fun hx => by rcases hx.2 with h | h <;> omega))
        clear HBad HNx
        generalize l.getD (q + 1) 0 = x at *
        generalize l.getD q 0 = y at *
        go_wp2_with fail
        go_quiet ((go_at_call 20; exact Calls.quiet_of_same (l01In_any _ _ _ _)))
        go_wp2_with fail
        go_ret
        exact ⟨ret_bool (unhide E).symm, n + nq, by rw [unhide HWR]; exact drewN_two _ _ _⟩
      · have E := hide (unhide HNx ⟨hin, .inr (by omega)⟩)
        have hd : decide (l.getD (q + 1) 0 ≤ l.getD q 0) = false := by simpa using hle
        clear HBad HNx
        generalize l.getD (q + 1) 0 = x at *
        generalize l.getD q 0 = y at *
        go_wp2_with fail
        go_quiet ((go_at_call 20; exact Calls.quiet_of_same (l01In_any _ _ _ _)))
        go_wp2_with fail
        refine ⟨⟨q + 1 + 1, n + nq, by omega, by go_num, unhide E, by rw [unhide HWR]; exact drewN_two _ _ _⟩, ?_⟩
        simp [intOf]; omega
    · obtain rfl : k = l.length := by omega
      have E := hide (show idsB l = true from decide_eq_true ⟨fun i hi => (unhide hA i hi).1, fun i hi => (unhide hA i hi).2⟩)
      clear hA
      go_wp2_with fail
      go_ret
      exact ⟨ret_bool (unhide E).symm, n, rfl⟩
end Go.Proofs.Ytglkgmijcefjkaa
