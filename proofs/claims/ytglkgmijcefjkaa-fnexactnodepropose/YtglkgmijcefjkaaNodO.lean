/- impl.NodeOK, walked. -/
import Derived.Test.YtglkgmijcefjkaaNod
import Derived.Test.YtglkgmijcefjkaaStO
import Derived.Test.YtglkgmijcefjkaaMem
namespace Go.Proofs.Ytglkgmijcefjkaa
open Go.ChangeShapes Go.WideShapes Go.ChangeAt Go.RowKit Go.Deep
set_option linter.unusedVariables false

/-- The numbers rise, within the nodes' bounds, if there are any. -/
def risB (l : List Int) : Bool := decide (l.length = 0 ∨ mFault l = 0)
def toldI (nx mt : List Int) (e : Int) (i : Nat) : Bool := inB (nx.getD i 0) 1 (e + 1) && inB (mt.getD i 0) 0 (nx.getD i 0 - 1)
/-- Next and Match are right with a log that has e entries. -/
def toldB (nx mt : List Int) (e : Int) : Bool := decide (nx.length = 7) && decide (mt.length = 7) && (List.range 7).all (toldI nx mt e)
/-- A node is right. -/
def nodeB (id tm vo ro cm el wt : Int) (up : Bool) (lg : List En) (st vs nx mt : List Int) : Bool :=
  inB id 0 6 && (stateB tm vo lg && (decide (mFault st = 0) && (inB ro 0 2 && (risB vs && (toldB nx mt lg.length && (inB cm 0 lg.length && (inB el 0 1000 && (inB wt 5 100 && (up || decide (ro = 0))))))))))
theorem told_bad {nx mt : List Int} {e : Int} {k : Nat} (hk : k < 7) (h : toldI nx mt e k = false) : toldB nx mt e = false := by
  have : (List.range 7).all (toldI nx mt e) = false := by
    rw [List.all_eq_false]; exact ⟨k, by simpa using hk, by simp [h]⟩
  unfold toldB; rw [this]; simp
theorem told_all {nx mt : List Int} {e : Int} (h1 : nx.length = 7) (h2 : mt.length = 7) (h : ∀ i, i < 7 → toldI nx mt e i = true) : toldB nx mt e = true := by
  have : (List.range 7).all (toldI nx mt e) = true := by
    rw [List.all_eq_true]; exact fun i hi => h i (by simpa using hi)
  unfold toldB; rw [this, h1, h2]; rfl
set_option maxRecDepth 100000 in
set_option maxHeartbeats 1000000 in
theorem risingNumbers_any (v : Value) (l : List Int) (w : World) (h : Ints w v l) (hs : l.length ≤ 1048576) :
    Calls Try.prog 49 #[v] w fun e w' => e = .returned (.bool (risB l)) ∧ ∃ n, w' = w.drewN n := by
  have HI := hide h
  obtain ⟨a, c, rfl⟩ := h.shape
  by_cases h0 : l.length = 0
  · have E : Hid (risB l = true) := hide (by unfold risB; simp [h0])
    have hb0 : ((l.length : Int) == 0) = true := by rw [h0]; rfl
    clear h
    go_enter Try.func49, Try.ntmps49
    go_wp2_with fail
    go_ret
    exact ⟨ret_bool (unhide E).symm, 0, rfl⟩
  · have hb0 : ((l.length : Int) == 0) = false := by rw [beq_eq_false_iff_ne]; omega
    have E : Hid (risB l = (mFault l == 0)) := hide (by unfold risB; rw [Bool.eq_iff_iff]; simp [h0])
    clear h
    go_enter Try.func49, Try.ntmps49
    go_wp2_with fail
    refine (membersFault_any _ l w (unhide HI) hs).mono ?_
    rintro e w1 ⟨rfl, n, rfl⟩
    generalize mFault l = m at *
    go_wp2_with fail
    go_ret
    exact ⟨ret_bool (unhide E).symm, n, rfl⟩
set_option maxRecDepth 100000 in
set_option maxHeartbeats 1000000 in
theorem toldOK_any (v u : Value) (nx mt : List Int) (e : Nat) (w : World) (h : Ints w v nx) (h' : Ints w u mt) (hs : nx.length ≤ 1048576) (hs' : mt.length ≤ 1048576) (he : e ≤ 1048576) :
    Calls Try.prog 50 #[v, u, .int .i64 (e : Int)] w fun x w' => x = .returned (.bool (toldB nx mt e)) ∧ ∃ n, w' = w.drewN n := by
  obtain ⟨a, c, rfl, hm, hc⟩ := h
  obtain ⟨a', c', rfl, hm', hc'⟩ := h'
  have HC := hide hc
  have HC' := hide hc'
  clear hc hc' hm hm'
  by_cases h1 : nx.length = 7
  case neg =>
    have E : Hid (toldB nx mt e = false) := hide (by unfold toldB; simp [h1])
    have hb1 : ((nx.length : Int) == 7) = false := by rw [beq_eq_false_iff_ne]; omega
    go_enter Try.func50, Try.ntmps50
    go_wp2_with fail
    go_ret
    exact ⟨ret_bool (unhide E).symm, 0, rfl⟩
  by_cases h2 : mt.length = 7
  case neg =>
    have E : Hid (toldB nx mt e = false) := hide (by unfold toldB; simp [h2])
    have hb1 : ((nx.length : Int) == 7) = true := by rw [h1]; rfl
    have hb2 : ((mt.length : Int) == 7) = false := by rw [beq_eq_false_iff_ne]; omega
    go_enter Try.func50, Try.ntmps50
    go_wp2_with fail
    go_ret
    exact ⟨ret_bool (unhide E).symm, 0, rfl⟩
  have HA := hide (told_all (e := e) h1 h2)
  rw [h1] at HC ⊢
  rw [h2] at HC' ⊢
  obtain ⟨b, off, rfl, hbl, hsrc⟩ : ∃ b off, a = some ⟨b, off, none⟩ ∧ b < w.heap.size ∧ ∀ i, i < 7 → w.cell? ⟨b, off + i, none⟩ = some (.int .i64 (nx.getD i 0)) := by
    rcases unhide HC with h0 | h1
    · omega
    · exact h1
  obtain ⟨b', off', rfl, hbl', hsrc'⟩ : ∃ b off, a' = some ⟨b, off, none⟩ ∧ b < w.heap.size ∧ ∀ i, i < 7 → w.cell? ⟨b, off + i, none⟩ = some (.int .i64 (mt.getD i 0)) := by
    rcases unhide HC' with h0 | h1
    · omega
    · exact h1
  have HS := hide hsrc
  have HS' := hide hsrc'
  clear hsrc hsrc' HC HC' h1 h2 hs hs'
  have we : IntKind.i64.wrap ((e : Int) + 1) = (e : Int) + 1 := by
    simp only [IntKind.wrap, IntKind.bits, IntKind.signed]
    simp
    omega
  go_enter Try.func50, Try.ntmps50
  go_wp2_with fail
  go_loopw [7, 18] (fun _ i wr => ∃ k n : Nat, k ≤ 7 ∧ i = .int .i64 k ∧ Hid (∀ i, i < k → toldI nx mt e i = true) ∧ wr = w.drewN n) (fun _ i _ => 7 - (intOf i).toNat)
  case atStart => exact ⟨0, 0, Nat.zero_le _, rfl, fun i hi => absurd hi (Nat.not_lt_zero _), rfl⟩
  case round =>
    obtain ⟨k, n, hk, rfl, hA, hwr⟩ := hrel
    by_cases hlt : k < 7
    · have s1 : wr.cell? ⟨b, off + k, none⟩ = some (.int .i64 (nx.getD k 0)) := by subst hwr; simpa using unhide HS k hlt
      have s2 : wr.cell? ⟨b', off' + k, none⟩ = some (.int .i64 (mt.getD k 0)) := by subst hwr; simpa using unhide HS' k hlt
      have HWR := hide hwr
      clear hwr
      have hk0 : (0 : Int) ≤ (k : Int) := by omega
      have hk1 : (k : Int) < 7 := by omega
      have HT : Hid (toldI nx mt e k = (inB (nx.getD k 0) 1 ((e : Int) + 1) && inB (mt.getD k 0) 0 (nx.getD k 0 - 1))) := hide rfl
      have HB := hide (fun h => told_bad (nx := nx) (mt := mt) (e := e) hlt h)
      have HN := hide (fun h => show ∀ i, i < k + 1 → toldI nx mt e i = true from fun i hi => by
          by_cases e : i = k
          · subst e; exact h
          · exact unhide hA i (by omega))
      clear hA
      generalize nx.getD k 0 = x at *
      generalize mt.getD k 0 = y at *
      rcases Bool.eq_false_or_eq_true (inB x 1 ((e : Int) + 1)) with hin | hin
      case inr =>
        have E := hide (unhide HB (by rw [unhide HT, hin]; rfl))
        clear HB HN HT
        go_wp2_with fail
        go_quiet ((go_at_call 26; exact Calls.quiet_of_same (within_any _ _ _ _)))
        go_wp2_with fail
        go_ret
        exact ⟨ret_bool (unhide E).symm, n + nq, by rw [unhide HWR]; exact drewN_two _ _ _⟩
      have hx := inB_iff.1 hin
      have wx : IntKind.i64.wrap (x - 1) = x - 1 := by
        simp only [IntKind.wrap, IntKind.bits, IntKind.signed]
        simp
        omega
      rcases Bool.eq_false_or_eq_true (inB y 0 (x - 1)) with hin2 | hin2
      case inr =>
        have E := hide (unhide HB (by rw [unhide HT, hin, hin2]; rfl))
        clear HB HN HT hx
        go_wp2_with fail
        go_quiet ((go_at_call 26; exact Calls.quiet_of_same (within_any _ _ _ _)))
        go_wp2_with fail
        go_ret
        exact ⟨ret_bool (unhide E).symm, n + nq, by rw [unhide HWR]; exact drewN_two _ _ _⟩
      have E := hide (unhide HN (by rw [unhide HT, hin, hin2]; rfl))
      clear HB HN HT hx
      go_wp2_with fail
      go_quiet ((go_at_call 26; exact Calls.quiet_of_same (within_any _ _ _ _)))
      go_wp2_with fail
      refine ⟨⟨k + 1, n + nq, by omega, by go_num, unhide E, by rw [unhide HWR]; exact drewN_two _ _ _⟩, ?_⟩
      simp [intOf]; omega
    · obtain rfl : k = 7 := by omega
      have E := hide (unhide HA (unhide hA))
      clear hA
      go_wp2_with fail
      go_ret
      exact ⟨ret_bool (unhide E).symm, n, rfl⟩
end Go.Proofs.Ytglkgmijcefjkaa
