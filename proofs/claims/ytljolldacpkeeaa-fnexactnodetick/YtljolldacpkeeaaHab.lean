/- impl.StateOK, walked. impl.NodeOK, walked. spec.l10Ids, walked. -/
import Derived.Test.YtljolldacpkeeaaHaa
import Derived.Deep.RegionHeld3
namespace Go.Proofs.Ytljolldacpkeeaa
open Go.ChangeShapes Go.WideShapes Go.ChangeAt Go.RowKit
set_option linter.unusedVariables false

/-- The least term that entry i may have. -/
def leastT (l : List En) : Nat → Int
  | 0 => 0
  | i + 1 => (l.getD i default).t
/-- Entry i is right, its term not below the one ahead of it and not above the state's. -/
def entB (tm : Int) (l : List En) (i : Nat) : Bool := entOK (l.getD i default).t (l.getD i default).k (l.getD i default).d && inB (l.getD i default).t (leastT l i) tm
def entTo (tm : Int) (l : List En) (k : Nat) : Prop := ∀ i, i < k → entB tm l i = true
theorem entTo.next {tm : Int} {l : List En} {k : Nat} (h : entTo tm l k) (hk : entB tm l k = true) : entTo tm l (k + 1) := fun i hi => by
  by_cases e : i = k
  · subst e; exact hk
  · exact h i (by omega)
def stateB (tm vo : Int) (l : List En) : Bool := inB tm 0 1000000 && inB vo (-1) 6 && decide (l.length ≤ 60) && (List.range l.length).all (entB tm l)
theorem state_bad {tm vo : Int} {l : List En} {k : Nat} (hk : k < l.length) (h : entB tm l k = false) : stateB tm vo l = false := by
  have : (List.range l.length).all (entB tm l) = false := by
    rw [List.all_eq_false]; exact ⟨k, by simpa using hk, by simp [h]⟩
  unfold stateB; rw [this]; simp
theorem state_all {tm vo : Int} {l : List En} (h1 : inB tm 0 1000000 = true) (h2 : inB vo (-1) 6 = true) (h3 : l.length ≤ 60) (h : entTo tm l l.length) : stateB tm vo l = true := by
  have : (List.range l.length).all (entB tm l) = true := by
    rw [List.all_eq_true]; exact fun i hi => h i (by simpa using hi)
  unfold stateB; rw [this, h1, h2, decide_eq_true h3]; simp

set_option maxRecDepth 100000 in
set_option maxHeartbeats 1000000 in
theorem implStateOK_any (tm vo : Int) (v : Value) (l : List En) (w : World) (h : Ens w v l) (hs : ∀ i, (l.getD i default).d.size ≤ 1048576) :
    Calls Try.prog 47 #[.agg #[.int .i64 tm, .int .i64 vo, v]] w fun e w' => e = .returned (.bool (stateB tm vo l)) ∧ Below w.heap.size w w' := by
  obtain ⟨a, cap, rfl, hn, hm, hc⟩ := h
  have HC := hide hc
  have HS := hide hs
  clear hc hs
  have B0 := hide ((Below.refl w.heap.size w).alloc (Nat.le_refl _) (.cells #[.int .i64 tm, .int .i64 vo, .slice a l.length cap] 69))
  have X0 := hide (Blk.new w #[.int .i64 tm, .int .i64 vo, .slice a l.length cap] 69 w.heap.size rfl)
  rcases Bool.eq_false_or_eq_true (inB tm 0 1000000) with h1 | h1
  case inr =>
    have HD : Hid (stateB tm vo l = false) := hide (by unfold stateB; rw [h1]; simp)
    go_enter Try.func47, Try.ntmps47
    go_wp2_with (go_at_call 26; refine (within_any _ _ _ _).mono ?_; rintro e w' ⟨rfl, hw'⟩; have hw2 := hw'.symm; clear hw'; subst hw2)
    go_ret
    exact ⟨ret_bool (unhide HD).symm, unhide B0⟩
  rcases Bool.eq_false_or_eq_true (inB vo (-1) 6) with h2 | h2
  case inr =>
    have HD : Hid (stateB tm vo l = false) := hide (by unfold stateB; rw [h2]; simp)
    go_enter Try.func47, Try.ntmps47
    go_wp2_with (go_at_call 26; refine (within_any _ _ _ _).mono ?_; rintro e w' ⟨rfl, hw'⟩; have hw2 := hw'.symm; clear hw'; subst hw2)
    go_ret
    exact ⟨ret_bool (unhide HD).symm, unhide B0⟩
  by_cases h3 : l.length ≤ 60
  case neg =>
    have HD : Hid (stateB tm vo l = false) := hide (by unfold stateB; rw [decide_eq_false h3]; simp)
    have h3b : (60 : Int) < (l.length : Int) := by omega
    go_enter Try.func47, Try.ntmps47
    go_wp2_with (go_at_call 26; refine (within_any _ _ _ _).mono ?_; rintro e w' ⟨rfl, hw'⟩; have hw2 := hw'.symm; clear hw'; subst hw2)
    go_ret
    exact ⟨ret_bool (unhide HD).symm, unhide B0⟩
  have h3b : ¬ (60 : Int) < (l.length : Int) := by omega
  go_enter Try.func47, Try.ntmps47
  go_wp2_with (go_at_call 26; refine (within_any _ _ _ _).mono ?_; rintro e w' ⟨rfl, hw'⟩; have hw2 := hw'.symm; clear hw'; subst hw2)
  generalize w.alloc (.cells #[.int .i64 tm, .int .i64 vo, .slice a l.length cap] 69) = w0 at *
  have c0 := (unhide X0).cell 0 rfl
  go_loopw [3, 25] (fun ls i wr => ∃ k : Nat, k ≤ l.length ∧ ls = .int .i64 (leastT l k) ∧ i = .int .i64 k ∧ entTo tm l k ∧ Below (w.heap.size + 1) w0 wr) (fun _ i _ => l.length - (intOf i).toNat)
  case atStart => exact ⟨0, Nat.zero_le _, rfl, rfl, fun i hi => by omega, Below.refl _ _⟩
  case round =>
    obtain ⟨k, hk, rfl, rfl, hgo, hb⟩ := hrel
    have hbw : Below w.heap.size w wr := (unhide B0).trans (hb.mono (by omega))
    by_cases hlt : k < l.length
    · obtain ⟨b, off, rfl, hbl, hsrc⟩ : ∃ b off, a = some ⟨b, off, none⟩ ∧ b < w.heap.size ∧ ∀ i, i < l.length → w.cell? ⟨b, off + i * 3, none⟩ = some (.int .i64 (l.getD i default).t) ∧ w.cell? ⟨b, off + i * 3 + 1, none⟩ = some (.int .i64 (l.getD i default).k) ∧ w.cell? ⟨b, off + i * 3 + 2, none⟩ = some (.string (l.getD i default).d) := by
        rcases unhide HC with h0 | h1
        · omega
        · exact h1
      obtain ⟨s0, s1, s2⟩ := hsrc k hlt
      have e0 := (hbw.cell (p := ⟨b, off + k * 3, none⟩) hbl).trans s0
      have e1 := (hbw.cell (p := ⟨b, off + k * 3 + 1, none⟩) hbl).trans s1
      have e2 := (hbw.cell (p := ⟨b, off + k * 3 + 2, none⟩) hbl).trans s2
      have d0 := (hb.cell (p := ⟨w.heap.size, 0, none⟩) (by simp)).trans c0
      have hk0 : (0 : Int) ≤ (k : Int) := by omega
      have hk1 : (k : Int) < (l.length : Int) := by omega
      have hfz := unhide HS k
      have hbs := hbw.size
      have hbs2 := hb.size
      have hz0 := (unhide X0).1
      have HB := hide hb
      have HGo := hide hgo
      have HEB : Hid (entB tm l k = (entOK (l.getD k default).t (l.getD k default).k (l.getD k default).d && inB (l.getD k default).t (leastT l k) tm)) := hide rfl
      have HLS : Hid (leastT l (k + 1) = (l.getD k default).t) := hide rfl
      clear hsrc s0 s1 s2 hb hbw hgo
      generalize leastT l k = ls at *
      generalize l.getD k default = f at *
      obtain ⟨ft, fk, fd⟩ := f
      dsimp only at e0 e1 e2 hfz HEB HLS
      have hnm : fd.size ≤ maxLen := by unfold maxLen; omega
      have b0 := hide ((Below.refl wr.heap.size wr).alloc (Nat.le_refl _) (.cells #[.int .i64 ft, .int .i64 fk, .string fd] 63))
      have y0 := hide (Blk.new wr #[.int .i64 ft, .int .i64 fk, .string fd] 63 wr.heap.size rfl)
      go_wp2_with fail
      generalize wr.alloc (.cells #[.int .i64 ft, .int .i64 fk, .string fd] 63) = w1 at *
      have hbs3 := (unhide b0).size
      refine (implEntryOK_any ft fk fd w1 hnm).mono ?_
      rintro e w2 ⟨rfl, hb2⟩
      have Y2 := (unhide y0).below hb2
      have g0 := Y2.cell 0 rfl
      have g1 := (hb2.cell (p := ⟨w.heap.size, 0, none⟩) (by simp; omega)).trans (((unhide b0).cell (p := ⟨w.heap.size, 0, none⟩) (by simp; omega)).trans d0)
      have HB2 := hide ((unhide HB).trans (((unhide b0).trans (hb2.mono hbs3)).mono (by omega)))
      have HBW := hide ((unhide B0).trans ((unhide HB2).mono (by omega)))
      clear hb2 Y2 d0 e0 e1 e2
      rcases Bool.eq_false_or_eq_true (entOK ft fk fd) with ho | ho
      case inr =>
        have HD := hide (state_bad (tm := tm) (vo := vo) hlt (by rw [unhide HEB, ho]; simp))
        rw [ho]
        go_wp2_with fail
        go_ret
        exact ⟨ret_bool (unhide HD).symm, unhide HBW⟩
      rw [ho]
      rcases Bool.eq_false_or_eq_true (inB ft ls tm) with hi | hi
      case inr =>
        have HD := hide (state_bad (tm := tm) (vo := vo) hlt (by rw [unhide HEB, hi]; simp))
        go_wp2_with (go_at_call 26; refine (within_any _ _ _ _).mono ?_; rintro e w' ⟨rfl, hw'⟩; have hw2 := hw'.symm; clear hw'; subst hw2)
        go_ret
        exact ⟨ret_bool (unhide HD).symm, unhide HBW⟩
      have HN := hide ((unhide HGo).next (by rw [unhide HEB, ho, hi]; rfl))
      go_wp2_with (go_at_call 26; refine (within_any _ _ _ _).mono ?_; rintro e w' ⟨rfl, hw'⟩; have hw2 := hw'.symm; clear hw'; subst hw2)
      refine ⟨⟨k + 1, by omega, by rw [unhide HLS], by go_num, unhide HN, unhide HB2⟩, ?_⟩
      simp [intOf]; omega
    · obtain rfl : k = l.length := by omega
      have HD := hide (state_all (vo := vo) h1 h2 h3 hgo)
      have HBW := hide hbw
      clear hb hbw hgo
      go_wp2_with fail
      go_ret
      exact ⟨ret_bool (unhide HD).symm, unhide HBW⟩
end Go.Proofs.Ytljolldacpkeeaa
namespace Go.Proofs.Ytljolldacpkeeaa
open Go.ChangeShapes Go.WideShapes Go.ChangeAt Go.RowKit Go.Deep
set_option linter.unusedVariables false

/-- The numbers rise, within the nodes' bounds, if there are any. -/
def risB (l : List Int) : Bool := decide (l.length = 0 ∨ mFault l = 0)
def toldI (nx mt : List Int) (e : Int) (i : Nat) : Bool := inB (nx.getD i 0) 1 (e + 1) && inB (mt.getD i 0) 0 (nx.getD i 0 - 1)
/-- Next and Match are right with a log that has e entries. -/
def toldB (nx mt : List Int) (e : Int) : Bool := decide (nx.length = 7) && decide (mt.length = 7) && (List.range 7).all (toldI nx mt e)
/-- A node is right. -/
def nodeB (id tm vo ro cm el wt : Int) (up : Bool) (lg : List En) (st vs nx mt : List Int) : Bool :=
  inB id 0 6 && (stateB tm vo lg && (decide (mFault st = 0) && (inB ro 0 2 && (risB vs && (toldB nx mt lg.length && (inB cm 0 lg.length && (inB el 0 1000 && (inB wt 5 100 && (up || decide (ro = 0))))))))))
theorem told_bad {nx mt : List Int} {e : Int} {k : Nat} (hk : k < 7) (h : toldI nx mt e k = false) : toldB nx mt e = false := by
  have : (List.range 7).all (toldI nx mt e) = false := by
    rw [List.all_eq_false]; exact ⟨k, by simpa using hk, by simp [h]⟩
  unfold toldB; rw [this]; simp
theorem told_all {nx mt : List Int} {e : Int} (h1 : nx.length = 7) (h2 : mt.length = 7) (h : ∀ i, i < 7 → toldI nx mt e i = true) : toldB nx mt e = true := by
  have : (List.range 7).all (toldI nx mt e) = true := by
    rw [List.all_eq_true]; exact fun i hi => h i (by simpa using hi)
  unfold toldB; rw [this, h1, h2]; rfl
set_option maxRecDepth 100000 in
set_option maxHeartbeats 1000000 in
theorem risingNumbers_any (v : Value) (l : List Int) (w : World) (h : Ints w v l) (hs : l.length ≤ 1048576) :
    Calls Try.prog 49 #[v] w fun e w' => e = .returned (.bool (risB l)) ∧ ∃ n, w' = w.drewN n := by
  have HI := hide h
  obtain ⟨a, c, rfl⟩ := h.shape
  by_cases h0 : l.length = 0
  · have E : Hid (risB l = true) := hide (by unfold risB; simp [h0])
    have hb0 : ((l.length : Int) == 0) = true := by rw [h0]; rfl
    clear h
    go_enter Try.func49, Try.ntmps49
    go_wp2_with fail
    go_ret
    exact ⟨ret_bool (unhide E).symm, 0, rfl⟩
  · have hb0 : ((l.length : Int) == 0) = false := by rw [beq_eq_false_iff_ne]; omega
    have E : Hid (risB l = (mFault l == 0)) := hide (by unfold risB; rw [Bool.eq_iff_iff]; simp [h0])
    clear h
    go_enter Try.func49, Try.ntmps49
    go_wp2_with fail
    refine (membersFault_any _ l w (unhide HI) hs).mono ?_
    rintro e w1 ⟨rfl, n, rfl⟩
    generalize mFault l = m at *
    go_wp2_with fail
    go_ret
    exact ⟨ret_bool (unhide E).symm, n, rfl⟩
set_option maxRecDepth 100000 in
set_option maxHeartbeats 1000000 in
theorem toldOK_any (v u : Value) (nx mt : List Int) (e : Nat) (w : World) (h : Ints w v nx) (h' : Ints w u mt) (hs : nx.length ≤ 1048576) (hs' : mt.length ≤ 1048576) (he : e ≤ 1048576) :
    Calls Try.prog 50 #[v, u, .int .i64 (e : Int)] w fun x w' => x = .returned (.bool (toldB nx mt e)) ∧ ∃ n, w' = w.drewN n := by
  obtain ⟨a, c, rfl, hm, hc⟩ := h
  obtain ⟨a', c', rfl, hm', hc'⟩ := h'
  have HC := hide hc
  have HC' := hide hc'
  clear hc hc' hm hm'
  by_cases h1 : nx.length = 7
  case neg =>
    have E : Hid (toldB nx mt e = false) := hide (by unfold toldB; simp [h1])
    have hb1 : ((nx.length : Int) == 7) = false := by rw [beq_eq_false_iff_ne]; omega
    go_enter Try.func50, Try.ntmps50
    go_wp2_with fail
    go_ret
    exact ⟨ret_bool (unhide E).symm, 0, rfl⟩
  by_cases h2 : mt.length = 7
  case neg =>
    have E : Hid (toldB nx mt e = false) := hide (by unfold toldB; simp [h2])
    have hb1 : ((nx.length : Int) == 7) = true := by rw [h1]; rfl
    have hb2 : ((mt.length : Int) == 7) = false := by rw [beq_eq_false_iff_ne]; omega
    go_enter Try.func50, Try.ntmps50
    go_wp2_with fail
    go_ret
    exact ⟨ret_bool (unhide E).symm, 0, rfl⟩
  have HA := hide (told_all (e := e) h1 h2)
  rw [h1] at HC ⊢
  rw [h2] at HC' ⊢
  obtain ⟨b, off, rfl, hbl, hsrc⟩ : ∃ b off, a = some ⟨b, off, none⟩ ∧ b < w.heap.size ∧ ∀ i, i < 7 → w.cell? ⟨b, off + i, none⟩ = some (.int .i64 (nx.getD i 0)) := by
    rcases unhide HC with h0 | h1
    · omega
    · exact h1
  obtain ⟨b', off', rfl, hbl', hsrc'⟩ : ∃ b off, a' = some ⟨b, off, none⟩ ∧ b < w.heap.size ∧ ∀ i, i < 7 → w.cell? ⟨b, off + i, none⟩ = some (.int .i64 (mt.getD i 0)) := by
    rcases unhide HC' with h0 | h1
    · omega
    · exact h1
  have HS := hide hsrc
  have HS' := hide hsrc'
  clear hsrc hsrc' HC HC' h1 h2 hs hs'
  have we : IntKind.i64.wrap ((e : Int) + 1) = (e : Int) + 1 := by
    simp only [IntKind.wrap, IntKind.bits, IntKind.signed]
    simp
    omega
  go_enter Try.func50, Try.ntmps50
  go_wp2_with fail
  go_loopw [7, 18] (fun _ i wr => ∃ k n : Nat, k ≤ 7 ∧ i = .int .i64 k ∧ Hid (∀ i, i < k → toldI nx mt e i = true) ∧ wr = w.drewN n) (fun _ i _ => 7 - (intOf i).toNat)
  case atStart => exact ⟨0, 0, Nat.zero_le _, rfl, fun i hi => absurd hi (Nat.not_lt_zero _), rfl⟩
  case round =>
    obtain ⟨k, n, hk, rfl, hA, hwr⟩ := hrel
    by_cases hlt : k < 7
    · have s1 : wr.cell? ⟨b, off + k, none⟩ = some (.int .i64 (nx.getD k 0)) := by subst hwr; simpa using unhide HS k hlt
      have s2 : wr.cell? ⟨b', off' + k, none⟩ = some (.int .i64 (mt.getD k 0)) := by subst hwr; simpa using unhide HS' k hlt
      have HWR := hide hwr
      clear hwr
      have hk0 : (0 : Int) ≤ (k : Int) := by omega
      have hk1 : (k : Int) < 7 := by omega
      have HT : Hid (toldI nx mt e k = (inB (nx.getD k 0) 1 ((e : Int) + 1) && inB (mt.getD k 0) 0 (nx.getD k 0 - 1))) := hide rfl
      have HB := hide (fun h => told_bad (nx := nx) (mt := mt) (e := e) hlt h)
      have HN := hide (fun h => show ∀ i, i < k + 1 → toldI nx mt e i = true from fun i hi => by
          by_cases e : i = k
          · subst e; exact h
          · exact unhide hA i (by omega))
      clear hA
      generalize nx.getD k 0 = x at *
      generalize mt.getD k 0 = y at *
      rcases Bool.eq_false_or_eq_true (inB x 1 ((e : Int) + 1)) with hin | hin
      case inr =>
        have E := hide (unhide HB (by rw [unhide HT, hin]; rfl))
        clear HB HN HT
        go_wp2_with fail
        go_quiet ((go_at_call 26; exact Calls.quiet_of_same (within_any _ _ _ _)))
        go_wp2_with fail
        go_ret
        exact ⟨ret_bool (unhide E).symm, n + nq, by rw [unhide HWR]; exact drewN_two _ _ _⟩
      have hx := inB_iff.1 hin
      have wx : IntKind.i64.wrap (x - 1) = x - 1 := by
        simp only [IntKind.wrap, IntKind.bits, IntKind.signed]
        simp
        omega
      rcases Bool.eq_false_or_eq_true (inB y 0 (x - 1)) with hin2 | hin2
      case inr =>
        have E := hide (unhide HB (by rw [unhide HT, hin, hin2]; rfl))
        clear HB HN HT hx
        go_wp2_with fail
        go_quiet ((go_at_call 26; exact Calls.quiet_of_same (within_any _ _ _ _)))
        go_wp2_with fail
        go_ret
        exact ⟨ret_bool (unhide E).symm, n + nq, by rw [unhide HWR]; exact drewN_two _ _ _⟩
      have E := hide (unhide HN (by rw [unhide HT, hin, hin2]; rfl))
      clear HB HN HT hx
      go_wp2_with fail
      go_quiet ((go_at_call 26; exact Calls.quiet_of_same (within_any _ _ _ _)))
      go_wp2_with fail
      refine ⟨⟨k + 1, n + nq, by omega, by go_num, unhide E, by rw [unhide HWR]; exact drewN_two _ _ _⟩, ?_⟩
      simp [intOf]; omega
    · obtain rfl : k = 7 := by omega
      have E := hide (unhide HA (unhide hA))
      clear hA
      go_wp2_with fail
      go_ret
      exact ⟨ret_bool (unhide E).symm, n, rfl⟩
end Go.Proofs.Ytljolldacpkeeaa
namespace Go.Proofs.Ytljolldacpkeeaa
open Go.ChangeShapes Go.WideShapes Go.ChangeAt Go.RowKit Go.Deep
set_option linter.unusedVariables false

/-- The numbers are within the nodes' bounds and rise. -/
def idsB (l : List Int) : Bool := decide (InAll l ∧ Rising l)
theorem idsB_fault (l : List Int) : decide (mFault l = 0) = (idsB l && !decide (l.length = 0)) := by
  unfold mFault idsB
  by_cases h1 : InAll l
  · rw [if_pos h1]
    by_cases h0 : l.length = 0
    · rw [if_pos h0]; simp [h0]
    · rw [if_neg h0]
      by_cases h2 : Rising l
      · rw [if_pos h2, decide_eq_true (⟨h1, h2⟩ : InAll l ∧ Rising l), decide_eq_false h0]; rfl
      · rw [if_neg h2, decide_eq_false (fun h : InAll l ∧ Rising l => h2 h.2)]; rfl
  · rw [if_neg h1, decide_eq_false (fun h : InAll l ∧ Rising l => h1 h.1)]; rfl
theorem risB_ids (l : List Int) : risB l = idsB l := by
  by_cases h0 : l.length = 0
  · have : idsB l = true := decide_eq_true ⟨fun i hi => by omega, fun i hi => by omega⟩
    rw [this]; unfold risB; simp [h0]
  · have h := idsB_fault l
    rw [decide_eq_false h0] at h
    unfold risB
    simp only [h0, false_or]
    rw [h]; simp
set_option maxRecDepth 100000 in
set_option maxHeartbeats 1000000 in
theorem l10Ids_any (v : Value) (l : List Int) (w : World) (h : Ints w v l) (hs : l.length ≤ 1048576) :
    Calls Try.prog 41 #[v] w fun e w' => e = .returned (.bool (idsB l)) ∧ ∃ n, w' = w.drewN n := by
  obtain ⟨a, cap, rfl, hm, hc⟩ := h
  have HC := hide hc
  clear hc hm
  go_enter Try.func41, Try.ntmps41
  go_wp2_with fail
  go_loopw [3] (fun i wr => ∃ k n : Nat, k ≤ l.length ∧ i = .int .i64 k ∧ Hid (∀ i, i < k → inB (l.getD i 0) 0 6 = true ∧ (i = 0 ∨ l.getD (i - 1) 0 < l.getD i 0)) ∧ wr = w.drewN n) (fun i _ => l.length - (intOf i).toNat)
  case atStart => exact ⟨0, 0, Nat.zero_le _, rfl, fun i hi => absurd hi (Nat.not_lt_zero _), rfl⟩
  case round =>
    obtain ⟨k, n, hk, rfl, hA, hwr⟩ := hrel
    by_cases hlt : k < l.length
    · obtain ⟨b, off, rfl, hbl, hsrc⟩ : ∃ b off, a = some ⟨b, off, none⟩ ∧ b < w.heap.size ∧ ∀ i, i < l.length → w.cell? ⟨b, off + i, none⟩ = some (.int .i64 (l.getD i 0)) := by
        rcases unhide HC with h0 | h1
        · omega
        · exact h1
      have hsr : ∀ i, i < l.length → wr.cell? ⟨b, off + i, none⟩ = some (.int .i64 (l.getD i 0)) := fun i hi => by subst hwr; simpa using hsrc i hi
      have HWR := hide hwr
      have s1 := hsr k hlt
      have hk0 : (0 : Int) ≤ (k : Int) := by omega
      have hk1 : (k : Int) < (l.length : Int) := by omega
      have HBad := hide (fun (hx : ¬ (inB (l.getD k 0) 0 6 = true ∧ (k = 0 ∨ l.getD (k - 1) 0 < l.getD k 0))) => (show idsB l = false from decide_eq_false (fun hh => hx ⟨hh.1 k hlt, hh.2 k hlt⟩)))
      have HNx := hide (fun (hx : inB (l.getD k 0) 0 6 = true ∧ (k = 0 ∨ l.getD (k - 1) 0 < l.getD k 0)) => show ∀ i, i < k + 1 → inB (l.getD i 0) 0 6 = true ∧ (i = 0 ∨ l.getD (i - 1) 0 < l.getD i 0) from fun i hi => by
          by_cases e : i = k
          · subst e; exact hx
          · exact unhide hA i (by omega))
      clear hwr hsrc hA
      rcases Bool.eq_false_or_eq_true (inB (l.getD k 0) 0 6) with hin | hin
      case inr =>
        have E := hide (unhide HBad (fun hx => by rw [hx.1] at hin; cases hin))
        have hgz : ∀ z : Nat, z + 1 = k → (0 : Int) < (k : Int) := fun z hz => by omega
        clear HBad HNx hsr
        generalize l.getD k 0 = x at *
        go_wp2_with fail
        go_quiet ((go_at_call 20; exact Calls.quiet_of_same (l01In_any _ _ _ _)))
        go_wp2_with fail
        go_ret
        exact ⟨ret_bool (unhide E).symm, n + nq, by rw [unhide HWR]; exact drewN_two _ _ _⟩
      by_cases hk00 : k = 0
      · subst hk00
        rw [Nat.add_zero] at s1
        have E := hide (unhide HNx ⟨hin, .inl rfl⟩)
        clear HBad HNx hsr
        generalize l.getD 0 0 = x at *
        go_wp2_with fail
        go_quiet ((go_at_call 20; exact Calls.quiet_of_same (l01In_any _ _ _ _)))
        go_wp2_with fail
        refine ⟨⟨0 + 1, n + nq, by omega, by go_num, unhide E, by rw [unhide HWR]; exact drewN_two _ _ _⟩, ?_⟩
        simp [intOf]; omega
      obtain ⟨q, rfl⟩ : ∃ q, k = q + 1 := ⟨k - 1, by omega⟩
      have s2 : wr.cell? ⟨b, off + q, none⟩ = _ := hsr q (by omega)
      have hk2 : (0 : Int) ≤ (q : Int) := by omega
      have hk3 : (q : Int) < (l.length : Int) := by omega
      have hk4 : (0 : Int) < ((q + 1 : Nat) : Int) := by omega
      have m1 : IntKind.i64.wrap (((q + 1 : Nat) : Int) - 1) = (q : Int) := by simp only [IntKind.wrap, IntKind.bits, IntKind.signed]; simp; omega
      have m2 : IntKind.i64.wrap (q : Int) = (q : Int) := by simp only [IntKind.wrap, IntKind.bits, IntKind.signed]; simp; omega
      rw [Nat.add_sub_cancel] at HBad HNx
      clear hsr hk00
      by_cases hle : l.getD (q + 1) 0 ≤ l.getD q 0
      · have E := hide (unhide HBad (fun hx => by rcases hx.2 with h | h <;> omega))
        clear HBad HNx
        generalize l.getD (q + 1) 0 = x at *
        generalize l.getD q 0 = y at *
        go_wp2_with fail
        go_quiet ((go_at_call 20; exact Calls.quiet_of_same (l01In_any _ _ _ _)))
        go_wp2_with fail
        go_ret
        exact ⟨ret_bool (unhide E).symm, n + nq, by rw [unhide HWR]; exact drewN_two _ _ _⟩
      · have E := hide (unhide HNx ⟨hin, .inr (by omega)⟩)
        have hd : decide (l.getD (q + 1) 0 ≤ l.getD q 0) = false := by simpa using hle
        clear HBad HNx
        generalize l.getD (q + 1) 0 = x at *
        generalize l.getD q 0 = y at *
        go_wp2_with fail
        go_quiet ((go_at_call 20; exact Calls.quiet_of_same (l01In_any _ _ _ _)))
        go_wp2_with fail
        refine ⟨⟨q + 1 + 1, n + nq, by omega, by go_num, unhide E, by rw [unhide HWR]; exact drewN_two _ _ _⟩, ?_⟩
        simp [intOf]; omega
    · obtain rfl : k = l.length := by omega
      have E := hide (show idsB l = true from decide_eq_true ⟨fun i hi => (unhide hA i hi).1, fun i hi => (unhide hA i hi).2⟩)
      clear hA
      go_wp2_with fail
      go_ret
      exact ⟨ret_bool (unhide E).symm, n, rfl⟩
end Go.Proofs.Ytljolldacpkeeaa
