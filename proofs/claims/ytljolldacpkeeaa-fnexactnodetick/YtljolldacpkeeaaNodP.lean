/- spec.NodeOK, walked. (Written by py/nodp.py.) -/
import Derived.Test.YtljolldacpkeeaaHab
import Derived.Test.YtljolldacpkeeaaStP
namespace Go.Proofs.Ytljolldacpkeeaa
open Go.ChangeShapes Go.WideShapes Go.ChangeAt Go.RowKit Go.Deep
set_option linter.unusedVariables false
set_option maxRecDepth 100000 in
set_option maxHeartbeats 4000000 in
theorem specNodeOK_any (id tm vo ro cm el wt : Int) (up : Bool) (lg : List En) (st vs nx mt : List Int) (la : Option Addr) (lc : Nat) (sa : Option Addr) (sc : Nat) (va : Option Addr) (vc : Nat) (na : Option Addr) (nc : Nat) (ma : Option Addr) (mc : Nat) (w : World) (h : NoR w (.slice la lg.length lc) (.slice sa st.length sc) (.slice va vs.length vc) (.slice na nx.length nc) (.slice ma mt.length mc) lg st vs nx mt) (hs : NoS lg st vs nx mt) :
    Calls Try.prog 19 #[.agg #[.int .i64 id, .int .i64 tm, .int .i64 vo, .slice la lg.length lc, .slice sa st.length sc, .int .i64 ro, .slice va vs.length vc, .slice na nx.length nc, .slice ma mt.length mc, .int .i64 cm, .int .i64 el, .int .i64 wt, .bool up]] w fun e w' => e = .returned (.bool (nodeB id tm vo ro cm el wt up lg st vs nx mt)) ∧ Below w.heap.size w w' := by
  have B0 := hide ((Below.refl w.heap.size w).alloc (Nat.le_refl _) (.cells #[.int .i64 id, .int .i64 tm, .int .i64 vo, .slice la lg.length lc, .slice sa st.length sc, .int .i64 ro, .slice va vs.length vc, .slice na nx.length nc, .slice ma mt.length mc, .int .i64 cm, .int .i64 el, .int .i64 wt, .bool up] 29))
  have X0 := hide (Blk.new w #[.int .i64 id, .int .i64 tm, .int .i64 vo, .slice la lg.length lc, .slice sa st.length sc, .int .i64 ro, .slice va vs.length vc, .slice na nx.length nc, .slice ma mt.length mc, .int .i64 cm, .int .i64 el, .int .i64 wt, .bool up] 29 w.heap.size rfl)
  have HSt := hide (fun wx (hx : Below w.heap.size w wx) => specStateOK_any tm vo _ lg wx (h.lg.below hx) hs.dt)
  have HMe := hide (fun wx (hx : Below w.heap.size w wx) => l10Ids_any _ st wx (h.st.below hx) hs.l1)
  have HRi := hide (fun wx (hx : Below w.heap.size w wx) => l10Ids_any _ vs wx (h.vs.below hx) hs.l2)
  have HNX := hide h.nx
  have HMT := hide h.mt
  have hll := hs.l0
  have HT1 := hide (fun (hx : nx.length ≠ 7) => (show toldB nx mt lg.length = false from by unfold toldB; simp [hx]))
  have HT2 := hide (fun (hx : mt.length ≠ 7) => (show toldB nx mt lg.length = false from by unfold toldB; simp [hx]))
  have HT3 := hide (fun k (hk : k < 7) hx => told_bad (nx := nx) (mt := mt) (e := lg.length) (k := k) hk hx)
  have HT4 := hide (fun h1 h2 hx => told_all (nx := nx) (mt := mt) (e := lg.length) h1 h2 hx)
  have HN : Hid (nodeB id tm vo ro cm el wt up lg st vs nx mt = (inB id 0 6 && (stateB tm vo lg && ((idsB st && !decide (st.length = 0)) && (inB ro 0 2 && (idsB vs && (toldB nx mt lg.length && (inB cm 0 lg.length && (inB el 0 1000 && (inB wt 5 100 && (up || decide (ro = 0)))))))))))) := hide (by rw [← idsB_fault, ← risB_ids]; rfl)
  generalize nodeB id tm vo ro cm el wt up lg st vs nx mt = R at *
  generalize stateB tm vo lg = b1 at *
  generalize idsB st = b2 at *
  generalize idsB vs = b4 at *
  generalize toldB nx mt lg.length = b5 at *
  clear h hs
  go_enter Try.func19, Try.ntmps19
  go_wp2_with fail
  generalize w.alloc (.cells #[.int .i64 id, .int .i64 tm, .int .i64 vo, .slice la lg.length lc, .slice sa st.length sc, .int .i64 ro, .slice va vs.length vc, .slice na nx.length nc, .slice ma mt.length mc, .int .i64 cm, .int .i64 el, .int .i64 wt, .bool up] 29) = w0 at *
  have x1 := (unhide X0).cell 1 rfl
  have x2 := (unhide X0).cell 2 rfl
  have x3 := (unhide X0).cell 3 rfl
  refine (l01In_any _ _ _ _).mono ?_
  rintro e w' ⟨rfl, hw'⟩
  have hw2 := hw'.symm
  clear hw'
  subst hw2
  generalize inB id 0 6 = bb at *
  cases bb
  case false =>
    have E : Hid (R = false) := hide (by rw [unhide HN]; simp)
    go_wp2_with fail
    all_goals
      go_ret
      exact ⟨ret_bool (unhide E).symm, unhide B0⟩
  go_wp2_with fail
  refine (unhide HSt w0 (unhide B0)).mono ?_
  rintro e w1 ⟨rfl, hb⟩
  have K1 := hide ((unhide B0).trans (hb.mono (unhide B0).size))
  have XX := (unhide X0).below hb
  clear x1 x2 x3
  have x4 := XX.cell 4 rfl
  have X1 := hide XX
  clear hb XX X0 B0
  clear HSt
  cases b1
  case false =>
    have E : Hid (R = false) := hide (by rw [unhide HN]; simp)
    go_wp2_with fail
    all_goals
      go_ret
      exact ⟨ret_bool (unhide E).symm, unhide K1⟩
  go_wp2_with fail
  refine (unhide HMe w1 (unhide K1)).mono ?_
  rintro e w2 ⟨rfl, n2, hn⟩
  have hb : Below w1.heap.size w1 w2 := by rw [hn]; exact below_drewN (Below.refl _ _) n2
  clear hn HMe
  have K2 := hide ((unhide K1).trans (hb.mono (unhide K1).size))
  have XX := (unhide X1).below hb
  clear x4
  have x4 := XX.cell 4 rfl
  have x6 := XX.cell 6 rfl
  have X2 := hide XX
  clear hb XX X1 K1
  cases b2
  case false =>
    have E : Hid (R = false) := hide (by rw [unhide HN]; simp)
    go_wp2_with fail
    all_goals
      go_ret
      exact ⟨ret_bool (unhide E).symm, unhide K2⟩
  by_cases hm : st.length = 0
  case pos =>
    have hm2 : ((st.length : Int) == 0) = true := by rw [hm]; rfl
    have E : Hid (R = false) := hide (by rw [unhide HN]; simp [hm])
    go_wp2_with fail
    all_goals
      go_ret
      exact ⟨ret_bool (unhide E).symm, unhide K2⟩
  have hm2 : ((st.length : Int) == 0) = false := by rw [beq_eq_false_iff_ne]; omega
  replace HN := hide (by have := unhide HN; rw [decide_eq_false hm] at this; exact this)
  clear hm
  go_wp2_with fail
  refine (unhide HRi w2 (unhide K2)).mono ?_
  rintro e w3 ⟨rfl, n3, hn⟩
  have hb : Below w2.heap.size w2 w3 := by rw [hn]; exact below_drewN (Below.refl _ _) n3
  clear hn HRi hm2
  have K3 := hide ((unhide K2).trans (hb.mono (unhide K2).size))
  have XX := (unhide X2).below hb
  clear x4 x6
  have x5 := XX.cell 5 rfl
  have x7 := XX.cell 7 rfl
  have x8 := XX.cell 8 rfl
  have x3 := XX.cell 3 rfl
  have x9 := XX.cell 9 rfl
  have x10 := XX.cell 10 rfl
  have x11 := XX.cell 11 rfl
  have x12 := XX.cell 12 rfl
  have X3 := hide XX
  clear hb XX X2 K2
  cases b4
  case false =>
    have E : Hid (R = false) := hide (by rw [unhide HN]; simp)
    go_wp2_with fail
    all_goals
      go_ret
      exact ⟨ret_bool (unhide E).symm, unhide K3⟩
  go_wp2_with fail
  refine (l01In_any _ _ _ _).mono ?_
  rintro e w' ⟨rfl, hw'⟩
  have hw2 := hw'.symm
  clear hw'
  subst hw2
  generalize inB ro 0 2 = bb at *
  cases bb
  case false =>
    have E : Hid (R = false) := hide (by rw [unhide HN]; simp)
    go_wp2_with fail
    all_goals
      go_ret
      exact ⟨ret_bool (unhide E).symm, unhide K3⟩
  by_cases h7 : nx.length = 7
  case neg =>
    have hm2 : ((nx.length : Int) == 7) = false := by rw [beq_eq_false_iff_ne]; omega
    have E : Hid (R = false) := hide (by rw [unhide HN, unhide HT1 h7]; simp)
    go_wp2_with fail
    all_goals
      go_ret
      exact ⟨ret_bool (unhide E).symm, unhide K3⟩
  by_cases h8 : mt.length = 7
  case neg =>
    have hm2 : ((nx.length : Int) == 7) = true := by rw [h7]; rfl
    have hm3 : ((mt.length : Int) == 7) = false := by rw [beq_eq_false_iff_ne]; omega
    have E : Hid (R = false) := hide (by rw [unhide HN, unhide HT2 h8]; simp)
    go_wp2_with fail
    all_goals
      go_ret
      exact ⟨ret_bool (unhide E).symm, unhide K3⟩
  replace HT4 := hide (unhide HT4 h7 h8)
  rw [h7] at x7
  rw [h8] at x8
  have HC : Hid (∃ b off, na = some ⟨b, off, none⟩ ∧ b < w.heap.size ∧ ∀ i, i < 7 → w.cell? ⟨b, off + i, none⟩ = some (.int .i64 (nx.getD i 0))) := hide (by
    obtain ⟨a, c, e, _, hc⟩ := unhide HNX
    cases e
    rcases hc with h0 | h0
    · omega
    · rw [h7] at h0; exact h0)
  have HC' : Hid (∃ b off, ma = some ⟨b, off, none⟩ ∧ b < w.heap.size ∧ ∀ i, i < 7 → w.cell? ⟨b, off + i, none⟩ = some (.int .i64 (mt.getD i 0))) := hide (by
    obtain ⟨a, c, e, _, hc⟩ := unhide HMT
    cases e
    rcases hc with h0 | h0
    · omega
    · rw [h8] at h0; exact h0)
  have hm2 : ((nx.length : Int) == 7) = true := by rw [h7]; rfl
  have hm3 : ((mt.length : Int) == 7) = true := by rw [h8]; rfl
  clear HNX HMT HT1 HT2
  go_wp2_with fail
  refine (l01In_any _ _ _ _).mono ?_
  rintro e w' ⟨rfl, hw'⟩
  have hw2 := hw'.symm
  clear hw'
  subst hw2
  generalize inB cm 0 ↑lg.length = bb at *
  cases bb
  case false =>
    have E : Hid (R = false) := hide (by rw [unhide HN]; simp)
    go_wp2_with fail
    all_goals
      go_ret
      exact ⟨ret_bool (unhide E).symm, unhide K3⟩
  go_wp2_with fail
  refine (l01In_any _ _ _ _).mono ?_
  rintro e w' ⟨rfl, hw'⟩
  have hw2 := hw'.symm
  clear hw'
  subst hw2
  generalize inB el 0 1000 = bb at *
  cases bb
  case false =>
    have E : Hid (R = false) := hide (by rw [unhide HN]; simp)
    go_wp2_with fail
    all_goals
      go_ret
      exact ⟨ret_bool (unhide E).symm, unhide K3⟩
  go_wp2_with fail
  refine (l01In_any _ _ _ _).mono ?_
  rintro e w' ⟨rfl, hw'⟩
  have hw2 := hw'.symm
  clear hw'
  subst hw2
  generalize inB wt 5 100 = bb at *
  cases bb
  case false =>
    have E : Hid (R = false) := hide (by rw [unhide HN]; simp)
    go_wp2_with fail
    all_goals
      go_ret
      exact ⟨ret_bool (unhide E).symm, unhide K3⟩
  go_wp2_with fail
  clear x9 x10 x11 hm2 hm3
  replace HN := hide (show R = (b5 && (up || decide (ro = 0))) from by have := unhide HN; simpa using this)
  obtain ⟨b, off, rfl, hbl, hsrc⟩ := unhide HC
  obtain ⟨b', off', rfl, hbl', hsrc'⟩ := unhide HC'
  have HS := hide hsrc
  have HS' := hide hsrc'
  have H7 := hide h7
  have H8 := hide h8
  clear hsrc hsrc' HC HC' h7 h8
  have we : IntKind.i64.wrap ((lg.length : Int) + 1) = (lg.length : Int) + 1 := by
    simp only [IntKind.wrap, IntKind.bits, IntKind.signed]
    simp
    omega
  go_loopw [3] (fun i wr => ∃ k n : Nat, k ≤ 7 ∧ i = .int .i64 k ∧ Hid (∀ i, i < k → toldI nx mt lg.length i = true) ∧ Below w3.heap.size w3 wr) (fun i _ => 7 - (intOf i).toNat)
  case atStart => exact ⟨0, 0, Nat.zero_le _, rfl, fun i hi => absurd hi (Nat.not_lt_zero _), Below.refl _ _⟩
  case round =>
    obtain ⟨k, n, hk, rfl, hA, hwr⟩ := hrel
    have XX := (unhide X3).below hwr
    have y3 := XX.cell 3 rfl
    have y5 := XX.cell 5 rfl
    have y7 := XX.cell 7 rfl
    have y8 := XX.cell 8 rfl
    rw [unhide H7] at y7
    rw [unhide H8] at y8
    have y12 := XX.cell 12 rfl
    have KK := hide ((unhide K3).trans (hwr.mono (unhide K3).size))
    clear x3 x5 x7 x8 x12 XX
    by_cases hlt : k < 7
    · have s1 : wr.cell? ⟨b, off + k, none⟩ = some (.int .i64 (nx.getD k 0)) := ((unhide KK).cell (p := ⟨b, off + k, none⟩) hbl).trans (unhide HS k hlt)
      have s2 : wr.cell? ⟨b', off' + k, none⟩ = some (.int .i64 (mt.getD k 0)) := ((unhide KK).cell (p := ⟨b', off' + k, none⟩) hbl').trans (unhide HS' k hlt)
      have hk0 : (0 : Int) ≤ (k : Int) := by omega
      have hk1 : (k : Int) < 7 := by omega
      have HWR := hide hwr
      have HT : Hid (toldI nx mt lg.length k = (inB (nx.getD k 0) 1 ((lg.length : Int) + 1) && inB (mt.getD k 0) 0 (nx.getD k 0 - 1))) := hide rfl
      have HB := hide (fun h => unhide HT3 k hlt h)
      have HX := hide (fun h => show ∀ i, i < k + 1 → toldI nx mt lg.length i = true from fun i hi => by
          by_cases e : i = k
          · subst e; exact h
          · exact unhide hA i (by omega))
      clear hA hwr HT3
      generalize nx.getD k 0 = x at *
      generalize mt.getD k 0 = y at *
      rcases Bool.eq_false_or_eq_true (inB x 1 ((lg.length : Int) + 1)) with hin | hin
      case inr =>
        have E : Hid (R = false) := hide (by rw [unhide HN, unhide HB (by rw [unhide HT, hin]; rfl)]; rfl)
        clear HB HX HT
        go_wp2_with fail
        go_quiet ((go_at_call 20; exact Calls.quiet_of_same (l01In_any _ _ _ _)))
        go_wp2_with fail
        go_ret
        exact ⟨ret_bool (unhide E).symm, below_drewN (unhide KK) nq⟩
      have hx := inB_iff.1 hin
      have wx : IntKind.i64.wrap (x - 1) = x - 1 := by
        simp only [IntKind.wrap, IntKind.bits, IntKind.signed]
        simp
        omega
      rcases Bool.eq_false_or_eq_true (inB y 0 (x - 1)) with hin2 | hin2
      case inr =>
        have E : Hid (R = false) := hide (by rw [unhide HN, unhide HB (by rw [unhide HT, hin, hin2]; rfl)]; rfl)
        clear HB HX HT hx
        go_wp2_with fail
        go_quiet ((go_at_call 20; exact Calls.quiet_of_same (l01In_any _ _ _ _)))
        go_wp2_with fail
        go_ret
        exact ⟨ret_bool (unhide E).symm, below_drewN (unhide KK) nq⟩
      have E := hide (unhide HX (by rw [unhide HT, hin, hin2]; rfl))
      clear HB HX HT hx
      go_wp2_with fail
      go_quiet ((go_at_call 20; exact Calls.quiet_of_same (l01In_any _ _ _ _)))
      go_wp2_with fail
      refine ⟨⟨k + 1, n + nq, by omega, by go_num, unhide E, below_drewN (unhide HWR) nq⟩, ?_⟩
      simp [intOf]; omega
    · obtain rfl : k = 7 := by omega
      have E : Hid (R = (up || decide (ro = 0))) := hide (by rw [unhide HN, unhide HT4 (unhide hA)]; rfl)
      clear hA hwr
      cases up
      case true =>
        have E2 : Hid (R = true) := hide (by rw [unhide E]; rfl)
        go_wp2_with fail
        go_ret
        exact ⟨ret_bool (unhide E2).symm, unhide KK⟩
      have E2 : Hid (R = (ro == 0)) := hide (by rw [unhide E, Bool.eq_iff_iff]; simp)
      go_wp2_with fail
      go_ret
      exact ⟨ret_bool (unhide E2).symm, unhide KK⟩
end Go.Proofs.Ytljolldacpkeeaa
