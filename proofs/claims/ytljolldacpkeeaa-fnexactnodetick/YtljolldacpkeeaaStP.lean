/- spec.StateOK, walked. -/
import Derived.Test.YtljolldacpkeeaaHab
import Derived.Test.YtljolldacpkeeaaQb
namespace Go.Proofs.Ytljolldacpkeeaa
open Go.ChangeShapes Go.WideShapes Go.ChangeAt Go.RowKit
set_option linter.unusedVariables false

theorem wrapSt (n : Int) (h0 : 0 ≤ n) (h1 : n < 9223372036854775808) : IntKind.i64.wrap n = n := by
  simp only [IntKind.wrap, IntKind.bits, IntKind.signed]
  simp
  omega
set_option maxRecDepth 100000 in
set_option maxHeartbeats 1000000 in
theorem specStateOK_any (tm vo : Int) (v : Value) (l : List En) (w : World) (h : Ens w v l) (hs : ∀ i, (l.getD i default).d.size ≤ 1048576) :
    Calls Try.prog 40 #[.agg #[.int .i64 tm, .int .i64 vo, v]] w fun e w' => e = .returned (.bool (stateB tm vo l)) ∧ Below w.heap.size w w' := by
  obtain ⟨a, cap, rfl, hn, hm, hc⟩ := h
  have HC := hide hc
  have HS := hide hs
  clear hc hs
  have B0 := hide ((Below.refl w.heap.size w).alloc (Nat.le_refl _) (.cells #[.int .i64 tm, .int .i64 vo, .slice a l.length cap] 69))
  have X0 := hide (Blk.new w #[.int .i64 tm, .int .i64 vo, .slice a l.length cap] 69 w.heap.size rfl)
  rcases Bool.eq_false_or_eq_true (inB tm 0 1000000) with h1 | h1
  case inr =>
    have HD : Hid (stateB tm vo l = false) := hide (by unfold stateB; rw [h1]; simp)
    go_enter Try.func40, Try.ntmps40
    go_wp2_with (go_at_call 20; refine (l01In_any _ _ _ _).mono ?_; rintro e w' ⟨rfl, hw'⟩; have hw2 := hw'.symm; clear hw'; subst hw2)
    go_ret
    exact ⟨ret_bool (unhide HD).symm, unhide B0⟩
  rcases Bool.eq_false_or_eq_true (inB vo (-1) 6) with h2 | h2
  case inr =>
    have HD : Hid (stateB tm vo l = false) := hide (by unfold stateB; rw [h2]; simp)
    go_enter Try.func40, Try.ntmps40
    go_wp2_with (go_at_call 20; refine (l01In_any _ _ _ _).mono ?_; rintro e w' ⟨rfl, hw'⟩; have hw2 := hw'.symm; clear hw'; subst hw2)
    go_ret
    exact ⟨ret_bool (unhide HD).symm, unhide B0⟩
  by_cases h3 : l.length ≤ 60
  case neg =>
    have HD : Hid (stateB tm vo l = false) := hide (by unfold stateB; rw [decide_eq_false h3]; simp)
    have h3b : (60 : Int) < (l.length : Int) := by omega
    go_enter Try.func40, Try.ntmps40
    go_wp2_with (go_at_call 20; refine (l01In_any _ _ _ _).mono ?_; rintro e w' ⟨rfl, hw'⟩; have hw2 := hw'.symm; clear hw'; subst hw2)
    go_ret
    exact ⟨ret_bool (unhide HD).symm, unhide B0⟩
  have h3b : ¬ (60 : Int) < (l.length : Int) := by omega
  go_enter Try.func40, Try.ntmps40
  go_wp2_with (go_at_call 20; refine (l01In_any _ _ _ _).mono ?_; rintro e w' ⟨rfl, hw'⟩; have hw2 := hw'.symm; clear hw'; subst hw2)
  generalize w.alloc (.cells #[.int .i64 tm, .int .i64 vo, .slice a l.length cap] 69) = w0 at *
  have c0 := (unhide X0).cell 0 rfl
  have c2 := (unhide X0).cell 2 rfl
  go_loopw [3] (fun i wr => ∃ k : Nat, k ≤ l.length ∧ i = .int .i64 k ∧ entTo tm l k ∧ Below (w.heap.size + 1) w0 wr) (fun i _ => l.length - (intOf i).toNat)
  case atStart => exact ⟨0, Nat.zero_le _, rfl, fun i hi => by omega, Below.refl _ _⟩
  case round =>
    obtain ⟨k, hk, rfl, hgo, hb⟩ := hrel
    have hbw : Below w.heap.size w wr := (unhide B0).trans (hb.mono (by omega))
    have d0 := (hb.cell (p := ⟨w.heap.size, 0, none⟩) (by simp)).trans c0
    have d2 := (hb.cell (p := ⟨w.heap.size, 2, none⟩) (by simp)).trans c2
    have hz0 := Nat.lt_of_lt_of_le (unhide X0).1 hb.size
    by_cases hlt : k < l.length
    · obtain ⟨b, off, rfl, hbl, hsrc⟩ : ∃ b off, a = some ⟨b, off, none⟩ ∧ b < w.heap.size ∧ ∀ i, i < l.length → w.cell? ⟨b, off + i * 3, none⟩ = some (.int .i64 (l.getD i default).t) ∧ w.cell? ⟨b, off + i * 3 + 1, none⟩ = some (.int .i64 (l.getD i default).k) ∧ w.cell? ⟨b, off + i * 3 + 2, none⟩ = some (.string (l.getD i default).d) := by
        rcases unhide HC with h0 | h1
        · omega
        · exact h1
      have hbl2 := Nat.lt_of_lt_of_le hbl hbw.size
      have hsrc2 : ∀ i, i < l.length → wr.cell? ⟨b, off + i * 3, none⟩ = some (.int .i64 (l.getD i default).t) ∧ wr.cell? ⟨b, off + i * 3 + 1, none⟩ = some (.int .i64 (l.getD i default).k) ∧ wr.cell? ⟨b, off + i * 3 + 2, none⟩ = some (.string (l.getD i default).d) := fun i hi => ⟨(hbw.cell (p := ⟨b, off + i * 3, none⟩) hbl).trans (hsrc i hi).1, (hbw.cell (p := ⟨b, off + i * 3 + 1, none⟩) hbl).trans (hsrc i hi).2.1, (hbw.cell (p := ⟨b, off + i * 3 + 2, none⟩) hbl).trans (hsrc i hi).2.2⟩
      obtain ⟨s0, s1, s2⟩ := hsrc2 k hlt
      have hk0 : (0 : Int) ≤ (k : Int) := by omega
      have hk1 : (k : Int) < (l.length : Int) := by omega
      have hfz := unhide HS k
      have HB := hide hb
      have HGo := hide hgo
      have HEB : Hid (entB tm l k = (entOK (l.getD k default).t (l.getD k default).k (l.getD k default).d && inB (l.getD k default).t (leastT l k) tm)) := hide rfl
      have HLS : Hid (∀ q, q + 1 = k → leastT l k = (l.getD q default).t) := hide (fun q hq => by subst hq; rfl)
      have HL0 : Hid (k = 0 → leastT l k = 0) := hide (fun hq => by subst hq; rfl)
      clear hsrc hb hbw hgo
      generalize leastT l k = ls at *
      have HSR := hide hsrc2
      clear hsrc2
      generalize hff : l.getD k default = f at *
      have HFF := hide hff
      clear hff
      obtain ⟨ft, fk, fd⟩ := f
      dsimp only at s0 s1 s2 hfz HEB HLS
      have hnm : fd.size ≤ maxLen := by unfold maxLen; omega
      have HEn := hide (fun wx => specEntry_any ft fk fd wx hnm hfz)
      have r0 := Wb.cell d0 hz0
      have r2 := Wb.cell d2 hz0
      have t0 := Wb.cell s0 hbl2
      have t1 := Wb.cell s1 hbl2
      have t2 := Wb.cell s2 hbl2
      go_wp2_with fail
      clear d0 d2 s0 s1 s2
      rcases Bool.eq_false_or_eq_true (entOK ft fk fd) with ho | ho
      case inr =>
        have HD := hide (state_bad (tm := tm) (vo := vo) hlt (by rw [unhide HEB, ho]; simp))
        rw [ho] at HEn
        refine wp_region_wb (by kernel_rfl) (by kernel_rfl) ?_
        repeat (go_big_quiet_step ((go_at_call 61; exact wb_of (unhide HEn _))))
        refine wpQuiet_nil ?_
        intro _ hw'
        obtain ⟨⟨w1, hb1⟩, rfl⟩ := hw'
        have HBW := hide ((unhide B0).trans (((unhide HB).mono (by omega)).trans (hb1.mono (by omega))))
        clear hb1 r0 r2 t0 t1 t2
        go_wp2_with fail
        go_ret
        exact ⟨ret_bool (unhide HD).symm, unhide HBW⟩
      rw [ho] at HEn
      have hft := (entOK_bounds ho).1
      by_cases htm : tm < ft
      · have HD := hide (state_bad (tm := tm) (vo := vo) hlt (by rw [unhide HEB]; simp [inB]; omega))
        refine wp_region_wb (by kernel_rfl) (by kernel_rfl) ?_
        repeat (go_big_quiet_step ((go_at_call 61; exact wb_of (unhide HEn _))))
        refine wpQuiet_nil ?_
        intro _ hw'
        obtain ⟨⟨w1, hb1⟩, rfl⟩ := hw'
        have HBW := hide ((unhide B0).trans (((unhide HB).mono (by omega)).trans (hb1.mono (by omega))))
        clear hb1 r0 r2 t0 t1 t2
        go_wp2_with fail
        go_ret
        exact ⟨ret_bool (unhide HD).symm, unhide HBW⟩
      have htmd : decide (tm < ft) = false := by rw [decide_eq_false_iff_not]; exact htm
      rcases Nat.eq_zero_or_pos k with hk00 | hkp
      · have HN := hide ((unhide HGo).next (by rw [unhide HEB, ho, unhide HL0 hk00]; simp [inB]; omega))
        have p0d : decide (0 < k) = false := by rw [decide_eq_false_iff_not]; omega
        have HK0 := hide hk00
        clear hk00
        refine wp_region_wb (by kernel_rfl) (by kernel_rfl) ?_
        repeat (go_big_quiet_step ((go_at_call 61; exact wb_of (unhide HEn _))))
        refine wpQuiet_nil ?_
        intro _ hw'
        obtain ⟨⟨w1, hb1⟩, rfl⟩ := hw'
        have HB1 := hide ((unhide HB).trans (hb1.mono (by omega)))
        clear hb1 r0 r2 t0 t1 t2
        go_wp2_with fail
        refine ⟨⟨k + 1, by omega, by go_num, unhide HN, unhide HB1⟩, ?_⟩
        simp [intOf]; omega
      · obtain ⟨q, hq⟩ : ∃ q : Nat, (k : Int) - 1 = (q : Int) := ⟨k - 1, by omega⟩
        obtain ⟨x0, _, _⟩ := unhide HSR q (by omega)
        have HLQ := hide (unhide HLS q (by omega))
        generalize (l.getD q default).t = pt at *
        have t3 := Wb.cell x0 hbl2
        have p1d : decide (0 < k) = true := by simpa using hkp
        have p2 : IntKind.i64.wrap (q : Int) = (q : Int) := wrapSt _ (by omega) (by omega)
        have p3 : (0 : Int) ≤ (q : Int) := by omega
        have p4 : (q : Int) < (l.length : Int) := by omega
        clear x0
        by_cases hpt : ft < pt
        · have HD := hide (state_bad (tm := tm) (vo := vo) hlt (by rw [unhide HEB, unhide HLQ]; simp [inB]; omega))
          refine wp_region_wb (by kernel_rfl) (by kernel_rfl) ?_
          repeat (go_big_quiet_step ((go_at_call 61; exact wb_of (unhide HEn _))))
          refine wpQuiet_nil ?_
          intro _ hw'
          obtain ⟨⟨w1, hb1⟩, rfl⟩ := hw'
          have HBW := hide ((unhide B0).trans (((unhide HB).mono (by omega)).trans (hb1.mono (by omega))))
          clear hb1 r0 r2 t0 t1 t2 t3
          go_wp2_with fail
          go_ret
          exact ⟨ret_bool (unhide HD).symm, unhide HBW⟩
        · have hptd : decide (ft < pt) = false := by rw [decide_eq_false_iff_not]; exact hpt
          have HN := hide ((unhide HGo).next (by rw [unhide HEB, ho, unhide HLQ]; simp [inB]; omega))
          refine wp_region_wb (by kernel_rfl) (by kernel_rfl) ?_
          repeat (go_big_quiet_step ((go_at_call 61; exact wb_of (unhide HEn _))))
          refine wpQuiet_nil ?_
          intro _ hw'
          obtain ⟨⟨w1, hb1⟩, rfl⟩ := hw'
          have HB1 := hide ((unhide HB).trans (hb1.mono (by omega)))
          clear hb1 r0 r2 t0 t1 t2 t3
          go_wp2_with fail
          refine ⟨⟨k + 1, by omega, by go_num, unhide HN, unhide HB1⟩, ?_⟩
          simp [intOf]; omega
    · obtain rfl : k = l.length := by omega
      have HD := hide (state_all (vo := vo) h1 h2 h3 hgo)
      have HBW := hide hbw
      clear hb hbw hgo
      go_wp2_with fail
      go_ret
      exact ⟨ret_bool (unhide HD).symm, unhide HBW⟩
end Go.Proofs.Ytljolldacpkeeaa
