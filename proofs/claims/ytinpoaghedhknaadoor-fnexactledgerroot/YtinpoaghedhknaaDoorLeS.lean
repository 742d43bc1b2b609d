/- spec.LedgerOK. -/
import Derived.Test.YtinpoaghedhknaaDoorSeO
import Derived.Test.YtinpoaghedhknaaDoorLed
import Derived.Test.YtinpoaghedhknaaDoorMkH
import Derived.Test.YtinpoaghedhknaaDoorBrC
namespace Go.Proofs.YtinpoaghedhknaaDoor.Sha
open Go.ChangeShapes Go.WideShapes Go.ChangeAt Go.RowKit
set_option linter.unusedVariables false

/-- A ledger is right. -/
def ledB (ls : List ByteArray) (b : Br) (ss : List Se) : Bool := decide (ls.length ≤ 50) && allH ls && mapB b && sesB ss
set_option maxRecDepth 100000 in
set_option maxHeartbeats 2000000 in
theorem specLedgerOK_any (ls : List ByteArray) (k v : ByteArray) (a : Int) (ks : List Br) (ss : List Se) (lb loff lc : Nat) (ka : Option Addr) (kc : Nat) (sa : Option Addr) (sc : Nat) (w : World)
    (hS : SA w lb loff lc ls) (h : LedR w (.slice (some ⟨lb, loff, none⟩) ls.length lc) (.slice ka ks.length kc) (.slice sa ss.length sc) ls ks ss) (t1 : ∀ i, (ls.getD i ByteArray.empty).size ≤ 1048576) (zk : k.size ≤ maxLen) (zv : v.size ≤ maxLen) (t3 : ∀ i, (ss.getD i default).vl.size ≤ 1048576) :
    Calls Tryd.prog 17 #[.agg #[.slice (some ⟨lb, loff, none⟩) ls.length lc, .string k, .string v, .int .i64 a, .slice ka ks.length kc, .slice sa ss.length sc]] w fun e w' => e = .returned (.bool (ledB ls (.mk k v a ks) ss)) ∧ Below w.heap.size w w' := by
  have hlm : ls.length ≤ 9223372036854775807 := by have := hS.le; have := hS.mx; unfold maxLen at this; omega
  obtain ⟨sa', sc', hsv, hn, hm, hc⟩ := h.sv
  simp only [Value.slice.injEq, true_and] at hsv
  obtain ⟨rfl, rfl⟩ := hsv
  have HC := hide hc
  have hsm : ss.length ≤ 9223372036854775807 := by unfold maxLen at hm; omega
  have B0 := hide ((Below.refl w.heap.size w).alloc (Nat.le_refl _) (.cells #[.slice (some ⟨lb, loff, none⟩) ls.length lc, .string k, .string v, .int .i64 a, .slice ka ks.length kc, .slice sa ss.length sc] 37))
  have X0 := hide (Blk.new w #[.slice (some ⟨lb, loff, none⟩) ls.length lc, .string k, .string v, .int .i64 a, .slice ka ks.length kc, .slice sa ss.length sc] 37 w.heap.size rfl)
  have HH := hide (l06Hashes_any ls lb loff lc _ (hS.below (unhide B0)) t1)
  have HM := hide (specMapOK_any k v a ks _ _ _ (h.kv.blw (unhide B0)) zk zv)
  have HS := hide t3
  clear hc hm hn h hS t1 t3 zk zv
  by_cases h1 : ls.length ≤ 50
  case neg =>
    have HD : Hid (ledB ls (.mk k v a ks) ss = false) := hide (by unfold ledB; rw [decide_eq_false h1]; simp)
    have h1b : (50 : Int) < (ls.length : Int) := by omega
    go_enter Tryd.func17, Tryd.ntmps17
    go_wp2_with fail
    go_ret
    exact ⟨ret_bool (unhide HD).symm, unhide B0⟩
  have h1b : ¬ (50 : Int) < (ls.length : Int) := by omega
  rw [decide_eq_true (show ls.length ≤ 64 by omega), Bool.true_and] at HH
  rcases Bool.eq_false_or_eq_true (allH ls) with h2 | h2
  case inr =>
    have HD : Hid (ledB ls (.mk k v a ks) ss = false) := hide (by unfold ledB; rw [h2]; simp)
    rw [h2] at HH
    go_enter Tryd.func17, Tryd.ntmps17
    go_wp2_with fail
    refine (unhide HH).mono ?_
    rintro e w1 ⟨rfl, hw1⟩
    subst hw1
    go_wp2_with fail
    go_ret
    exact ⟨ret_bool (unhide HD).symm, unhide B0⟩
  rw [h2] at HH
  rcases Bool.eq_false_or_eq_true (mapB (.mk k v a ks)) with h3 | h3
  case inr =>
    have HD : Hid (ledB ls (.mk k v a ks) ss = false) := hide (by unfold ledB; rw [h3]; simp)
    rw [h3] at HM
    go_enter Tryd.func17, Tryd.ntmps17
    go_wp2_with fail
    refine (unhide HH).mono ?_
    rintro e w1 ⟨rfl, hw1⟩
    subst hw1
    go_wp2_with fail
    refine (unhide HM).mono ?_
    rintro e w2 ⟨rfl, hb2⟩
    have K2 := hide ((unhide B0).trans (hb2.mono (unhide B0).size))
    clear hb2
    go_wp2_with fail
    go_ret
    exact ⟨ret_bool (unhide HD).symm, unhide K2⟩
  rw [h3] at HM
  have HLB : Hid (ledB ls (.mk k v a ks) ss = sesB ss) := hide (by unfold ledB; rw [decide_eq_true h1, h2, h3]; simp)
  by_cases h4 : ss.length ≤ 8
  case neg =>
    have HD : Hid (ledB ls (.mk k v a ks) ss = false) := hide (by rw [unhide HLB]; unfold sesB; rw [decide_eq_false h4]; simp)
    have h4b : (8 : Int) < (ss.length : Int) := by omega
    go_enter Tryd.func17, Tryd.ntmps17
    go_wp2_with fail
    refine (unhide HH).mono ?_
    rintro e w1 ⟨rfl, hw1⟩
    subst hw1
    go_wp2_with fail
    refine (unhide HM).mono ?_
    rintro e w2 ⟨rfl, hb2⟩
    have K2 := hide ((unhide B0).trans (hb2.mono (unhide B0).size))
    have c5 := ((unhide X0).below hb2).cell 5 rfl
    clear hb2
    go_wp2_with fail
    go_ret
    exact ⟨ret_bool (unhide HD).symm, unhide K2⟩
  have h4b : ¬ (8 : Int) < (ss.length : Int) := by omega
  rw [unhide HLB]
  go_enter Tryd.func17, Tryd.ntmps17
  go_wp2_with fail
  refine (unhide HH).mono ?_
  rintro e w1 ⟨rfl, hw1⟩
  subst hw1
  go_wp2_with fail
  refine (unhide HM).mono ?_
  rintro e w2 ⟨rfl, hb2⟩
  have K2 := hide ((unhide B0).trans (hb2.mono (unhide B0).size))
  have X2 := hide ((unhide X0).below hb2)
  have c5 := (unhide X2).cell 5 rfl
  have hx2 := (unhide X2).1
  clear hb2 HH HM X0 B0
  go_wp2_with fail
  go_loopw [3] (fun i wr => ∃ k : Nat, k ≤ ss.length ∧ i = .int .i64 k ∧ sesTo ss k ∧ Below w2.heap.size w2 wr) (fun i _ => ss.length - (intOf i).toNat)
  case atStart => exact ⟨0, Nat.zero_le _, rfl, fun i hi => by omega, Below.refl _ _⟩
  case round =>
    obtain ⟨j, hj, rfl, hgo, hb⟩ := hrel
    have d5 := (hb.cell (p := ⟨w.heap.size, 5, none⟩) hx2).trans c5
    have hbw := hide ((unhide K2).trans (hb.mono (unhide K2).size))
    by_cases hlt : j < ss.length
    · obtain ⟨b, off, rfl, hbl, hsrc⟩ : ∃ b off, sa = some ⟨b, off, none⟩ ∧ b < w.heap.size ∧ ∀ i, i < ss.length → w.cell? ⟨b, off + i * 5, none⟩ = some (.int .i64 (ss.getD i default).id) ∧ w.cell? ⟨b, off + i * 5 + 1, none⟩ = some (.int .i64 (ss.getD i default).sq) ∧ w.cell? ⟨b, off + i * 5 + 2, none⟩ = some (.int .i64 (ss.getD i default).kd) ∧ w.cell? ⟨b, off + i * 5 + 3, none⟩ = some (.int .i64 (ss.getD i default).pl) ∧ w.cell? ⟨b, off + i * 5 + 4, none⟩ = some (.string (ss.getD i default).vl) := by
        rcases unhide HC with h0 | h1
        · omega
        · exact h1
      have hbl2 := Nat.lt_of_lt_of_le hbl (unhide hbw).size
      have hsrc2 : ∀ i, i < ss.length → wr.cell? ⟨b, off + i * 5, none⟩ = some (.int .i64 (ss.getD i default).id) ∧ wr.cell? ⟨b, off + i * 5 + 1, none⟩ = some (.int .i64 (ss.getD i default).sq) ∧ wr.cell? ⟨b, off + i * 5 + 2, none⟩ = some (.int .i64 (ss.getD i default).kd) ∧ wr.cell? ⟨b, off + i * 5 + 3, none⟩ = some (.int .i64 (ss.getD i default).pl) ∧ wr.cell? ⟨b, off + i * 5 + 4, none⟩ = some (.string (ss.getD i default).vl) := fun i hi => ⟨((unhide hbw).cell (p := ⟨b, off + i * 5, none⟩) hbl).trans (hsrc i hi).1, ((unhide hbw).cell (p := ⟨b, off + i * 5 + 1, none⟩) hbl).trans (hsrc i hi).2.1, ((unhide hbw).cell (p := ⟨b, off + i * 5 + 2, none⟩) hbl).trans (hsrc i hi).2.2.1, ((unhide hbw).cell (p := ⟨b, off + i * 5 + 3, none⟩) hbl).trans (hsrc i hi).2.2.2.1, ((unhide hbw).cell (p := ⟨b, off + i * 5 + 4, none⟩) hbl).trans (hsrc i hi).2.2.2.2⟩
      obtain ⟨s0, s1, s2, s3, s4⟩ := hsrc2 j hlt
      have hk0 : (0 : Int) ≤ (j : Int) := by omega
      have hk1 : (j : Int) < (ss.length : Int) := by omega
      have hfz := unhide HS j
      have HGo := hide hgo
      have HEB : Hid (sesAt ss j = (inB (ss.getD j default).id (leastS ss j) 65535 && inB (ss.getD j default).sq 0 65535 && repB (ss.getD j default).kd (ss.getD j default).pl (ss.getD j default).vl)) := hide rfl
      have HLS : Hid (∀ q, q + 1 = j → leastS ss j = (ss.getD q default).id + 1) := hide (fun q hq => by subst hq; rfl)
      have HL0 : Hid (j = 0 → leastS ss j = 0) := hide (fun hq => by subst hq; rfl)
      have HLO := hide (leastS_lo hgo)
      have HPR : Hid (∀ q, q + 1 = j → 0 ≤ (ss.getD q default).id) := hide (fun q hq => by
        have h1 := hgo q (by omega)
        have h2 := leastS_lo (k := q) (fun i hi => hgo i (by omega))
        unfold sesAt at h1
        simp only [Bool.and_eq_true] at h1
        have := (inB_iff.1 h1.1.1).1
        omega)
      have HSR := hide hsrc2
      have HB := hide hb
      clear hsrc hsrc2 hb hgo
      generalize leastS ss j = ls at *
      generalize hff : ss.getD j default = f at *
      clear hff
      obtain ⟨f0, f1, f2, f3, f4⟩ := f
      dsimp only at s0 s1 s2 s3 s4 hfz HEB
      have Y0 := hide (Blk.new wr #[.int .i64 f0, .int .i64 f1, .int .i64 f2, .int .i64 f3, .string f4] 77 wr.heap.size rfl)
      have BB := (Below.refl wr.heap.size wr).alloc (Nat.le_refl _) (.cells #[.int .i64 f0, .int .i64 f1, .int .i64 f2, .int .i64 f3, .string f4] 77)
      have HB3 := hide ((unhide HB).trans (BB.mono (unhide HB).size))
      have e5 := (BB.cell (p := ⟨w.heap.size, 5, none⟩) (Nat.lt_of_lt_of_le hx2 (unhide HB).size)).trans d5
      have hz5 := Nat.lt_of_lt_of_le hx2 (unhide HB3).size
      have hbl3 := Nat.lt_of_lt_of_le hbl2 BB.size
      have HSR3 : Hid (∀ i, i < ss.length → (wr.alloc (.cells #[.int .i64 f0, .int .i64 f1, .int .i64 f2, .int .i64 f3, .string f4] 77)).cell? ⟨b, off + i * 5, none⟩ = some (.int .i64 (ss.getD i default).id)) := hide (fun i hi => (BB.cell (p := ⟨b, off + i * 5, none⟩) hbl2).trans (unhide HSR i hi).1)
      clear BB HB hbw HSR
      go_wp2_with fail
      clear s0 s1 s2 s3 s4 d5
      generalize wr.alloc (.cells #[.int .i64 f0, .int .i64 f1, .int .i64 f2, .int .i64 f3, .string f4] 77) = w3 at *
      generalize wr.heap.size = xb at *
      have r5 := Wb.cell e5 hz5
      have t0 := Wb.cell ((unhide Y0).cell 0 rfl) (unhide Y0).1
      have t1 := Wb.cell ((unhide Y0).cell 1 rfl) (unhide Y0).1
      have t2 := Wb.cell ((unhide Y0).cell 2 rfl) (unhide Y0).1
      have t3 := Wb.cell ((unhide Y0).cell 3 rfl) (unhide Y0).1
      have t4 := Wb.cell ((unhide Y0).cell 4 rfl) (unhide Y0).1
      have hfz2 : f4.size ≤ 9223372036854775807 := by omega
      clear e5 Y0
      rcases Bool.eq_false_or_eq_true (inB f0 0 65535) with g0 | g0
      case inr =>
        have HD := hide (ses_bad hlt (by rw [unhide HEB]; have : inB f0 ls 65535 = false := (by rcases inB_no g0 with h | h <;> (have := unhide HLO; simp [inB]; omega)); rw [this]; simp))
        refine wp_region_wb (by kernel_rfl) (by kernel_rfl) ?_
        repeat (go_big_quiet_step ((go_at_call 36; exact wb_same (l01In_any _ _ _ _))))
        refine wpQuiet_nil ?_
        intro _ hw'
        obtain ⟨⟨w1, hb1⟩, rfl⟩ := hw'
        have HB1 := hide ((unhide HB3).trans (hb1.mono (unhide HB3).size))
        clear hb1 r5 t0 t1 t2 t3 t4
        go_wp2_with fail
        go_ret
        exact ⟨ret_bool (unhide HD).symm, (unhide K2).trans ((unhide HB1).mono (unhide K2).size)⟩
      have g0b := inB_iff.1 g0
      rcases Bool.eq_false_or_eq_true (inB f1 0 65535) with g1 | g1
      case inr =>
        have HD := hide (ses_bad hlt (by rw [unhide HEB]; rw [g1]; simp))
        refine wp_region_wb (by kernel_rfl) (by kernel_rfl) ?_
        repeat (go_big_quiet_step ((go_at_call 36; exact wb_same (l01In_any _ _ _ _))))
        refine wpQuiet_nil ?_
        intro _ hw'
        obtain ⟨⟨w1, hb1⟩, rfl⟩ := hw'
        have HB1 := hide ((unhide HB3).trans (hb1.mono (unhide HB3).size))
        clear hb1 r5 t0 t1 t2 t3 t4
        go_wp2_with fail
        go_ret
        exact ⟨ret_bool (unhide HD).symm, (unhide K2).trans ((unhide HB1).mono (unhide K2).size)⟩
      rcases Nat.eq_zero_or_pos j with hk00 | hkp
      · have p0d : decide (0 < j) = false := by rw [decide_eq_false_iff_not]; omega
        have HK0 := hide (unhide HL0 hk00)
        clear hk00
        rcases Bool.eq_false_or_eq_true (inB f2 0 6) with g2 | g2
        case inr =>
          have HD := hide (ses_bad hlt (by rw [unhide HEB]; unfold repB; rw [g2]; simp))
          refine wp_region_wb (by kernel_rfl) (by kernel_rfl) ?_
          repeat (go_big_quiet_step ((go_at_call 36; exact wb_same (l01In_any _ _ _ _))))
          refine wpQuiet_nil ?_
          intro _ hw'
          obtain ⟨⟨w1, hb1⟩, rfl⟩ := hw'
          have HB1 := hide ((unhide HB3).trans (hb1.mono (unhide HB3).size))
          clear hb1 r5 t0 t1 t2 t3 t4
          go_wp2_with fail
          go_ret
          exact ⟨ret_bool (unhide HD).symm, (unhide K2).trans ((unhide HB1).mono (unhide K2).size)⟩
        rcases Bool.eq_false_or_eq_true (inB f3 0 50) with g3 | g3
        case inr =>
          have HD := hide (ses_bad hlt (by rw [unhide HEB]; unfold repB; rw [g3]; simp))
          refine wp_region_wb (by kernel_rfl) (by kernel_rfl) ?_
          repeat (go_big_quiet_step ((go_at_call 36; exact wb_same (l01In_any _ _ _ _))))
          refine wpQuiet_nil ?_
          intro _ hw'
          obtain ⟨⟨w1, hb1⟩, rfl⟩ := hw'
          have HB1 := hide ((unhide HB3).trans (hb1.mono (unhide HB3).size))
          clear hb1 r5 t0 t1 t2 t3 t4
          go_wp2_with fail
          go_ret
          exact ⟨ret_bool (unhide HD).symm, (unhide K2).trans ((unhide HB1).mono (unhide K2).size)⟩
        by_cases g4 : f4.size ≤ 60
        case neg =>
          have g4d : decide ((60 : Int) < (f4.size : Int)) = true := by rw [decide_eq_true_iff]; omega
          have g4e : (60 : Int) < (f4.size : Int) := by omega
          have g4f : decide (60 < f4.size) = true := by rw [decide_eq_true_iff]; omega
          have HD := hide (ses_bad hlt (by rw [unhide HEB]; unfold repB; rw [decide_eq_false g4]; simp))
          refine wp_region_wb (by kernel_rfl) (by kernel_rfl) ?_
          repeat (go_big_quiet_step ((go_at_call 36; exact wb_same (l01In_any _ _ _ _))))
          refine wpQuiet_nil ?_
          intro _ hw'
          obtain ⟨⟨w1, hb1⟩, rfl⟩ := hw'
          have HB1 := hide ((unhide HB3).trans (hb1.mono (unhide HB3).size))
          clear hb1 r5 t0 t1 t2 t3 t4
          go_wp2_with fail
          go_ret
          exact ⟨ret_bool (unhide HD).symm, (unhide K2).trans ((unhide HB1).mono (unhide K2).size)⟩
        have g4d : decide ((60 : Int) < (f4.size : Int)) = false := by rw [decide_eq_false_iff_not]; omega
        have g4f : decide (60 < f4.size) = false := by rw [decide_eq_false_iff_not]; omega
        have HN := hide ((unhide HGo).next (by rw [unhide HEB]; unfold repB; rw [g1, g2, g3, decide_eq_true g4]; rw [unhide HK0, g0]; rfl))
        refine wp_region_wb (by kernel_rfl) (by kernel_rfl) ?_
        repeat (go_big_quiet_step ((go_at_call 36; exact wb_same (l01In_any _ _ _ _))))
        refine wpQuiet_nil ?_
        intro _ hw'
        obtain ⟨⟨w1, hb1⟩, rfl⟩ := hw'
        have HB1 := hide ((unhide HB3).trans (hb1.mono (unhide HB3).size))
        clear hb1 r5 t0 t1 t2 t3 t4
        go_wp2_with fail
        refine ⟨⟨j + 1, by omega, by go_num, unhide HN, unhide HB1⟩, ?_⟩
        simp [intOf]; omega
      · obtain ⟨q, hq⟩ : ∃ q : Nat, (j : Int) - 1 = (q : Int) := ⟨j - 1, by omega⟩
        have x0 := unhide HSR3 q (by omega)
        have HLQ := hide (unhide HLS q (by omega))
        have hpr := unhide HPR q (by omega)
        generalize (ss.getD q default).id = pt at *
        have t9 := Wb.cell x0 hbl3
        have p1d : decide (0 < j) = true := by simpa using hkp
        have p2 : IntKind.i64.wrap (q : Int) = (q : Int) := wrapSes _ (by omega) (by omega)
        have p3 : (0 : Int) ≤ (q : Int) := by omega
        have p4 : (q : Int) < (ss.length : Int) := by omega
        clear x0
        by_cases hpt : f0 ≤ pt
        · have hptd : decide (f0 ≤ pt) = true := by rw [decide_eq_true_iff]; exact hpt
          have HD := hide (ses_bad hlt (by rw [unhide HEB]; have : inB f0 ls 65535 = false := (by rw [unhide HLQ]; simp [inB]; omega); rw [this]; simp))
          refine wp_region_wb (by kernel_rfl) (by kernel_rfl) ?_
          repeat (go_big_quiet_step ((go_at_call 36; exact wb_same (l01In_any _ _ _ _))))
          refine wpQuiet_nil ?_
          intro _ hw'
          obtain ⟨⟨w1, hb1⟩, rfl⟩ := hw'
          have HB1 := hide ((unhide HB3).trans (hb1.mono (unhide HB3).size))
          clear hb1 r5 t0 t1 t2 t3 t4 t9
          go_wp2_with fail
          go_ret
          exact ⟨ret_bool (unhide HD).symm, (unhide K2).trans ((unhide HB1).mono (unhide K2).size)⟩
        · have hptd : decide (f0 ≤ pt) = false := by rw [decide_eq_false_iff_not]; exact hpt
          rcases Bool.eq_false_or_eq_true (inB f2 0 6) with g2 | g2
          case inr =>
            have HD := hide (ses_bad hlt (by rw [unhide HEB]; unfold repB; rw [g2]; simp))
            refine wp_region_wb (by kernel_rfl) (by kernel_rfl) ?_
            repeat (go_big_quiet_step ((go_at_call 36; exact wb_same (l01In_any _ _ _ _))))
            refine wpQuiet_nil ?_
            intro _ hw'
            obtain ⟨⟨w1, hb1⟩, rfl⟩ := hw'
            have HB1 := hide ((unhide HB3).trans (hb1.mono (unhide HB3).size))
            clear hb1 r5 t0 t1 t2 t3 t4 t9
            go_wp2_with fail
            go_ret
            exact ⟨ret_bool (unhide HD).symm, (unhide K2).trans ((unhide HB1).mono (unhide K2).size)⟩
          rcases Bool.eq_false_or_eq_true (inB f3 0 50) with g3 | g3
          case inr =>
            have HD := hide (ses_bad hlt (by rw [unhide HEB]; unfold repB; rw [g3]; simp))
            refine wp_region_wb (by kernel_rfl) (by kernel_rfl) ?_
            repeat (go_big_quiet_step ((go_at_call 36; exact wb_same (l01In_any _ _ _ _))))
            refine wpQuiet_nil ?_
            intro _ hw'
            obtain ⟨⟨w1, hb1⟩, rfl⟩ := hw'
            have HB1 := hide ((unhide HB3).trans (hb1.mono (unhide HB3).size))
            clear hb1 r5 t0 t1 t2 t3 t4 t9
            go_wp2_with fail
            go_ret
            exact ⟨ret_bool (unhide HD).symm, (unhide K2).trans ((unhide HB1).mono (unhide K2).size)⟩
          by_cases g4 : f4.size ≤ 60
          case neg =>
            have g4d : decide ((60 : Int) < (f4.size : Int)) = true := by rw [decide_eq_true_iff]; omega
            have g4e : (60 : Int) < (f4.size : Int) := by omega
            have g4f : decide (60 < f4.size) = true := by rw [decide_eq_true_iff]; omega
            have HD := hide (ses_bad hlt (by rw [unhide HEB]; unfold repB; rw [decide_eq_false g4]; simp))
            refine wp_region_wb (by kernel_rfl) (by kernel_rfl) ?_
            repeat (go_big_quiet_step ((go_at_call 36; exact wb_same (l01In_any _ _ _ _))))
            refine wpQuiet_nil ?_
            intro _ hw'
            obtain ⟨⟨w1, hb1⟩, rfl⟩ := hw'
            have HB1 := hide ((unhide HB3).trans (hb1.mono (unhide HB3).size))
            clear hb1 r5 t0 t1 t2 t3 t4 t9
            go_wp2_with fail
            go_ret
            exact ⟨ret_bool (unhide HD).symm, (unhide K2).trans ((unhide HB1).mono (unhide K2).size)⟩
          have g4d : decide ((60 : Int) < (f4.size : Int)) = false := by rw [decide_eq_false_iff_not]; omega
          have g4f : decide (60 < f4.size) = false := by rw [decide_eq_false_iff_not]; omega
          have HN := hide ((unhide HGo).next (by rw [unhide HEB]; unfold repB; rw [g1, g2, g3, decide_eq_true g4]; have : inB f0 ls 65535 = true := (by rw [unhide HLQ, inB_iff]; omega); rw [this]; rfl))
          refine wp_region_wb (by kernel_rfl) (by kernel_rfl) ?_
          repeat (go_big_quiet_step ((go_at_call 36; exact wb_same (l01In_any _ _ _ _))))
          refine wpQuiet_nil ?_
          intro _ hw'
          obtain ⟨⟨w1, hb1⟩, rfl⟩ := hw'
          have HB1 := hide ((unhide HB3).trans (hb1.mono (unhide HB3).size))
          clear hb1 r5 t0 t1 t2 t3 t4 t9
          go_wp2_with fail
          refine ⟨⟨j + 1, by omega, by go_num, unhide HN, unhide HB1⟩, ?_⟩
          simp [intOf]; omega
    · obtain rfl : j = ss.length := by omega
      have HD := hide (ses_all h4 hgo)
      clear hb hgo
      go_wp2_with fail
      go_ret
      exact ⟨ret_bool (unhide HD).symm, unhide hbw⟩
end Go.Proofs.YtinpoaghedhknaaDoor.Sha
