/- Histories: spec.OpsOK, walked. -/
import Derived.Test.YtedfidpmehamdaaHiA
namespace Go.Proofs.Ytedfidpmehamdaa
open Go.ChangeShapes Go.WideShapes Go.ChangeAt Go.RowKit Go.Deep
set_option linter.unusedVariables false
set_option linter.unusedSimpArgs false

set_option maxRecDepth 100000 in
set_option maxHeartbeats 1000000 in
theorem specOpsOK_any (v : Value) (l : List Op) (w : World) (h : Ops w v l) (hs : l.length ≤ 1048576) :
    Calls Try.prog 21 #[v] w fun e w' => e = .returned (.bool (opsB l)) ∧ Below w.heap.size w w' := by
  have E := hide (opsB_bad l)
  obtain ⟨a, cap, rfl, hn, hm, hc⟩ := h
  have HC := hide hc
  clear hc hn hm
  by_cases h4 : 4096 < l.length
  · have hl2 : (4096 : Int) < (l.length : Int) := by omega
    rw [decide_eq_false (by omega)] at E
    go_enter Try.func21, Try.ntmps21
    go_wp2_with fail
    go_ret
    exact ⟨ret_bool (by rw [unhide E]; simp), Below.refl _ _⟩
  have hl2 : ¬ (4096 : Int) < (l.length : Int) := by omega
  by_cases h7 : 7 < l.length
  · have hl3 : (7 : Int) < (l.length : Int) := by omega
    rw [decide_eq_false (by omega)] at E
    go_enter Try.func21, Try.ntmps21
    go_wp2_with fail
    go_ret
    exact ⟨ret_bool (by rw [unhide E]; simp), Below.refl _ _⟩
  have hl3 : ¬ (7 : Int) < (l.length : Int) := by omega
  rw [decide_eq_true (by omega)] at E
  go_enter Try.func21, Try.ntmps21
  go_wp2_with fail
  go_loopw [3] (fun i wr => ∃ k : Nat, k ≤ l.length ∧ i = .int .i64 k ∧ Hid (∀ j, j < k → opB (l.getD j default) = true) ∧ Below w.heap.size w wr) (fun i _ => l.length - (intOf i).toNat)
  case atStart => exact ⟨0, Nat.zero_le _, rfl, fun j hj => absurd hj (Nat.not_lt_zero _), Below.refl _ _⟩
  case round =>
    obtain ⟨k, hk, rfl, HGO, hb⟩ := hrel
    by_cases hlt : k < l.length
    · obtain ⟨b, off, rfl, hbl, hsrc⟩ : ∃ b off, a = some ⟨b, off, none⟩ ∧ b < w.heap.size ∧ ∀ i, i < l.length → w.cell? ⟨b, off + i * 4, none⟩ = some (.int .i64 (l.getD i default).bg) ∧ w.cell? ⟨b, off + i * 4 + 1, none⟩ = some (.int .i64 (l.getD i default).en) ∧ w.cell? ⟨b, off + i * 4 + 2, none⟩ = some (.bool (l.getD i default).wr) ∧ w.cell? ⟨b, off + i * 4 + 3, none⟩ = some (.string (l.getD i default).va) := by
        rcases unhide HC with h0 | h1
        · omega
        · exact h1
      obtain ⟨s0, s1, s2, s3⟩ := hsrc k hlt
      have c0 := (hb.cell (p := ⟨b, off + k * 4, none⟩) hbl).trans s0
      have c1 := (hb.cell (p := ⟨b, off + k * 4 + 1, none⟩) hbl).trans s1
      have c2 := (hb.cell (p := ⟨b, off + k * 4 + 2, none⟩) hbl).trans s2
      have c3 := (hb.cell (p := ⟨b, off + k * 4 + 3, none⟩) hbl).trans s3
      have hk0 : (0 : Int) ≤ (k : Int) := by omega
      have hk1 : (k : Int) < (l.length : Int) := by omega
      have HY := hide (badIn_yes (l := l) (i := k) hlt)
      have HNX := hide (fun (hx : opB (l.getD k default) = true) => show ∀ i, i < k + 1 → opB (l.getD i default) = true from fun i hi => by
          by_cases e : i = k
          · subst e; exact hx
          · exact unhide HGO i (by omega))
      have HB := hide hb
      have hbs := hb.size
      clear hb hsrc s0 s1 s2 s3
      generalize l.getD k default = f at *
      have EB : Hid (opB f = (inB f.bg 0 1000000 && (decide (f.en = -1) || inB f.en (f.bg + 1) 1000001) && decide (f.va.size ≤ 60))) := rfl
      generalize opB f = bb at *
      obtain ⟨f0, f1, f2, f3⟩ := f
      dsimp only at c0 c1 c2 c3 EB
      go_wp2_with fail
      have R2 := hide ((unhide HB).alloc hbs (.cells #[.int .i64 f0, .int .i64 f1, .bool f2, .string f3] 39))
      refine (l01In_any f0 0 1000000 _).mono ?_
      rintro e w3 ⟨rfl, hw3⟩
      subst w3
      by_cases hbb : inB f0 0 1000000 = true
      · have hb1 := (inB_iff.1 hbb)
        have q1 : IntKind.i64.wrap (f0 + 1) = f0 + 1 := wrapOp _ (by omega) (by omega)
        rw [hbb] at EB ⊢
        clear hbb hb1
        by_cases h1 : f1 = -1
        · have d1 : (f1 != -1) = false := by simp [h1]
          have d2 : decide (f1 = -1) = true := by simp [h1]
          rw [d2] at EB
          clear d2 h1
          by_cases h6 : f3.size ≤ 60
          · have h7 : ¬ (60 : Int) < (f3.size : Int) := by omega
            have EN := hide (unhide HNX (by rw [unhide EB, decide_eq_true h6]; rfl))
            clear HY HNX EB h6
            go_wp2_with fail
            refine ⟨⟨k + 1, by omega, by go_num, EN, unhide R2⟩, ?_⟩
            simp [intOf]; omega
          · have h7 : (60 : Int) < (f3.size : Int) := by omega
            have EN := hide (unhide HY (by rw [unhide EB, decide_eq_false h6]; simp))
            clear HY HNX EB h6
            go_wp2_with fail
            go_ret
            exact ⟨ret_bool (by rw [unhide E, unhide EN]; rfl), unhide R2⟩
        · have d1 : (f1 != -1) = true := by simp [h1]
          have d2 : decide (f1 = -1) = false := by simp [h1]
          rw [d2] at EB
          clear d2 h1
          go_wp2_with fail
          refine (l01In_any f1 (f0 + 1) 1000001 _).mono ?_
          rintro e w4 ⟨rfl, hw4⟩
          subst w4
          by_cases h2 : inB f1 (f0 + 1) 1000001 = true
          · rw [h2] at EB ⊢
            by_cases h6 : f3.size ≤ 60
            · have h7 : ¬ (60 : Int) < (f3.size : Int) := by omega
              have EN := hide (unhide HNX (by rw [unhide EB, decide_eq_true h6]; rfl))
              clear HY HNX EB h6
              go_wp2_with fail
              refine ⟨⟨k + 1, by omega, by go_num, EN, unhide R2⟩, ?_⟩
              simp [intOf]; omega
            · have h7 : (60 : Int) < (f3.size : Int) := by omega
              have EN := hide (unhide HY (by rw [unhide EB, decide_eq_false h6]; simp))
              clear HY HNX EB h6
              go_wp2_with fail
              go_ret
              exact ⟨ret_bool (by rw [unhide E, unhide EN]; rfl), unhide R2⟩
          · have h3 : inB f1 (f0 + 1) 1000001 = false := by simpa using h2
            rw [h3] at EB ⊢
            have EN := hide (unhide HY (by rw [unhide EB]; simp))
            clear HY HNX EB
            go_wp2_with fail
            go_ret
            exact ⟨ret_bool (by rw [unhide E, unhide EN]; rfl), unhide R2⟩
      · have h3 : inB f0 0 1000000 = false := by simpa using hbb
        rw [h3] at EB ⊢
        have EN := hide (unhide HY (by rw [unhide EB]; simp))
        clear HY HNX EB
        go_wp2_with fail
        go_ret
        exact ⟨ret_bool (by rw [unhide E, unhide EN]; rfl), unhide R2⟩
    · obtain rfl : k = l.length := by omega
      have HA := hide (badIn_no (unhide HGO))
      have HB := hide hb
      clear hb
      go_wp2_with fail
      go_ret
      exact ⟨ret_bool (by rw [unhide E, unhide HA]; rfl), unhide HB⟩
end Go.Proofs.Ytedfidpmehamdaa
