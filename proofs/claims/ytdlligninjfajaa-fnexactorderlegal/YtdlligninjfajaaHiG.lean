/- Histories: spec.l14Legal, spec.OrderLegal, walked. -/
import Derived.Test.YtdlligninjfajaaHiF
namespace Go.Proofs.Ytdlligninjfajaa
open Go.ChangeShapes Go.WideShapes Go.ChangeAt Go.RowKit Go.Deep
set_option linter.unusedVariables false
set_option linter.unusedSimpArgs false

set_option maxRecDepth 100000 in
set_option maxHeartbeats 2000000 in
theorem l14Legal_any (la : Option Addr) (lc : Nat) (l : List Op) (oa : Option Addr) (oc : Nat) (od : List Int) (w : World) (hl : Ops w (.slice la l.length lc) l) (hl7 : l.length ≤ 7) (h : Ints w (.slice oa od.length oc) od) (ho : od.length ≤ 7) (hin : ∀ i, i < od.length → 0 ≤ od.getD i 0 ∧ od.getD i 0 < (l.length : Int)) :
    Calls Try.prog 44 #[.slice la l.length lc, .slice oa od.length oc] w fun e w' => e = .returned (.bool (legS l od)) ∧ Below w.heap.size w w' := by
  have HIN := hide hin
  have HHAS := hide (fun (n : Int) (wx : World) (hb : Below w.heap.size w wx) => l10Has_any _ od n wx (h.below hb) (by omega))
  obtain ⟨a', c', e9, hn, hm, hc⟩ := hl
  simp only [Value.slice.injEq] at e9
  obtain ⟨rfl, _, rfl⟩ := e9
  have HC : Hid (l.length = 0 ∨ ∃ b off, la = some ⟨b, off, none⟩ ∧ b < w.heap.size ∧ ∀ i, i < l.length → w.cell? ⟨b, off + i * 4, none⟩ = some (.int .i64 (l.getD i default).bg) ∧ w.cell? ⟨b, off + i * 4 + 1, none⟩ = some (.int .i64 (l.getD i default).en) ∧ w.cell? ⟨b, off + i * 4 + 2, none⟩ = some (.bool (l.getD i default).wr) ∧ w.cell? ⟨b, off + i * 4 + 3, none⟩ = some (.string (l.getD i default).va)) := hide hc
  obtain ⟨a2, c2, e8, hm2, hc2⟩ := h
  simp only [Value.slice.injEq] at e8
  obtain ⟨rfl, _, rfl⟩ := e8
  have HD := hide hc2
  clear hc hn hm hc2 hm2 hin
  have L1 := hide (@legS_yes l od)
  have L2 := hide (fun i => @legS_step l od i)
  have L3 := hide (fun i => @legS_out l od i)
  generalize legS l od = R at *
  go_enter Try.func44, Try.ntmps44
  go_wp2_with fail
  go_loopw [5, 6] (fun va i wr => ∃ k : Nat, k ≤ od.length ∧ i = .int .i64 k ∧ va = .string (valTo l od k) ∧ Hid (∀ j, j < k → stepOK l od j) ∧ Below w.heap.size w wr) (fun _ i _ => od.length - (intOf i).toNat)
  case atStart => exact ⟨0, Nat.zero_le _, rfl, rfl, fun j hj => absurd hj (Nat.not_lt_zero _), Below.refl _ _⟩
  case round =>
    obtain ⟨k, hk, rfl, rfl, HGO, hb⟩ := hrel
    by_cases hlt : k < od.length
    · obtain ⟨hi0, hi1⟩ := unhide HIN k hlt
      obtain ⟨p, hp⟩ : ∃ p : Nat, od.getD k 0 = (p : Int) := ⟨(od.getD k 0).toNat, by omega⟩
      have hpl : p < l.length := by omega
      obtain ⟨b, off, rfl, hbl, hsrc⟩ : ∃ b off, la = some ⟨b, off, none⟩ ∧ b < w.heap.size ∧ ∀ i, i < l.length → w.cell? ⟨b, off + i * 4, none⟩ = some (.int .i64 (l.getD i default).bg) ∧ w.cell? ⟨b, off + i * 4 + 1, none⟩ = some (.int .i64 (l.getD i default).en) ∧ w.cell? ⟨b, off + i * 4 + 2, none⟩ = some (.bool (l.getD i default).wr) ∧ w.cell? ⟨b, off + i * 4 + 3, none⟩ = some (.string (l.getD i default).va) := by
        rcases unhide HC with h0 | h1
        · omega
        · exact h1
      obtain ⟨b2, off2, rfl, hbl2, hsrc2⟩ : ∃ b off, oa = some ⟨b, off, none⟩ ∧ b < w.heap.size ∧ ∀ i, i < od.length → w.cell? ⟨b, off + i, none⟩ = some (.int .i64 (od.getD i 0)) := by
        rcases unhide HD with h0 | h1
        · omega
        · exact h1
      obtain ⟨s0, s1, s2, s3⟩ := hsrc p hpl
      have c0 := (hb.cell (p := ⟨b, off + p * 4, none⟩) hbl).trans s0
      have c1 := (hb.cell (p := ⟨b, off + p * 4 + 1, none⟩) hbl).trans s1
      have c2 := (hb.cell (p := ⟨b, off + p * 4 + 2, none⟩) hbl).trans s2
      have c3 := (hb.cell (p := ⟨b, off + p * 4 + 3, none⟩) hbl).trans s3
      have d0 := (hb.cell (p := ⟨b2, off2 + k, none⟩) hbl2).trans (hsrc2 k hlt)
      rw [hp] at d0
      have hk0 : (0 : Int) ≤ (k : Int) := by omega
      have hk1 : (k : Int) < (od.length : Int) := by omega
      have hp0 : (0 : Int) ≤ (p : Int) := by omega
      have hp1 : (p : Int) < (l.length : Int) := by omega
      have HSRC := hide hsrc
      have HSRC2 := hide hsrc2
      have HACT : Hid (actAt l od k = l.getD p default) := hide (by unfold actAt; rw [hp]; rfl)
      have HP := hide hp
      have HST := hide (fun (hx : stepOK l od k) => show ∀ j, j < k + 1 → stepOK l od j from fun j hj => by
        by_cases e : j = k
        · subst e; exact hx
        · exact unhide HGO j (by omega))
      have HNS := hide (unhide L2 k hlt)
      have HVS : Hid (valTo l od (k + 1) = nextV (l.getD p default) (valTo l od k)) := hide (by rw [← unhide HACT]; rfl)
      have HB := hide hb
      have hbs := hb.size
      generalize hvk : valTo l od k = vk at *
      have HVK := hide hvk
      clear hvk
      clear hb hsrc hsrc2 s0 s1 s2 s3 hi0 hi1 hp HGO
      generalize hff : l.getD p default = f at *
      have HFF := hide hff
      clear hff
      obtain ⟨f0, f1, f2, f3⟩ := f
      dsimp only at c0 c1 c2 c3
      have X0 := hide (Blk.new wr #[.int .i64 f0, .int .i64 f1, .bool f2, .string f3] 50 wr.heap.size rfl)
      have BW0 := hide ((unhide HB).alloc hbs (.cells #[.int .i64 f0, .int .i64 f1, .bool f2, .string f3] 50))
      go_wp2_with fail
      generalize wr.alloc (.cells #[.int .i64 f0, .int .i64 f1, .bool f2, .string f3] 50) = wA at *
      go_loopw [8] (fun i wq => ∃ m : Nat, m ≤ k ∧ i = .int .i64 m ∧ Hid (∀ j, j < m → pairOK l od k j) ∧ Blk wq wr.heap.size [.int .i64 f0, .int .i64 f1, .bool f2, .string f3] ∧ Below w.heap.size w wq) (fun i _ => k - (intOf i).toNat)
      case atStart => exact ⟨0, Nat.zero_le _, rfl, fun j hj => absurd hj (Nat.not_lt_zero _), unhide X0, unhide BW0⟩
      case round =>
        obtain ⟨m, hm, rfl, HIG, hX, hq⟩ := hrel
        by_cases hmk : m < k
        · obtain ⟨hj0, hj1⟩ := unhide HIN m (by omega)
          obtain ⟨q, hqq⟩ : ∃ q : Nat, od.getD m 0 = (q : Int) := ⟨(od.getD m 0).toNat, by omega⟩
          have hql : q < l.length := by omega
          obtain ⟨s0, s1, s2, s3⟩ := unhide HSRC q hql
          have hblq := Nat.lt_of_lt_of_le hbl hq.size
          have hblq2 := Nat.lt_of_lt_of_le hbl2 hq.size
          have t0 := Wb.cell ((hq.cell (p := ⟨b, off + q * 4, none⟩) hbl).trans s0) hblq
          have t1 := Wb.cell ((hq.cell (p := ⟨b, off + q * 4 + 1, none⟩) hbl).trans s1) hblq
          have t2 := Wb.cell ((hq.cell (p := ⟨b, off + q * 4 + 2, none⟩) hbl).trans s2) hblq
          have t3 := Wb.cell ((hq.cell (p := ⟨b, off + q * 4 + 3, none⟩) hbl).trans s3) hblq
          have r0 := Wb.cell (hX.cell 0 rfl) hX.1
          have r1 := Wb.cell (hX.cell 1 rfl) hX.1
          have r2 := Wb.cell (hX.cell 2 rfl) hX.1
          have r3 := Wb.cell (hX.cell 3 rfl) hX.1
          have e0 := Wb.cell ((hq.cell (p := ⟨b2, off2 + k, none⟩) hbl2).trans (unhide HSRC2 k hlt)) hblq2
          have e1 := Wb.cell ((hq.cell (p := ⟨b2, off2 + m, none⟩) hbl2).trans (unhide HSRC2 m (by omega))) hblq2
          have HPK : Hid (pairOK l od k m ↔ (q : Int) ≠ (p : Int) ∧ ahB ⟨f0, f1, f2, f3⟩ (l.getD q default) = false) := hide (by
            unfold pairOK
            rw [unhide HACT, unhide HP, hqq, show actAt l od m = l.getD q default by unfold actAt; rw [hqq]; rfl])
          rw [unhide HP] at e0
          rw [hqq] at e1
          have z0 : (0 : Int) ≤ (m : Int) := by omega
          have z1 : (m : Int) < (od.length : Int) := by omega
          have z2 : (m : Int) < (k : Int) := by omega
          have z3 : (0 : Int) ≤ (q : Int) := by omega
          have z4 : (q : Int) < (l.length : Int) := by omega
          have HAH := hide (fun wx => l14Ahead_any ⟨f0, f1, f2, f3⟩ (l.getD q default) wx)
          have HNB := hide (fun (hx : ¬ pairOK l od k m) => unhide HNS (fun hst => hx (hst.1 m hmk)))
          have HNX := hide (fun (hx : pairOK l od k m) => show ∀ j, j < m + 1 → pairOK l od k j from fun j hj => by
            by_cases e : j = m
            · subst e; exact hx
            · exact unhide HIG j (by omega))
          rw [unhide HPK] at HNB HNX
          have HQ := hide hq
          have HX := hide hX
          clear s0 s1 s2 s3 hblq hblq2 HPK HIG hj0 hj1 hqq hq hX
          generalize l.getD q default = g at *
          generalize ahB _ g = ab at HAH HNB HNX
          obtain ⟨g0, g1, g2, g3⟩ := g
          dsimp only at t0 t1 t2 t3 HAH
          go_wp2_with fail
          by_cases he : (q : Int) = (p : Int)
          · have hbq : ((q : Int) == (p : Int)) = true := by simpa using he
            have E := hide (unhide HNB (fun hx => hx.1 he))
            clear he HNB HNX HAH
            refine wp_region_wb (by kernel_rfl) (by kernel_rfl) ?_
            repeat (go_big_quiet_step (fail))
            refine wpQuiet_nil ?_
            intro _ hw'
            obtain ⟨⟨w1, hb1⟩, rfl⟩ := hw'
            have HBN := hide ((unhide HQ).trans (hb1.mono (unhide HQ).size))
            clear hb1 t0 t1 t2 t3 r0 r1 r2 r3 e0 e1
            go_wp2_with fail
            go_ret
            exact ⟨ret_bool (unhide E).symm, unhide HBN⟩
          · have hbq : ((q : Int) == (p : Int)) = false := by rw [beq_eq_false_iff_ne]; exact he
            have HNB2 := hide (fun (h : ab = true) => unhide HNB (fun hx => by rw [h] at hx; cases hx.2))
            have HNX2 := hide (fun (h : ab = false) => unhide HNX ⟨he, h⟩)
            clear he HNB HNX
            refine wp_region_wb (by kernel_rfl) (by kernel_rfl) ?_
            repeat (go_big_quiet_step ((go_at_call 37; exact wb_of (unhide HAH _))))
            refine wpQuiet_nil ?_
            intro _ hw'
            obtain ⟨⟨w1, hb1⟩, rfl⟩ := hw'
            have HBN := hide (And.intro ((unhide HX).below hb1) ((unhide HQ).trans (hb1.mono (unhide HQ).size)))
            clear hb1 t0 t1 t2 t3 r0 r1 r2 r3 e0 e1 HAH
            cases ab with
            | true =>
              have E := hide (unhide HNB2 rfl)
              go_wp2_with fail
              go_ret
              exact ⟨ret_bool (unhide E).symm, (unhide HBN).2⟩
            | false =>
              have E := hide (unhide HNX2 rfl)
              go_wp2_with fail
              refine ⟨⟨m + 1, by omega, by go_num, E, (unhide HBN).1, (unhide HBN).2⟩, ?_⟩
              simp [intOf]; omega
        · obtain rfl : m = k := by omega
          have x2 := hX.cell 2 rfl
          have x3 := hX.cell 3 rfl
          have HQ := hide hq
          have HSO : Hid (f2 = true ∨ f3 = vk → ∀ j, j < m + 1 → stepOK l od j) := hide (fun h => unhide HST ⟨unhide HIG, by rw [unhide HACT, unhide HVK]; exact h⟩)
          have HSN : Hid (¬ (f2 = true ∨ f3 = vk) → R = false) := hide (fun h => unhide HNS (fun hst => h (by have := hst.2; rw [unhide HACT, unhide HVK] at this; exact this)))
          clear hq hX HIG HST HNS
          cases f2 with
          | true =>
            have E := hide (unhide HSO (.inl rfl))
            have EV : Hid (valTo l od (m + 1) = f3) := hide (by rw [unhide HVS]; rfl)
            go_wp2_with fail
            refine ⟨⟨m + 1, by omega, by go_num, by rw [unhide EV], E, unhide HQ⟩, ?_⟩
            simp [intOf]; omega
          | false =>
            by_cases hv : f3 = vk
            · have E := hide (unhide HSO (.inr hv))
              have EV : Hid (valTo l od (m + 1) = vk) := hide (by rw [unhide HVS]; rfl)
              have q1 := txt_eq hv
              clear hv
              go_wp2_with fail
              refine ⟨⟨m + 1, by omega, by go_num, by rw [unhide EV], E, unhide HQ⟩, ?_⟩
              simp [intOf]; omega
            · have E := hide (unhide HSN (fun h => by rcases h with h | h; (cases h); exact hv h))
              have q1 := txt_ne hv
              clear hv
              go_wp2_with fail
              go_ret
              exact ⟨ret_bool (unhide E).symm, unhide HQ⟩
    · obtain rfl : k = od.length := by omega
      have L1b := hide (unhide L1 (unhide HGO))
      have HB := hide hb
      clear hb HGO L1 L2
      go_wp2_with fail
      go_loopw [9] (fun i wq => ∃ m : Nat, m ≤ l.length ∧ i = .int .i64 m ∧ Hid (∀ j, j < m → 0 ≤ (l.getD j default).en → (j : Int) ∈ od) ∧ Below w.heap.size w wq) (fun i _ => l.length - (intOf i).toNat)
      case atStart => exact ⟨0, Nat.zero_le _, rfl, fun j hj => absurd hj (Nat.not_lt_zero _), unhide HB⟩
      case round =>
        obtain ⟨m, hm, rfl, HIG, hq⟩ := hrel
        by_cases hml : m < l.length
        · obtain ⟨b, off, rfl, hbl, hsrc⟩ : ∃ b off, la = some ⟨b, off, none⟩ ∧ b < w.heap.size ∧ ∀ i, i < l.length → w.cell? ⟨b, off + i * 4, none⟩ = some (.int .i64 (l.getD i default).bg) ∧ w.cell? ⟨b, off + i * 4 + 1, none⟩ = some (.int .i64 (l.getD i default).en) ∧ w.cell? ⟨b, off + i * 4 + 2, none⟩ = some (.bool (l.getD i default).wr) ∧ w.cell? ⟨b, off + i * 4 + 3, none⟩ = some (.string (l.getD i default).va) := by
            rcases unhide HC with h0 | h1
            · omega
            · exact h1
          obtain ⟨s0, s1, s2, s3⟩ := hsrc m hml
          have c1 := (hq.cell (p := ⟨b, off + m * 4 + 1, none⟩) hbl).trans s1
          have z0 : (0 : Int) ≤ (m : Int) := by omega
          have z1 : (m : Int) < (l.length : Int) := by omega
          have HNX := hide (fun (hx : 0 ≤ (l.getD m default).en → (m : Int) ∈ od) => show ∀ j, j < m + 1 → 0 ≤ (l.getD j default).en → (j : Int) ∈ od from fun j hj => by
            by_cases e : j = m
            · subst e; exact hx
            · exact unhide HIG j (by omega))
          have HNB := hide (unhide L3 m hml)
          have HH := hide (unhide HHAS (m : Int) wr hq)
          have HQ := hide hq
          clear hsrc s0 s1 s2 s3 hq HIG
          generalize l.getD m default = f at *
          obtain ⟨f0, f1, f2, f3⟩ := f
          dsimp only at c1 HNX HNB
          by_cases h0 : 0 ≤ f1
          · have HNB2 := hide (unhide HNB h0)
            have HNX2 := hide (fun (h : (m : Int) ∈ od) => unhide HNX (fun _ => h))
            clear HNB HNX
            go_wp2_with fail
            refine (unhide HH).mono ?_
            rintro e w3 ⟨rfl, hw3⟩
            subst w3
            by_cases hin : (m : Int) ∈ od
            · have E := hide (unhide HNX2 hin)
              rw [decide_eq_true hin]
              clear hin HNB2 HNX2
              go_wp2_with fail
              refine ⟨⟨m + 1, by omega, by go_num, E, unhide HQ⟩, ?_⟩
              simp [intOf]; omega
            · have E := hide (unhide HNB2 hin)
              rw [decide_eq_false hin]
              clear hin HNB2 HNX2
              go_wp2_with fail
              go_ret
              exact ⟨ret_bool (unhide E).symm, unhide HQ⟩
          · have E := hide (unhide HNX (fun h => absurd h h0))
            clear HNB HNX HH
            go_wp2_with fail
            refine ⟨⟨m + 1, by omega, by go_num, E, unhide HQ⟩, ?_⟩
            simp [intOf]; omega
        · obtain rfl : m = l.length := by omega
          have E := hide (unhide L1b (unhide HIG))
          have HQ := hide hq
          clear hq HIG
          go_wp2_with fail
          go_ret
          exact ⟨ret_bool (unhide E).symm, unhide HQ⟩
theorem olOut_spec (l : List Op) (od : List Int) : olOut l od = if 4096 < l.length ∨ 4096 < od.length then (false, 2) else if opsB l = false ∨ 7 < od.length then (false, 1) else if outIn l.length od then (false, 4) else (legI l [] ⟨#[]⟩ od, 0) := by
  unfold olOut ofC
  by_cases h1 : 4096 < od.length
  · rw [if_pos h1, if_pos (Or.inr h1)]
  rw [if_neg h1]
  by_cases h2 : 4096 < l.length
  · rw [if_pos h2, if_pos (Or.inl h2)]; simp
  have h12 : ¬ (4096 < l.length ∨ 4096 < od.length) := by omega
  simp only [if_neg h2, if_neg h12]
  cases h3 : opsB l
  · simp
  · by_cases h7 : 7 < od.length
    · simp [h7]
    · simp [h7]
set_option maxRecDepth 100000 in
set_option maxHeartbeats 2000000 in
theorem specOrderLegal_any (lv ov : Value) (l : List Op) (od : List Int) (w : World) (hl : Ops w lv l) (hs : l.length ≤ 1048576) (h : Ints w ov od) (ho : od.length ≤ 1048576) :
    Calls Try.prog 19 #[lv, ov] w fun e w' => e = .returned (.tuple #[.bool (olOut l od).1, .int .i64 (olOut l od).2]) ∧ Below w.heap.size w w' := by
  have HOF := hide (specOpsOK_any lv l w hl hs)
  have HIN := hide (fun wx (hb : Below w.heap.size w wx) => h.below hb)
  have HOP := hide (fun wx (hb : Below w.heap.size w wx) => hl.below hb)
  obtain ⟨la, lc, rfl, _, _, _⟩ := hl
  obtain ⟨oa, oc, rfl, _, hc⟩ := h
  have HD := hide hc
  clear hc
  rw [olOut_spec]
  by_cases h4 : 4096 < l.length ∨ 4096 < od.length
  · rw [if_pos h4]
    by_cases h5 : 4096 < l.length
    · have h6 : (4096 : Int) < (l.length : Int) := by omega
      go_enter Try.func19, Try.ntmps19
      go_wp2_with fail
      refine bodyPost_ret (v := .tuple #[.bool false, .int .i64 2]) (by simp [results, Try.results19, go_sem]) rfl ?_
      exact ⟨rfl, Below.refl _ _⟩
    · have h6 : ¬ (4096 : Int) < (l.length : Int) := by omega
      have h7 : (4096 : Int) < (od.length : Int) := by omega
      go_enter Try.func19, Try.ntmps19
      go_wp2_with fail
      refine bodyPost_ret (v := .tuple #[.bool false, .int .i64 2]) (by simp [results, Try.results19, go_sem]) rfl ?_
      exact ⟨rfl, Below.refl _ _⟩
  rw [if_neg h4]
  have h6 : ¬ (4096 : Int) < (l.length : Int) := by omega
  have h7 : ¬ (4096 : Int) < (od.length : Int) := by omega
  have HLG := hide (fun (hok : opsB l = true) (hd : od.length ≤ 7) (hx : outIn l.length od = false) (wx : World) (hb : Below w.heap.size w wx) => l14Legal_any la lc l oa oc od wx (unhide HOP wx hb) (opsB_at hok).1 (unhide HIN wx hb) hd (outIn_in hx))
  have HEQ := hide (fun (hok : opsB l = true) (hx : outIn l.length od = false) => leg_eq l hok od (outIn_in hx))
  have OY := hide (fun i => @outIn_yes l.length od i)
  have ON := hide (@outIn_no l.length od)
  clear h4
  cases hok : opsB l with
  | false =>
    rw [if_pos (Or.inl rfl)]
    rw [hok] at HOF
    go_enter Try.func19, Try.ntmps19
    go_wp2_with fail
    refine (unhide HOF).mono ?_
    rintro e w1 ⟨rfl, hb1⟩
    have B1 := hide hb1
    clear hb1
    go_wp2_with fail
    refine bodyPost_ret (v := .tuple #[.bool false, .int .i64 1]) (by simp [results, Try.results19, go_sem]) rfl ?_
    exact ⟨rfl, unhide B1⟩
  | true =>
    rw [hok] at HOF
    by_cases h8 : 7 < od.length
    · rw [if_pos (Or.inr h8)]
      have h9 : (7 : Int) < (od.length : Int) := by omega
      go_enter Try.func19, Try.ntmps19
      go_wp2_with fail
      refine (unhide HOF).mono ?_
      rintro e w1 ⟨rfl, hb1⟩
      have B1 := hide hb1
      clear hb1
      go_wp2_with fail
      refine bodyPost_ret (v := .tuple #[.bool false, .int .i64 1]) (by simp [results, Try.results19, go_sem]) rfl ?_
      exact ⟨rfl, unhide B1⟩
    rw [if_neg (fun h => h.elim (fun e => by cases e) h8)]
    have h9 : ¬ (7 : Int) < (od.length : Int) := by omega
    have HLG2 := hide (unhide HLG hok (by omega))
    have HEQ2 := hide (unhide HEQ hok)
    clear HLG HEQ hok HIN HOP
    have hq : IntKind.i64.wrap ((l.length : Int) - 1) = (l.length : Int) - 1 := by
      simp only [IntKind.wrap, IntKind.bits, IntKind.signed]
      simp
      omega
    have HPO : Hid ((outIn l.length od = true → (if outIn l.length od then ((false, 4) : Bool × Int) else (legI l [] ⟨#[]⟩ od, 0)) = (false, 4)) ∧ (outIn l.length od = false → (if outIn l.length od then ((false, 4) : Bool × Int) else (legI l [] ⟨#[]⟩ od, 0)) = (legS l od, 0))) := hide ⟨fun h => by rw [h]; rfl, fun h => by rw [unhide HEQ2 h, h]; rfl⟩
    generalize (if outIn l.length od then ((false, 4) : Bool × Int) else (legI l [] ⟨#[]⟩ od, 0)) = R at *
    clear HEQ2
    go_enter Try.func19, Try.ntmps19
    go_wp2_with fail
    refine (unhide HOF).mono ?_
    rintro e w1 ⟨rfl, hb1⟩
    have B1 := hide hb1
    clear hb1
    go_wp2_with fail
    go_loop [6] (fun i => ∃ k : Nat, k ≤ od.length ∧ i = .int .i64 k ∧ Hid (∀ j, j < k → inB (od.getD j 0) 0 ((l.length : Int) - 1) = true)) (fun i => od.length - (intOf i).toNat)
    case atStart => exact ⟨0, Nat.zero_le _, rfl, fun j hj => absurd hj (Nat.not_lt_zero _)⟩
    case round =>
      obtain ⟨k, hk, rfl, HGO⟩ := hrel
      by_cases hlt : k < od.length
      · obtain ⟨b, off, rfl, hbl, hsrc⟩ : ∃ b off, oa = some ⟨b, off, none⟩ ∧ b < w.heap.size ∧ ∀ i, i < od.length → w.cell? ⟨b, off + i, none⟩ = some (.int .i64 (od.getD i 0)) := by
          rcases unhide HD with h0 | h1
          · omega
          · exact h1
        have c0 := ((unhide B1).cell (p := ⟨b, off + k, none⟩) hbl).trans (hsrc k hlt)
        have hk0 : (0 : Int) ≤ (k : Int) := by omega
        have hk1 : (k : Int) < (od.length : Int) := by omega
        have HY := hide (unhide OY k hlt)
        have HNX := hide (fun (hx : inB (od.getD k 0) 0 ((l.length : Int) - 1) = true) => show ∀ i, i < k + 1 → inB (od.getD i 0) 0 ((l.length : Int) - 1) = true from fun i hi => by
          by_cases e : i = k
          · subst e; exact hx
          · exact unhide HGO i (by omega))
        have HC1 := hide (l01In_any (od.getD k 0) 0 ((l.length : Int) - 1) w1)
        clear hsrc
        generalize inB (od.getD k 0) 0 ((l.length : Int) - 1) = bb at *
        generalize od.getD k 0 = p at *
        go_wp2_with fail
        refine (unhide HC1).mono ?_
        rintro e w' ⟨rfl, hw⟩
        subst w'
        clear HC1
        cases bb with
        | false =>
          have E := hide ((unhide HPO).1 (unhide HY rfl))
          go_wp2_with fail
          refine bodyPost_ret (v := .tuple #[.bool false, .int .i64 4]) (by simp [results, Try.results19, go_sem]) rfl ?_
          exact ⟨by rw [unhide E], unhide B1⟩
        | true =>
          have E := hide (unhide HNX rfl)
          go_wp2_with fail
          refine ⟨⟨k + 1, by omega, by go_num, E⟩, ?_⟩
          simp [intOf]; omega
      · obtain rfl : k = od.length := by omega
        have HA := unhide ON (unhide HGO)
        have E := hide ((unhide HPO).2 HA)
        have HC2 := hide (unhide HLG2 HA w1 (unhide B1))
        clear HA HPO HGO
        generalize legS l od = lg at *
        go_wp2_with fail
        refine (unhide HC2).mono ?_
        rintro e w3 ⟨rfl, hb3⟩
        have B3 := hide ((unhide B1).trans (hb3.mono (unhide B1).size))
        clear hb3
        go_wp2_with fail
        refine bodyPost_ret (v := .tuple #[.bool lg, .int .i64 0]) (by simp [results, Try.results19, go_sem]) rfl ?_
        exact ⟨by rw [unhide E], unhide B3⟩
end Go.Proofs.Ytdlligninjfajaa
