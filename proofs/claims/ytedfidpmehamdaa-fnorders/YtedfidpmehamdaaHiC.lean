/- Histories: an order that is being made of a history's acts (impl.telling): leavesOut, whole, mayTake, with, walked. -/
import Derived.Test.YtedfidpmehamdaaHiA
import Derived.Test.YtedfidpmehamdaaIhas
import Derived.Test.YtedfidpmehamdaaClI
import Derived.Laws.Cover1
namespace Go.Proofs.Ytedfidpmehamdaa
open Go.ChangeShapes Go.WideShapes Go.ChangeAt Go.RowKit Go.Deep
set_option linter.unusedVariables false
set_option linter.unusedSimpArgs false

theorem txt_ne {a b : ByteArray} (h : a ≠ b) : (a.toList == b.toList) = false := by
  rw [beq_eq_false_iff_ne]
  intro e
  apply h
  rw [ByteArray.toList_eq, ByteArray.toList_eq] at e
  exact ByteArray.ext (Array.toList_inj.1 e)
theorem txt_eq {a b : ByteArray} (h : a = b) : (a.toList == b.toList) = true := by rw [h]; simp

/-- All that have ended are in the order. -/
def wholeB (l : List Op) (o : List Int) : Bool := decide (∀ i, i < l.length → 0 ≤ (l.getD i default).en → (i : Int) ∈ o)
/-- The act may go on next. -/
def mayB (l : List Op) (o : List Int) (va : ByteArray) (p : Nat) : Bool :=
  decide (¬ ((p : Int) ∈ o) ∧ ((l.getD p default).wr = true ∨ (l.getD p default).va = va) ∧ ∀ k, k < l.length → ¬ ((k : Int) ∈ o) → ahB (l.getD k default) (l.getD p default) = false)
def nextV (f : Op) (va : ByteArray) : ByteArray := if f.wr then f.va else va

set_option maxRecDepth 100000 in
set_option maxHeartbeats 1000000 in
theorem leavesOut_any (la : Option Addr) (ln lc : Nat) (oa : Option Addr) (on oc : Nat) (va : ByteArray) (o : List Int) (n : Int) (w : World) (h : Ints w (.slice oa on oc) o) (hs : o.length ≤ 4096) :
    Calls Try.prog 47 #[.agg #[.slice la ln lc, .slice oa on oc, .string va], .int .i64 n] w fun e w' => e = .returned (.bool (!decide (n ∈ o))) ∧ Below w.heap.size w w' := by
  have HH := hide (fun wx (hb : Below w.heap.size w wx) => containsInt_any _ o n wx (h.below hb) (by omega))
  clear h
  generalize decide (n ∈ o) = b at *
  have B2 := hide ((Below.refl w.heap.size w).alloc (Nat.le_refl _) (.cells #[.slice la ln lc, .slice oa on oc, .string va] 65))
  go_enter Try.func47, Try.ntmps47
  go_wp2_with fail
  refine (unhide HH _ (unhide B2)).mono ?_
  rintro e w3 ⟨rfl, hw3⟩
  subst w3
  go_wp2_with fail
  go_ret
  exact ⟨rfl, unhide B2⟩
set_option maxRecDepth 100000 in
set_option maxHeartbeats 1000000 in
theorem whole_any (la : Option Addr) (lc : Nat) (l : List Op) (oa : Option Addr) (on oc : Nat) (va : ByteArray) (o : List Int) (w : World) (hl : Ops w (.slice la l.length lc) l) (hs : opsB l = true) (h : Ints w (.slice oa on oc) o) (ho : o.length ≤ 4096) :
    Calls Try.prog 38 #[.agg #[.slice la l.length lc, .slice oa on oc, .string va]] w fun e w' => e = .returned (.bool (wholeB l o)) ∧ Below w.heap.size w w' := by
  have HLO := hide (fun (n : Int) wx (hb : Below w.heap.size w wx) => leavesOut_any la l.length lc oa on oc va o n wx (h.below hb) ho)
  have HOK := hide (opsB_at hs)
  have hl7 := (opsB_at hs).1
  obtain ⟨a', c', e9, hn, hm, hc⟩ := hl
  simp only [Value.slice.injEq] at e9
  obtain ⟨rfl, _, rfl⟩ := e9
  have HC := hide hc
  clear hc hn hm h hs
  have HN := hide (fun (hx : ∀ i, i < l.length → 0 ≤ (l.getD i default).en → (i : Int) ∈ o) => show wholeB l o = true from decide_eq_true hx)
  have HF := hide (fun i (hi : i < l.length) (h0 : 0 ≤ (l.getD i default).en) (hx : ¬ (i : Int) ∈ o) => show wholeB l o = false from decide_eq_false (fun h => hx (h i hi h0)))
  generalize wholeB l o = R at *
  have B2 := hide ((Below.refl w.heap.size w).alloc (Nat.le_refl _) (.cells #[.slice la l.length lc, .slice oa on oc, .string va] 65))
  have X2 := hide (Blk.new w #[.slice la l.length lc, .slice oa on oc, .string va] 65 w.heap.size rfl)
  go_enter Try.func38, Try.ntmps38
  go_wp2_with fail
  generalize w.alloc (.cells #[.slice la l.length lc, .slice oa on oc, .string va] 65) = w2 at *
  go_loopw [7] (fun i wr => ∃ k : Nat, k ≤ l.length ∧ i = .int .i64 k ∧ Hid (∀ i, i < k → 0 ≤ (l.getD i default).en → (i : Int) ∈ o) ∧ Blk wr w.heap.size [.slice la l.length lc, .slice oa on oc, .string va] ∧ Below w.heap.size w wr) (fun i _ => l.length - (intOf i).toNat)
  case atStart => exact ⟨0, Nat.zero_le _, rfl, fun j hj => absurd hj (Nat.not_lt_zero _), unhide X2, unhide B2⟩
  case round =>
    obtain ⟨k, hk, rfl, HGO, hX, hb⟩ := hrel
    by_cases hlt : k < l.length
    · obtain ⟨b, off, rfl, hbl, hsrc⟩ : ∃ b off, la = some ⟨b, off, none⟩ ∧ b < w.heap.size ∧ ∀ i, i < l.length → w.cell? ⟨b, off + i * 4, none⟩ = some (.int .i64 (l.getD i default).bg) ∧ w.cell? ⟨b, off + i * 4 + 1, none⟩ = some (.int .i64 (l.getD i default).en) ∧ w.cell? ⟨b, off + i * 4 + 2, none⟩ = some (.bool (l.getD i default).wr) ∧ w.cell? ⟨b, off + i * 4 + 3, none⟩ = some (.string (l.getD i default).va) := by
        rcases unhide HC with h0 | h1
        · omega
        · exact h1
      obtain ⟨s0, s1, s2, s3⟩ := hsrc k hlt
      have c0 := (hb.cell (p := ⟨b, off + k * 4, none⟩) hbl).trans s0
      have c1 := (hb.cell (p := ⟨b, off + k * 4 + 1, none⟩) hbl).trans s1
      have c2 := (hb.cell (p := ⟨b, off + k * 4 + 2, none⟩) hbl).trans s2
      have c3 := (hb.cell (p := ⟨b, off + k * 4 + 3, none⟩) hbl).trans s3
      have hk0 : (0 : Int) ≤ (k : Int) := by omega
      have hk1 : (k : Int) < (l.length : Int) := by omega
      have x0 := hX.cell 0 rfl
      have HY := hide (unhide HF k hlt)
      have HNX := hide (fun (hx : 0 ≤ (l.getD k default).en → (k : Int) ∈ o) => show ∀ i, i < k + 1 → 0 ≤ (l.getD i default).en → (i : Int) ∈ o from fun i hi => by
          by_cases e : i = k
          · subst e; exact hx
          · exact unhide HGO i (by omega))
      have HEN := hide (opB_en ((unhide HOK).2 k hlt))
      have HBG := hide (opB_bg ((unhide HOK).2 k hlt))
      have HB := hide hb
      have HX := hide hX
      clear hb hsrc s0 s1 s2 s3 hX
      generalize l.getD k default = f at *
      obtain ⟨f0, f1, f2, f3⟩ := f
      dsimp only at c0 c1 c2 c3 HY HNX HEN HBG
      go_wp2_with fail
      refine (hasEnded_any f0 f1 f2 f3 wr).mono ?_
      rintro e w3 ⟨rfl, hb3⟩
      have HX3 := hide ((unhide HX).below hb3)
      have HB3 := hide ((unhide HB).trans (hb3.mono (unhide HB).size))
      clear hb3 x0
      have x0 := (unhide HX3).cell 0 rfl
      have x1 := (unhide HX3).cell 1 rfl
      have x2 := (unhide HX3).cell 2 rfl
      by_cases h1 : f1 = -1
      · have d1 : decide (f1 ≠ -1) = false := by simp [h1]
        rw [d1]
        have EN := hide (unhide HNX (fun h => by omega))
        clear d1 h1 HY HNX HEN HBG
        go_wp2_with fail
        refine ⟨⟨k + 1, by omega, by go_num, EN, unhide HX3, unhide HB3⟩, ?_⟩
        simp [intOf]; omega
      · have d1 : decide (f1 ≠ -1) = true := by simp [h1]
        rw [d1]
        have h2 : 0 ≤ f1 := by have := unhide HEN; have := unhide HBG; omega
        clear d1 h1 HEN HBG
        have HC2 := hide (unhide HLO (k : Int) w3 (unhide HB3))
        go_wp2_with fail
        refine (unhide HC2).mono ?_
        rintro e w4 ⟨rfl, hb4⟩
        have HX4 := hide ((unhide HX3).below hb4)
        have HB4 := hide ((unhide HB3).trans (hb4.mono (unhide HB3).size))
        clear hb4 x0 x1 x2 HC2
        by_cases hin : (k : Int) ∈ o
        · have EN := hide (unhide HNX (fun _ => hin))
          rw [decide_eq_true hin]
          clear hin HY HNX
          go_wp2_with fail
          refine ⟨⟨k + 1, by omega, by go_num, EN, unhide HX4, unhide HB4⟩, ?_⟩
          simp [intOf]; omega
        · have EN := hide (unhide HY h2 hin)
          rw [decide_eq_false hin]
          clear hin HY HNX
          go_wp2_with fail
          go_ret
          exact ⟨ret_bool (unhide EN).symm, unhide HB4⟩
    · obtain rfl : k = l.length := by omega
      have EN := hide (unhide HN (unhide HGO))
      have HB := hide hb
      clear hb hX
      go_wp2_with fail
      go_ret
      exact ⟨ret_bool (unhide EN).symm, unhide HB⟩
theorem may_out {l : List Op} {o : List Int} {va : ByteArray} {p : Nat} (h : (p : Int) ∈ o) : mayB l o va p = false := decide_eq_false (fun hx => hx.1 h)
theorem may_val {l : List Op} {o : List Int} {va : ByteArray} {p : Nat} (h : (l.getD p default).wr = false) (h2 : (l.getD p default).va ≠ va) : mayB l o va p = false := decide_eq_false (fun hx => by
  rcases hx.2.1 with h3 | h3
  · rw [h] at h3; cases h3
  · exact h2 h3)
theorem may_ah {l : List Op} {o : List Int} {va : ByteArray} {p k : Nat} (hk : k < l.length) (h : ¬ (k : Int) ∈ o) (h2 : ahB (l.getD k default) (l.getD p default) = true) : mayB l o va p = false := decide_eq_false (fun hx => by
  rw [hx.2.2 k hk h] at h2; cases h2)
theorem may_yes {l : List Op} {o : List Int} {va : ByteArray} {p : Nat} (h1 : ¬ (p : Int) ∈ o) (h2 : (l.getD p default).wr = true ∨ (l.getD p default).va = va) (h3 : ∀ k, k < l.length → ¬ ((k : Int) ∈ o) → ahB (l.getD k default) (l.getD p default) = false) : mayB l o va p = true := decide_eq_true ⟨h1, h2, h3⟩
set_option maxRecDepth 100000 in
set_option maxHeartbeats 2000000 in
theorem mayTake_any (la : Option Addr) (lc : Nat) (l : List Op) (oa : Option Addr) (on oc : Nat) (va : ByteArray) (o : List Int) (p : Nat) (hp : p < l.length) (w : World) (hl : Ops w (.slice la l.length lc) l) (hs : opsB l = true) (h : Ints w (.slice oa on oc) o) (ho : o.length ≤ 4096) :
    Calls Try.prog 39 #[.agg #[.slice la l.length lc, .slice oa on oc, .string va], .int .i64 p] w fun e w' => e = .returned (.bool (mayB l o va p)) ∧ Below w.heap.size w w' := by
  have HLO := hide (fun (n : Int) wx (hb : Below w.heap.size w wx) => leavesOut_any la l.length lc oa on oc va o n wx (h.below hb) ho)
  have HOK := hide (opsB_at hs)
  have hl7 := (opsB_at hs).1
  obtain ⟨a', c', e9, hn, hm, hc⟩ := hl
  simp only [Value.slice.injEq] at e9
  obtain ⟨rfl, _, rfl⟩ := e9
  obtain ⟨b, off, rfl, hbl, hsrc⟩ : ∃ b off, la = some ⟨b, off, none⟩ ∧ b < w.heap.size ∧ ∀ i, i < l.length → w.cell? ⟨b, off + i * 4, none⟩ = some (.int .i64 (l.getD i default).bg) ∧ w.cell? ⟨b, off + i * 4 + 1, none⟩ = some (.int .i64 (l.getD i default).en) ∧ w.cell? ⟨b, off + i * 4 + 2, none⟩ = some (.bool (l.getD i default).wr) ∧ w.cell? ⟨b, off + i * 4 + 3, none⟩ = some (.string (l.getD i default).va) := by
    rcases hc with h0 | h1
    · omega
    · exact h1
  have HC := hide hsrc
  have M1 := hide (@may_out l o va p)
  have M2 := hide (@may_val l o va p)
  have M3 := hide (fun k => @may_ah l o va p k)
  have M4 := hide (@may_yes l o va p)
  generalize mayB l o va p = R at *
  obtain ⟨s0, s1, s2, s3⟩ := hsrc p hp
  clear hc hn hm h hs hsrc
  have hk0 : (0 : Int) ≤ (p : Int) := by omega
  have hk1 : (p : Int) < (l.length : Int) := by omega
  generalize hgg : l.getD p default = g at *
  have HGG := hide hgg
  clear hgg
  obtain ⟨g0, g1, g2, g3⟩ := g
  dsimp only at s0 s1 s2 s3 M2 M4
  have B2 := hide (((Below.refl w.heap.size w).alloc (Nat.le_refl _) (.cells #[.slice (some ⟨b, off, none⟩) l.length lc, .slice oa on oc, .string va] 65)).alloc (by simp) (.cells #[.int .i64 g0, .int .i64 g1, .bool g2, .string g3] 39))
  have X2 := hide ((Blk.new w #[.slice (some ⟨b, off, none⟩) l.length lc, .slice oa on oc, .string va] 65 w.heap.size rfl).alloc (.cells #[.int .i64 g0, .int .i64 g1, .bool g2, .string g3] 39))
  have Y2 := hide (Blk.new (w.alloc (.cells #[.slice (some ⟨b, off, none⟩) l.length lc, .slice oa on oc, .string va] 65)) #[.int .i64 g0, .int .i64 g1, .bool g2, .string g3] 39 (w.heap.size + 1) (by simp))
  go_enter Try.func39, Try.ntmps39
  go_wp2_with fail
  generalize (w.alloc (.cells #[.slice (some ⟨b, off, none⟩) l.length lc, .slice oa on oc, .string va] 65)).alloc (.cells #[.int .i64 g0, .int .i64 g1, .bool g2, .string g3] 39) = w2 at *
  refine (unhide HLO (p : Int) w2 (unhide B2)).mono ?_
  rintro e w3 ⟨rfl, hb3⟩
  have X3 := hide ((unhide X2).below hb3)
  have Y3 := hide ((unhide Y2).below hb3)
  have B3 := hide ((unhide B2).trans (hb3.mono (unhide B2).size))
  clear hb3 X2 Y2 B2
  have x0 := (unhide X3).cell 0 rfl
  have x2 := (unhide X3).cell 2 rfl
  have y2 := (unhide Y3).cell 2 rfl
  have y3 := (unhide Y3).cell 3 rfl
  by_cases hpo : (p : Int) ∈ o
  · have E := hide (unhide M1 hpo)
    rw [decide_eq_true hpo]
    clear M1 M2 M3 M4 hpo
    go_wp2_with fail
    go_ret
    exact ⟨ret_bool (unhide E).symm, unhide B3⟩
  rw [decide_eq_false hpo]
  by_cases hv : g2 = false ∧ g3 ≠ va
  · obtain ⟨rfl, hv2⟩ := hv
    have E := hide (unhide M2 rfl hv2)
    have q1 := txt_ne hv2
    clear M1 M2 M3 M4 hpo hv2
    go_wp2_with fail
    go_ret
    exact ⟨ret_bool (unhide E).symm, unhide B3⟩
  have HV : g2 = true ∨ (g2 = false ∧ g3 = va) := by
    cases g2
    · right
      by_cases e : g3 = va
      · exact ⟨rfl, e⟩
      · exact absurd ⟨rfl, e⟩ hv
    · exact .inl rfl
  have HR := hide (fun h3 => unhide M4 hpo (HV.elim .inl (fun e => .inr e.2)) h3)
  have q1 : g2 = false → (g3.toList == va.toList) = true := fun e => by
    rcases HV with e2 | e2
    · rw [e2] at e; cases e
    · exact txt_eq e2.2
  clear hv M1 M2 M4 hpo HV
  have HX3 := hide (unhide X3)
  cases g2 with
  | true => ?_
  | false => ?_
  all_goals
    have q2 := q1
    simp only [true_implies, forall_const, reduceCtorEq, false_implies] at q2
    clear q1
    go_wp2_with fail
    go_loopw [31] (fun i wr => ∃ k : Nat, k ≤ l.length ∧ i = .int .i64 k ∧ Hid (∀ k2, k2 < k → ¬ ((k2 : Int) ∈ o) → ahB (l.getD k2 default) (l.getD p default) = false) ∧ Blk wr w.heap.size [.slice (some ⟨b, off, none⟩) l.length lc, .slice oa on oc, .string va] ∧ Blk wr (w.heap.size + 1) [.int .i64 g0, .int .i64 g1, .bool _, .string g3] ∧ Below w.heap.size w wr) (fun i _ => l.length - (intOf i).toNat)
    case atStart => exact ⟨0, Nat.zero_le _, rfl, fun j hj => absurd hj (Nat.not_lt_zero _), unhide X3, unhide Y3, unhide B3⟩
    case round =>
      obtain ⟨k, hk, rfl, HGO, hX, hY, hb⟩ := hrel
      by_cases hlt : k < l.length
      · obtain ⟨s0, s1, s2, s3⟩ := unhide HC k hlt
        have hbl2 := Nat.lt_of_lt_of_le hbl hb.size
        have t0 := Wb.cell ((hb.cell (p := ⟨b, off + k * 4, none⟩) hbl).trans s0) hbl2
        have t1 := Wb.cell ((hb.cell (p := ⟨b, off + k * 4 + 1, none⟩) hbl).trans s1) hbl2
        have t2 := Wb.cell ((hb.cell (p := ⟨b, off + k * 4 + 2, none⟩) hbl).trans s2) hbl2
        have t3 := Wb.cell ((hb.cell (p := ⟨b, off + k * 4 + 3, none⟩) hbl).trans s3) hbl2
        have r0 := Wb.cell (hX.cell 0 rfl) hX.1
        have r1 := Wb.cell (hX.cell 1 rfl) hX.1
        have r2 := Wb.cell (hX.cell 2 rfl) hX.1
        have v0 := Wb.cell (hY.cell 0 rfl) hY.1
        have v1 := Wb.cell (hY.cell 1 rfl) hY.1
        have v2 := Wb.cell (hY.cell 2 rfl) hY.1
        have v3 := Wb.cell (hY.cell 3 rfl) hY.1
        have z0 : (0 : Int) ≤ (k : Int) := by omega
        have z1 : (k : Int) < (l.length : Int) := by omega
        have HLk := hide (fun q : Wb wr => unhide HLO (k : Int) q.at_ (hb.trans (q.below.mono hb.size)))
        have HAH := hide (fun wx => isAhead_any (l.getD k default) (l.getD p default) wx (by have h1 := opB_en ((unhide HOK).2 k hlt); have h2 := opB_bg ((unhide HOK).2 k hlt); omega))
        have HM := hide (unhide M3 k hlt)
        have HNX := hide (fun (hx : ¬ ((k : Int) ∈ o) → ahB (l.getD k default) (l.getD p default) = false) => show ∀ k2, k2 < k + 1 → ¬ ((k2 : Int) ∈ o) → ahB (l.getD k2 default) (l.getD p default) = false from fun i hi => by
          by_cases e : i = k
          · subst e; exact hx
          · exact unhide HGO i (by omega))
        rw [unhide HGG] at HAH
        have HB := hide hb
        have HX := hide hX
        have HY := hide hY
        clear hb hX hY s0 s1 s2 s3 HGO
        have HNX2 := hide (fun (hx : ¬ ((k : Int) ∈ o) → ahB (l.getD k default) _ = false) => unhide HNX (by rw [unhide HGG]; exact hx))
        clear HNX
        generalize l.getD k default = f at *
        generalize ahB f _ = ab at HAH HM HNX2
        obtain ⟨f0, f1, f2, f3⟩ := f
        dsimp only at t0 t1 t2 t3 HAH
        go_wp2_with fail
        by_cases hin : (k : Int) ∈ o
        · rw [decide_eq_true hin, Bool.not_true] at HLk
          have EN := hide (unhide HNX2 (fun h => absurd hin h))
          clear hin HM HNX2 HAH
          refine wp_region_wb (by kernel_rfl) (by kernel_rfl) ?_
          repeat (go_big_quiet_step ((go_at_call 47; exact wb_of (unhide HLk _))))
          refine wpQuiet_nil ?_
          intro _ hw'
          obtain ⟨⟨w1, hb1⟩, rfl⟩ := hw'
          have HBN := hide (And.intro ((unhide HX).below hb1) (And.intro ((unhide HY).below hb1) ((unhide HB).trans (hb1.mono (unhide HB).size))))
          clear hb1 HLk t0 t1 t2 t3 r0 r1 r2 v0 v1 v2 v3
          go_wp2_with fail
          refine ⟨⟨k + 1, by omega, by go_num, EN, (unhide HBN).1, (unhide HBN).2.1, (unhide HBN).2.2⟩, ?_⟩
          simp [intOf]; omega
        · rw [decide_eq_false hin, Bool.not_false] at HLk
          have HM2 := hide (unhide HM hin)
          have EN := hide (fun h => unhide HNX2 (fun _ => h))
          clear hin HM HNX2
          refine wp_region_wb (by kernel_rfl) (by kernel_rfl) ?_
          repeat (go_big_quiet_step (first | (go_at_call 47; exact wb_of (unhide HLk _)) | (go_at_call 30; exact wb_of (unhide HAH _))))
          refine wpQuiet_nil ?_
          intro _ hw'
          obtain ⟨⟨w1, hb1⟩, rfl⟩ := hw'
          have HBN := hide (And.intro ((unhide HX).below hb1) (And.intro ((unhide HY).below hb1) ((unhide HB).trans (hb1.mono (unhide HB).size))))
          clear hb1 HLk HAH t0 t1 t2 t3 r0 r1 r2 v0 v1 v2 v3
          cases ab with
          | true =>
            have E9 := hide (unhide HM2 rfl)
            go_wp2_with fail
            go_ret
            exact ⟨ret_bool (unhide E9).symm, (unhide HBN).2.2⟩
          | false =>
            have E9 := hide (unhide EN rfl)
            go_wp2_with fail
            refine ⟨⟨k + 1, by omega, by go_num, E9, (unhide HBN).1, (unhide HBN).2.1, (unhide HBN).2.2⟩, ?_⟩
            simp [intOf]; omega
      · obtain rfl : k = l.length := by omega
        have EN := hide (unhide HR (fun k2 h2 h3 => by have h4 := unhide HGO k2 h2 h3; rw [unhide HGG] at h4; exact h4))
        have HB := hide hb
        clear hb hX hY
        go_wp2_with fail
        go_ret
        exact ⟨ret_bool (unhide EN).symm, unhide HB⟩
end Go.Proofs.Ytedfidpmehamdaa
