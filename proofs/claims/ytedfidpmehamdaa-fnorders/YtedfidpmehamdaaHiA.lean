/- Histories: which acts are right, who is ahead: impl.opOK, hasEnded, isAhead, OpsOK, opsFault, spec.OpsOK, l14Ahead, walked. -/
import Derived.Test.YtedfidpmehamdaaOpl
import Derived.Test.YtedfidpmehamdaaIn
import Derived.Test.YtedfidpmehamdaaQb
namespace Go.Proofs.Ytedfidpmehamdaa
open Go.ChangeShapes Go.WideShapes Go.ChangeAt Go.RowKit Go.Deep
set_option linter.unusedVariables false
set_option linter.unusedSimpArgs false

def opB (f : Op) : Bool := inB f.bg 0 1000000 && (decide (f.en = -1) || inB f.en (f.bg + 1) 1000001) && decide (f.va.size ≤ 60)
def ahB (f g : Op) : Bool := decide (0 ≤ f.en) && decide (f.en < g.bg)
theorem opB_en {f : Op} (h : opB f = true) : f.en = -1 ∨ f.bg < f.en := by
  simp only [opB, Bool.and_eq_true, Bool.or_eq_true, decide_eq_true_eq, inB_iff] at h
  omega
theorem opB_bg {f : Op} (h : opB f = true) : 0 ≤ f.bg ∧ f.bg ≤ 1000000 := by
  simp only [opB, Bool.and_eq_true, Bool.or_eq_true, decide_eq_true_eq, inB_iff] at h
  omega
def opsB (l : List Op) : Bool := decide (l.length ≤ 7 ∧ ∀ i, i < l.length → opB (l.getD i default) = true)
theorem opsB_at {l : List Op} (h : opsB l = true) : l.length ≤ 7 ∧ ∀ i, i < l.length → opB (l.getD i default) = true := of_decide_eq_true h

set_option maxRecDepth 100000 in
theorem hasEnded_any (f0 f1 : Int) (f2 : Bool) (f3 : ByteArray) (w : World) :
    Calls Try.prog 43 #[.agg #[.int .i64 f0, .int .i64 f1, .bool f2, .string f3]] w fun e w' => e = .returned (.bool (decide (f1 ≠ -1))) ∧ Below w.heap.size w w' := by
  by_cases h : f1 = -1
  · have E : Hid (decide (f1 ≠ -1) = false) := hide (by simp [h])
    have b1 : (f1 != -1) = false := by simp [h]
    go_enter Try.func43, Try.ntmps43
    go_wp2_with fail
    go_ret
    exact ⟨ret_bool (unhide E).symm, (Below.refl _ _).alloc (Nat.le_refl _) _⟩
  · have E : Hid (decide (f1 ≠ -1) = true) := hide (by simp [h])
    have b1 : (f1 != -1) = true := by simp [h]
    go_enter Try.func43, Try.ntmps43
    go_wp2_with fail
    go_ret
    exact ⟨ret_bool (unhide E).symm, (Below.refl _ _).alloc (Nat.le_refl _) _⟩
set_option maxRecDepth 100000 in
set_option maxHeartbeats 1000000 in
theorem isAhead_any (f g : Op) (w : World) (hf : f.en = -1 ∨ 0 ≤ f.en) :
    Calls Try.prog 30 #[.agg #[.int .i64 f.bg, .int .i64 f.en, .bool f.wr, .string f.va], .agg #[.int .i64 g.bg, .int .i64 g.en, .bool g.wr, .string g.va]] w fun e w' => e = .returned (.bool (ahB f g)) ∧ Below w.heap.size w w' := by
  obtain ⟨f0, f1, f2, f3⟩ := f
  obtain ⟨g0, g1, g2, g3⟩ := g
  dsimp only at hf ⊢
  have HH := hide (fun wx => hasEnded_any f0 f1 f2 f3 wx)
  have E2 : Hid (decide (f1 ≠ -1) = decide (0 ≤ f1)) := hide (by
    have : (f1 ≠ -1) = (0 ≤ f1) := propext (by constructor <;> intro h <;> omega)
    simp only [this])
  clear hf
  rw [unhide E2] at HH
  clear E2
  have B2 := hide (((Below.refl w.heap.size w).alloc (Nat.le_refl _) (.cells #[.int .i64 f0, .int .i64 f1, .bool f2, .string f3] 39)).alloc (by simp) (.cells #[.int .i64 g0, .int .i64 g1, .bool g2, .string g3] 39))
  have X := hide ((Blk.new w #[.int .i64 f0, .int .i64 f1, .bool f2, .string f3] 39 w.heap.size rfl).alloc (.cells #[.int .i64 g0, .int .i64 g1, .bool g2, .string g3] 39))
  have Y := hide (Blk.new (w.alloc (.cells #[.int .i64 f0, .int .i64 f1, .bool f2, .string f3] 39)) #[.int .i64 g0, .int .i64 g1, .bool g2, .string g3] 39 (w.heap.size + 1) (by simp))
  go_enter Try.func30, Try.ntmps30
  go_wp2_with fail
  generalize (w.alloc (.cells #[.int .i64 f0, .int .i64 f1, .bool f2, .string f3] 39)).alloc (.cells #[.int .i64 g0, .int .i64 g1, .bool g2, .string g3] 39) = w2 at *
  refine (unhide HH w2).mono ?_
  rintro e w3 ⟨rfl, hb3⟩
  have B3 := hide ((unhide B2).trans (hb3.mono (unhide B2).size))
  have x1 := ((unhide X).below hb3).cell 1 rfl
  have y0 := ((unhide Y).below hb3).cell 0 rfl
  clear hb3 B2 X Y HH
  by_cases h0 : 0 ≤ f1
  · have E : Hid (ahB ⟨f0, f1, f2, f3⟩ ⟨g0, g1, g2, g3⟩ = decide (f1 < g0)) := hide (by simp [ahB, h0])
    rw [decide_eq_true h0]
    go_wp2_with fail
    go_ret
    exact ⟨ret_bool (unhide E).symm, unhide B3⟩
  · have E : Hid (ahB ⟨f0, f1, f2, f3⟩ ⟨g0, g1, g2, g3⟩ = false) := hide (by simp [ahB, h0])
    rw [decide_eq_false h0]
    go_wp2_with fail
    go_ret
    exact ⟨ret_bool (unhide E).symm, unhide B3⟩
set_option maxRecDepth 100000 in
set_option maxHeartbeats 1000000 in
theorem l14Ahead_any (f g : Op) (w : World) :
    Calls Try.prog 31 #[.agg #[.int .i64 f.bg, .int .i64 f.en, .bool f.wr, .string f.va], .agg #[.int .i64 g.bg, .int .i64 g.en, .bool g.wr, .string g.va]] w fun e w' => e = .returned (.bool (ahB f g)) ∧ Below w.heap.size w w' := by
  obtain ⟨f0, f1, f2, f3⟩ := f
  obtain ⟨g0, g1, g2, g3⟩ := g
  dsimp only
  have B2 := hide (((Below.refl w.heap.size w).alloc (Nat.le_refl _) (.cells #[.int .i64 f0, .int .i64 f1, .bool f2, .string f3] 39)).alloc (by simp) (.cells #[.int .i64 g0, .int .i64 g1, .bool g2, .string g3] 39))
  by_cases h0 : 0 ≤ f1
  · have E : Hid (ahB ⟨f0, f1, f2, f3⟩ ⟨g0, g1, g2, g3⟩ = decide (f1 < g0)) := hide (by simp [ahB, h0])
    go_enter Try.func31, Try.ntmps31
    go_wp2_with fail
    go_ret
    exact ⟨ret_bool (unhide E).symm, unhide B2⟩
  · have E : Hid (ahB ⟨f0, f1, f2, f3⟩ ⟨g0, g1, g2, g3⟩ = false) := hide (by simp [ahB, h0])
    go_enter Try.func31, Try.ntmps31
    go_wp2_with fail
    go_ret
    exact ⟨ret_bool (unhide E).symm, unhide B2⟩
set_option maxRecDepth 100000 in
set_option maxHeartbeats 1000000 in
theorem opOK_any (f : Op) (w : World) :
    Calls Try.prog 25 #[.agg #[.int .i64 f.bg, .int .i64 f.en, .bool f.wr, .string f.va]] w fun e w' => e = .returned (.bool (opB f)) ∧ Below w.heap.size w w' := by
  obtain ⟨f0, f1, f2, f3⟩ := f
  dsimp only
  have HH := hide (fun wx => hasEnded_any f0 f1 f2 f3 wx)
  have B2 := hide ((Below.refl w.heap.size w).alloc (Nat.le_refl _) (.cells #[.int .i64 f0, .int .i64 f1, .bool f2, .string f3] 39))
  have X := hide (Blk.new w #[.int .i64 f0, .int .i64 f1, .bool f2, .string f3] 39 w.heap.size rfl)
  have E : Hid (opB ⟨f0, f1, f2, f3⟩ = (inB f0 0 1000000 && (decide (f1 = -1) || inB f1 (f0 + 1) 1000001) && decide (f3.size ≤ 60))) := rfl
  go_enter Try.func25, Try.ntmps25
  go_wp2_with fail
  refine (within_any f0 0 1000000 _).mono ?_
  rintro e w3 ⟨rfl, hw3⟩
  subst w3
  by_cases hb : inB f0 0 1000000 = true
  · have hb1 := (inB_iff.1 hb)
    have q1 : IntKind.i64.wrap (f0 + 1) = f0 + 1 := wrapOp _ (by omega) (by omega)
    rw [hb] at E ⊢
    clear hb
    go_wp2_with fail
    generalize w.alloc (.cells #[.int .i64 f0, .int .i64 f1, .bool f2, .string f3] 39) = w2 at *
    refine (unhide HH w2).mono ?_
    rintro e w3 ⟨rfl, hb3⟩
    have B3 := hide ((unhide B2).trans (hb3.mono (unhide B2).size))
    have X3 := (unhide X).below hb3
    have x0 := X3.cell 0 rfl
    have x1 := X3.cell 1 rfl
    have x3 := X3.cell 3 rfl
    clear hb3 B2 X HH X3
    by_cases h1 : f1 = -1
    · have d1 : decide (f1 ≠ -1) = false := by simp [h1]
      have d2 : decide (f1 = -1) = true := by simp [h1]
      rw [d1]
      rw [d2] at E
      clear d1 d2 h1
      go_wp2_with fail
      go_ret
      exact ⟨ret_bool (by rw [unhide E]; simp <;> omega), unhide B3⟩
    · have d1 : decide (f1 ≠ -1) = true := by simp [h1]
      have d2 : decide (f1 = -1) = false := by simp [h1]
      rw [d1]
      rw [d2] at E
      clear d1 d2 h1
      go_wp2_with fail
      refine (within_any f1 (f0 + 1) 1000001 _).mono ?_
      rintro e w4 ⟨rfl, hw4⟩
      subst w4
      by_cases h2 : inB f1 (f0 + 1) 1000001 = true
      · rw [h2] at E ⊢
        go_wp2_with fail
        go_ret
        exact ⟨ret_bool (by rw [unhide E]; simp <;> omega), unhide B3⟩
      · have h3 : inB f1 (f0 + 1) 1000001 = false := by simpa using h2
        rw [h3] at E ⊢
        go_wp2_with fail
        go_ret
        exact ⟨ret_bool (by rw [unhide E]; simp <;> omega), unhide B3⟩
  · have h3 : inB f0 0 1000000 = false := by simpa using hb
    rw [h3] at E ⊢
    go_wp2_with fail
    go_ret
    exact ⟨ret_bool (by rw [unhide E]; simp <;> omega), unhide B2⟩
set_option maxRecDepth 100000 in
theorem opsOK1_any (f : Op) (w : World) :
    Calls Try.prog 24 #[.agg #[.int .i64 f.bg, .int .i64 f.en, .bool f.wr, .string f.va]] w fun e w' => e = .returned (.bool (!opB f)) ∧ Below w.heap.size w w' := by
  have HH := hide (fun wx => opOK_any f wx)
  generalize opB f = b at *
  obtain ⟨f0, f1, f2, f3⟩ := f
  dsimp only at HH ⊢
  have B2 := hide ((Below.refl w.heap.size w).alloc (Nat.le_refl _) (.cells #[.int .i64 f0, .int .i64 f1, .bool f2, .string f3] 39))
  go_enter Try.func24, Try.ntmps24
  go_wp2_with fail
  refine (unhide HH _).mono ?_
  rintro e w3 ⟨rfl, hb3⟩
  have B3 := hide ((unhide B2).trans (hb3.mono (unhide B2).size))
  clear hb3 B2 HH
  go_wp2_with fail
  go_ret
  exact ⟨rfl, unhide B3⟩
/-- One of the acts is not right. -/
def badIn (l : List Op) : Bool := decide (∃ i, i < l.length ∧ opB (l.getD i default) = false)
theorem badIn_yes {l : List Op} {i : Nat} (hi : i < l.length) (h : opB (l.getD i default) = false) : badIn l = true := decide_eq_true ⟨i, hi, h⟩
theorem badIn_no {l : List Op} (h : ∀ i, i < l.length → opB (l.getD i default) = true) : badIn l = false := decide_eq_false (fun ⟨i, hi, e⟩ => by rw [h i hi] at e; cases e)
theorem opsB_bad (l : List Op) : opsB l = (decide (l.length ≤ 7) && !badIn l) := by
  by_cases h : badIn l = true
  · obtain ⟨i, hi, e⟩ := of_decide_eq_true h
    have : opsB l = false := decide_eq_false (fun hx => by rw [hx.2 i hi] at e; cases e)
    rw [this, h]; simp
  · have h0 : badIn l = false := by simpa using h
    have hn := of_decide_eq_false h0
    rw [h0]
    by_cases hl : l.length ≤ 7
    · rw [decide_eq_true hl]
      refine (decide_eq_true ⟨hl, fun i hi => ?_⟩)
      cases e : opB (l.getD i default)
      · exact absurd ⟨i, hi, e⟩ hn
      · rfl
    · rw [decide_eq_false hl]
      exact decide_eq_false (fun hx => hl hx.1)
set_option maxRecDepth 100000 in
set_option maxHeartbeats 1000000 in
theorem indexFuncO_any (v : Value) (l : List Op) (w : World) (h : Ops w v l) (hs : l.length ≤ 1048576) :
    Calls Try.prog 42 #[v, .func (.func 24) #[] #[]] w fun e w' => ∃ r : Int, e = .returned (.int .i64 r) ∧ (0 ≤ r ↔ badIn l = true) ∧ Below w.heap.size w w' := by
  obtain ⟨a, cap, rfl, hn, hm, hc⟩ := h
  have HC := hide hc
  clear hc hm hn
  go_enter Try.func42, Try.ntmps42
  go_wp2_with fail
  go_loopw [8] (fun i wr => ∃ k : Nat, k ≤ l.length ∧ i = .int .i64 k ∧ Hid (∀ j, j < k → opB (l.getD j default) = true) ∧ Below w.heap.size w wr) (fun i _ => l.length - (intOf i).toNat)
  case atStart => exact ⟨0, Nat.zero_le _, rfl, fun j hj => absurd hj (Nat.not_lt_zero _), Below.refl _ _⟩
  case round =>
    obtain ⟨k, hk, rfl, HGO, hb⟩ := hrel
    by_cases hlt : k < l.length
    · obtain ⟨b, off, rfl, hbl, hsrc⟩ : ∃ b off, a = some ⟨b, off, none⟩ ∧ b < w.heap.size ∧ ∀ i, i < l.length → w.cell? ⟨b, off + i * 4, none⟩ = some (.int .i64 (l.getD i default).bg) ∧ w.cell? ⟨b, off + i * 4 + 1, none⟩ = some (.int .i64 (l.getD i default).en) ∧ w.cell? ⟨b, off + i * 4 + 2, none⟩ = some (.bool (l.getD i default).wr) ∧ w.cell? ⟨b, off + i * 4 + 3, none⟩ = some (.string (l.getD i default).va) := by
        rcases unhide HC with h0 | h1
        · omega
        · exact h1
      obtain ⟨s0, s1, s2, s3⟩ := hsrc k hlt
      have c0 := (hb.cell (p := ⟨b, off + k * 4, none⟩) hbl).trans s0
      have c1 := (hb.cell (p := ⟨b, off + k * 4 + 1, none⟩) hbl).trans s1
      have c2 := (hb.cell (p := ⟨b, off + k * 4 + 2, none⟩) hbl).trans s2
      have c3 := (hb.cell (p := ⟨b, off + k * 4 + 3, none⟩) hbl).trans s3
      have hk0 : (0 : Int) ≤ (k : Int) := by omega
      have hk1 : (k : Int) < (l.length : Int) := by omega
      have HY := hide (badIn_yes (l := l) (i := k) hlt)
      have HNX := hide (fun (hx : opB (l.getD k default) = true) => show ∀ i, i < k + 1 → opB (l.getD i default) = true from fun i hi => by
          by_cases e : i = k
          · subst e; exact hx
          · exact unhide HGO i (by omega))
      have HB := hide hb
      clear hb hsrc s0 s1 s2 s3
      generalize l.getD k default = f at *
      have HC1 := hide (opsOK1_any f wr)
      generalize opB f = bb at *
      obtain ⟨f0, f1, f2, f3⟩ := f
      dsimp only at c0 c1 c2 c3 HC1
      go_wp2_with fail
      refine (unhide HC1).mono ?_
      rintro e w' ⟨rfl, hb2⟩
      have HB2 := hide ((unhide HB).trans (hb2.mono (unhide HB).size))
      clear hb2 HC1
      cases bb with
      | false =>
        have E := hide (unhide HY rfl)
        go_wp2_with fail
        go_ret
        exact ⟨_, rfl, ⟨fun _ => unhide E, fun _ => hk0⟩, unhide HB2⟩
      | true =>
        have E := hide (unhide HNX rfl)
        go_wp2_with fail
        refine ⟨⟨k + 1, by omega, by go_num, E, unhide HB2⟩, ?_⟩
        simp [intOf]; omega
    · obtain rfl : k = l.length := by omega
      have HA := hide (badIn_no (unhide HGO))
      have HB := hide hb
      clear hb
      go_wp2_with fail
      go_ret
      exact ⟨_, rfl, ⟨fun h => by omega, fun h => by rw [unhide HA] at h; cases h⟩, unhide HB⟩
set_option maxRecDepth 100000 in
theorem containsFuncO_any (v : Value) (l : List Op) (w : World) (h : Ops w v l) (hs : l.length ≤ 1048576) :
    Calls Try.prog 23 #[v, .func (.func 24) #[] #[]] w fun e w' => e = .returned (.bool (badIn l)) ∧ Below w.heap.size w w' := by
  have HI := hide (indexFuncO_any v l w h hs)
  obtain ⟨a, cap, rfl, hn, hm, hc⟩ := h
  clear hc hn hm
  go_enter Try.func23, Try.ntmps23
  go_wp2_with fail
  refine (unhide HI).mono ?_
  rintro e w' ⟨r, rfl, hr, hb⟩
  have HB := hide hb
  clear hb
  by_cases h0 : 0 ≤ r
  · have HA := hide (hr.1 h0)
    clear hr
    go_wp2_with fail
    go_ret
    exact ⟨ret_bool (by rw [unhide HA]), unhide HB⟩
  · have HA : Hid (badIn l = false) := hide (by
      rcases Bool.eq_false_or_eq_true (badIn l) with e | e
      · exact absurd (hr.2 e) h0
      · exact e)
    clear hr
    go_wp2_with fail
    go_ret
    exact ⟨ret_bool (by rw [unhide HA]; simp; omega), unhide HB⟩
set_option maxRecDepth 100000 in
set_option maxHeartbeats 1000000 in
theorem implOpsOK_any (v : Value) (l : List Op) (w : World) (h : Ops w v l) (hs : l.length ≤ 1048576) :
    Calls Try.prog 9 #[v] w fun e w' => e = .returned (.bool (opsB l)) ∧ Below w.heap.size w w' := by
  have HI := hide (containsFuncO_any v l w h hs)
  have E := hide (opsB_bad l)
  obtain ⟨a, cap, rfl, hn, hm, hc⟩ := h
  clear hc hn hm
  by_cases hl : l.length ≤ 7
  · have hl2 : (l.length : Int) ≤ 7 := by omega
    rw [decide_eq_true hl] at E
    clear hl
    generalize badIn l = b at *
    go_enter Try.func9, Try.ntmps9
    go_wp2_with fail
    refine (unhide HI).mono ?_
    rintro e w' ⟨rfl, hb⟩
    have HB := hide hb
    clear hb
    go_wp2_with fail
    go_ret
    exact ⟨ret_bool (by rw [unhide E]; simp), unhide HB⟩
  · have hl2 : ¬ (l.length : Int) ≤ 7 := by omega
    rw [decide_eq_false hl] at E
    clear hl HI
    go_enter Try.func9, Try.ntmps9
    go_wp2_with fail
    go_ret
    exact ⟨ret_bool (by rw [unhide E]; simp), Below.refl _ _⟩
def ofC (l : List Op) : Int := if 4096 < l.length then 2 else if opsB l then 0 else 1
set_option maxRecDepth 100000 in
set_option maxHeartbeats 1000000 in
theorem opsFault_any (v : Value) (l : List Op) (w : World) (h : Ops w v l) (hs : l.length ≤ 1048576) :
    Calls Try.prog 19 #[v] w fun e w' => e = .returned (.int .i64 (ofC l)) ∧ Below w.heap.size w w' := by
  have HI := hide (implOpsOK_any v l w h hs)
  obtain ⟨a, cap, rfl, hn, hm, hc⟩ := h
  clear hc hn hm
  by_cases hl : 4096 < l.length
  · have hl2 : (4096 : Int) < (l.length : Int) := by omega
    have E : Hid (ofC l = 2) := hide (by unfold ofC; rw [if_pos hl])
    go_enter Try.func19, Try.ntmps19
    go_wp2_with fail
    go_ret
    exact ⟨ret_int (unhide E).symm, Below.refl _ _⟩
  · have hl2 : ¬ (4096 : Int) < (l.length : Int) := by omega
    have E : Hid (ofC l = if opsB l then 0 else 1) := hide (by unfold ofC; rw [if_neg hl])
    clear hl
    generalize opsB l = b at *
    go_enter Try.func19, Try.ntmps19
    go_wp2_with fail
    refine (unhide HI).mono ?_
    rintro e w' ⟨rfl, hb⟩
    have HB := hide hb
    clear hb
    cases b with
    | true =>
      go_wp2_with fail
      go_ret
      exact ⟨ret_int (by rw [unhide E]; rfl), unhide HB⟩
    | false =>
      go_wp2_with fail
      go_ret
      exact ⟨ret_int (by rw [unhide E]; rfl), unhide HB⟩
end Go.Proofs.Ytedfidpmehamdaa
