/- Histories: spec.l14Search (it calls itself), walked. -/
import Derived.Test.YtedfidpmehamdaaHiH
import Derived.Deep.LoopGhost
namespace Go.Proofs.Ytedfidpmehamdaa
open Go.ChangeShapes Go.WideShapes Go.ChangeAt Go.RowKit Go.Deep
set_option linter.unusedVariables false
set_option linter.unusedSimpArgs false

def wholeTo (l : List Op) (o : List Int) (k : Nat) : Bool := decide (∀ i, i < k → 0 ≤ (l.getD i default).en → (i : Int) ∈ o)
theorem wholeTo_succ (l : List Op) (o : List Int) (k : Nat) : wholeTo l o (k + 1) = (wholeTo l o k && (decide ((l.getD k default).en < 0) || decide ((k : Int) ∈ o))) := by
  rw [Bool.eq_iff_iff]
  simp only [wholeTo, Bool.and_eq_true, Bool.or_eq_true, decide_eq_true_eq]
  constructor
  · intro h
    refine ⟨fun i hi => h i (by omega), ?_⟩
    by_cases h0 : (l.getD k default).en < 0
    · exact .inl h0
    · exact .inr (h k (by omega) (by omega))
  · rintro ⟨h1, h2⟩ i hi h0
    by_cases e : i = k
    · subst e
      rcases h2 with h2 | h2
      · omega
      · exact h2
    · exact h1 i (by omega) h0
theorem wholeTo_all (l : List Op) (o : List Int) : wholeTo l o l.length = wholeB l o := rfl
def freeTo (l : List Op) (o : List Int) (p k : Nat) : Bool := decide (∀ i, i < k → ¬ (i : Int) ∈ o → ahB (l.getD i default) (l.getD p default) = false)
theorem freeTo_succ (l : List Op) (o : List Int) (p k : Nat) : freeTo l o p (k + 1) = (freeTo l o p k && (decide ((k : Int) ∈ o) || !ahB (l.getD k default) (l.getD p default))) := by
  rw [Bool.eq_iff_iff]
  simp only [freeTo, Bool.and_eq_true, Bool.or_eq_true, decide_eq_true_eq, Bool.not_eq_true']
  constructor
  · intro h
    refine ⟨fun i hi => h i (by omega), ?_⟩
    by_cases h0 : (k : Int) ∈ o
    · exact .inl h0
    · exact .inr (h k (by omega) h0)
  · rintro ⟨h1, h2⟩ i hi h0
    by_cases e : i = k
    · subst e
      rcases h2 with h2 | h2
      · exact absurd h2 h0
      · exact h2
    · exact h1 i (by omega) h0
theorem may_free (l : List Op) (o : List Int) (va : ByteArray) (p : Nat) (h1 : ¬ (p : Int) ∈ o) (h2 : (l.getD p default).wr = true ∨ (l.getD p default).va = va) : mayB l o va p = freeTo l o p l.length := by
  rw [Bool.eq_iff_iff]
  simp only [mayB, freeTo, decide_eq_true_eq]
  exact ⟨fun h => h.2.2, fun h => ⟨h1, h2, h⟩⟩

/-- What a search answers, and what it leaves. -/
def SrQ (w : World) (ov : Value) (o : List Int) (res : Option (List Int)) (e : Ending) (w' : World) : Prop := ∃ r b, e = .returned (.tuple #[r, .bool b]) ∧ SrR w.heap.size w' ov o r b res ∧ Below w.heap.size w w'
/-- A search of so many steps answers so. -/
def SrP (la : Option Addr) (lc : Nat) (l : List Op) (n : Nat) : Prop := ∀ (o : List Int) (va : ByteArray) (ov : Value) (w : World),
    Ops w (.slice la l.length lc) l → Ints w ov o → Plc l.length o → l.length < n + o.length →
    Calls Try.prog 22 #[.slice la l.length lc, ov, .string va] w (SrQ w ov o (srch l n o va))
set_option maxRecDepth 100000 in
set_option maxHeartbeats 4000000 in
theorem l14Search_step (la : Option Addr) (lc : Nat) (l : List Op) (hl7 : l.length ≤ 7) (n : Nat) (hIH : SrP la lc l n) (o : List Int) (va : ByteArray) (ov : Value) (w : World)
    (hl : Ops w (.slice la l.length lc) l) (hov : Ints w ov o) (hp : Plc l.length o) (hn : l.length < n + 1 + o.length) :
    Calls Try.prog 22 #[.slice la l.length lc, ov, .string va] w (SrQ w ov o (srch l (n + 1) o va)) := by
  have IH := hide hIH
  clear hIH
  obtain ⟨i0, hi, hz0, hz1, hz2⟩ := info_parts info3
  have ho4 := OrdV.len4 hp hl7
  have HOP := hide (fun (wx : World) (hb : Below w.heap.size w wx) => hl.below hb)
  have HOV := hide (fun (wx : World) (hb : Below w.heap.size w wx) => hov.below hb)
  obtain ⟨oa, oc, rfl, _, _⟩ := hov
  have HH := hide (fun (m : Int) (wx : World) (hb : Below w.heap.size w wx) => l10Has_any _ o m wx (unhide HOV wx hb) (by omega))
  obtain ⟨a', c', e9, hn9, hm, hc⟩ := hl
  simp only [Value.slice.injEq] at e9
  obtain ⟨rfl, _, rfl⟩ := e9
  have HC : Hid (l.length = 0 ∨ ∃ b off, la = some ⟨b, off, none⟩ ∧ b < w.heap.size ∧ ∀ i, i < l.length → w.cell? ⟨b, off + i * 4, none⟩ = some (.int .i64 (l.getD i default).bg) ∧ w.cell? ⟨b, off + i * 4 + 1, none⟩ = some (.int .i64 (l.getD i default).en) ∧ w.cell? ⟨b, off + i * 4 + 2, none⟩ = some (.bool (l.getD i default).wr) ∧ w.cell? ⟨b, off + i * 4 + 3, none⟩ = some (.string (l.getD i default).va)) := hide hc
  have HP := hide hp
  have HN := hide hn
  have S1 := hide (@srch_whole l n o va)
  have S2 := hide (fun k r => @srch_some l n o va k r)
  have S3 := hide (@srch_none l n o va)
  generalize srch l (n + 1) o va = R at *
  clear hc hn9 hm hp hn
  go_enter Try.func22, Try.ntmps22
  go_wp2_with fail
  go_loop [8, 9] (fun d i => ∃ k : Nat, k ≤ l.length ∧ i = .int .i64 k ∧ d = .bool (wholeTo l o k)) (fun _ i => l.length - (intOf i).toNat)
  case atStart => exact ⟨0, Nat.zero_le _, rfl, by simp [wholeTo]⟩
  case round =>
    obtain ⟨k, hk, rfl, rfl⟩ := hrel
    by_cases hlt : k < l.length
    · obtain ⟨b, off, rfl, hbl, hsrc⟩ : ∃ b off, la = some ⟨b, off, none⟩ ∧ b < w.heap.size ∧ ∀ i, i < l.length → w.cell? ⟨b, off + i * 4, none⟩ = some (.int .i64 (l.getD i default).bg) ∧ w.cell? ⟨b, off + i * 4 + 1, none⟩ = some (.int .i64 (l.getD i default).en) ∧ w.cell? ⟨b, off + i * 4 + 2, none⟩ = some (.bool (l.getD i default).wr) ∧ w.cell? ⟨b, off + i * 4 + 3, none⟩ = some (.string (l.getD i default).va) := by
        rcases unhide HC with h0 | h1
        · omega
        · exact h1
      obtain ⟨_, c1, _, _⟩ := hsrc k hlt
      have hk0 : (0 : Int) ≤ (k : Int) := by omega
      have hk1 : (k : Int) < (l.length : Int) := by omega
      have HSU := hide (wholeTo_succ l o k)
      have HHk := hide (unhide HH (k : Int) w (Below.refl _ _))
      clear hsrc
      generalize l.getD k default = f at *
      obtain ⟨f0, f1, f2, f3⟩ := f
      dsimp only at c1 HSU
      generalize wholeTo l o k = d at *
      generalize decide ((k : Int) ∈ o) = hq at *
      cases d with
      | false =>
        go_wp2_with fail
        refine ⟨⟨k + 1, by omega, by go_num, by rw [unhide HSU]; rfl⟩, ?_⟩
        simp [intOf]; omega
      | true =>
        by_cases h0 : f1 < 0
        · go_wp2_with fail
          refine ⟨⟨k + 1, by omega, by go_num, by rw [unhide HSU, decide_eq_true h0]; rfl⟩, ?_⟩
          simp [intOf]; omega
        · have HSV : Hid (wholeTo l o (k + 1) = hq) := hide (by rw [unhide HSU, decide_eq_false h0]; rfl)
          go_wp2_with fail
          refine (unhide HHk).mono ?_
          rintro e w' ⟨rfl, hw⟩
          subst w'
          go_wp2_with fail
          refine ⟨⟨k + 1, by omega, by go_num, by rw [unhide HSV]⟩, ?_⟩
          simp [intOf]; omega
    · obtain rfl : k = l.length := by omega
      rw [wholeTo_all]
      generalize wholeB l o = wb at *
      cases wb with
      | true =>
        have E := hide (unhide S1 rfl)
        go_wp2_with fail
        refine bodyPost_ret (v := .tuple #[.slice oa o.length oc, .bool true]) (by simp [results, Try.results22, go_sem]) rfl ?_
        exact ⟨_, _, rfl, .inr ⟨o, unhide E, rfl, .inl ⟨rfl, rfl⟩⟩, Below.refl _ _⟩
      | false =>
        have S2' := hide (fun k r => unhide S2 k r rfl)
        have S3' := hide (unhide S3 rfl)
        clear S1 S2 S3
        go_wp2_with fail
        go_loopw [10] (fun i wr => ∃ k : Nat, k ≤ l.length ∧ i = .int .i64 k ∧ Hid (∀ j, j < k → srchAt l n o va j = none) ∧ Below w.heap.size w wr) (fun i _ => l.length - (intOf i).toNat)
        case atStart => exact ⟨0, Nat.zero_le _, rfl, fun j hj => absurd hj (Nat.not_lt_zero _), Below.refl _ _⟩
        case round =>
          obtain ⟨k, hk, rfl, HGO, hb⟩ := hrel
          by_cases hlt : k < l.length
          · obtain ⟨b, off, rfl, hbl, hsrc⟩ : ∃ b off, la = some ⟨b, off, none⟩ ∧ b < w.heap.size ∧ ∀ i, i < l.length → w.cell? ⟨b, off + i * 4, none⟩ = some (.int .i64 (l.getD i default).bg) ∧ w.cell? ⟨b, off + i * 4 + 1, none⟩ = some (.int .i64 (l.getD i default).en) ∧ w.cell? ⟨b, off + i * 4 + 2, none⟩ = some (.bool (l.getD i default).wr) ∧ w.cell? ⟨b, off + i * 4 + 3, none⟩ = some (.string (l.getD i default).va) := by
              rcases unhide HC with h0 | h1
              · omega
              · exact h1
            obtain ⟨s0, s1, s2, s3⟩ := hsrc k hlt
            have c2 := (hb.cell (p := ⟨b, off + k * 4 + 2, none⟩) hbl).trans s2
            have c3 := (hb.cell (p := ⟨b, off + k * 4 + 3, none⟩) hbl).trans s3
            have hk0 : (0 : Int) ≤ (k : Int) := by omega
            have hk1 : (k : Int) < (l.length : Int) := by omega
            have HSRC := hide hsrc
            have HAT : Hid (srchAt l n o va k = if mayB l o va k = true then srch l n (o ++ [(k : Int)]) (nextV (l.getD k default) va) else none) := rfl
            have M1 := hide (@may_out l o va k)
            have M2 := hide (@may_val l o va k)
            have M3 := hide (may_free l o va k)
            have HPN := hide (fun (h : ¬ (k : Int) ∈ o) => (unhide HP).snoc hlt h)
            have HB := hide hb
            have HNX := hide (fun (hx : srchAt l n o va k = none) => show ∀ j, j < k + 1 → srchAt l n o va j = none from fun j hj => by
              by_cases e : j = k
              · subst e; exact hx
              · exact unhide HGO j (by omega))
            have HSO := hide (fun r => unhide S2' k r hlt (unhide HGO))
            have HHk := hide (unhide HH (k : Int) wr hb)
            clear hb HGO hsrc s0 s1 s2 s3
            generalize mayB l o va k = mb at *
            go_wp2_with fail
            refine (unhide HHk).mono ?_
            rintro e w3 ⟨rfl, hw3⟩
            subst w3
            by_cases hin : (k : Int) ∈ o
            · have hmb := unhide M1 hin
              have E := hide (unhide HNX (by rw [unhide HAT, hmb]; rfl))
              rw [decide_eq_true hin]
              clear hin hmb M1 M2 M3 HAT
              go_wp2_with fail
              refine ⟨⟨k + 1, by omega, by go_num, E, unhide HB⟩, ?_⟩
              simp [intOf]; omega
            have HPL := hide (unhide HPN hin)
            have M3' := hide (unhide M3 hin)
            rw [decide_eq_false hin]
            clear M1 M3 HPN hin HHk
            generalize hgk : l.getD k default = g at *
            have HGK := hide hgk
            clear hgk
            obtain ⟨g0, g1, g2, g3⟩ := g
            dsimp only at c2 c3 M2 M3'
            by_cases hv : g2 = false ∧ g3 ≠ va
            · obtain ⟨rfl, hv2⟩ := hv
              have hmb := unhide M2 rfl hv2
              have E := hide (unhide HNX (by rw [unhide HAT, hmb]; rfl))
              have q1 := txt_ne hv2
              clear M2 M3' hv2 hmb HAT
              go_wp2_with fail
              refine ⟨⟨k + 1, by omega, by go_num, E, unhide HB⟩, ?_⟩
              simp [intOf]; omega
            have HV : g2 = true ∨ (g2 = false ∧ g3 = va) := by
              cases g2
              · right
                by_cases e : g3 = va
                · exact ⟨rfl, e⟩
                · exact absurd ⟨rfl, e⟩ hv
              · exact .inl rfl
            have hmb := unhide M3' (HV.elim .inl (fun e => .inr e.2))
            rw [hmb] at HAT
            have q1 : g2 = false → (g3.toList == va.toList) = true := fun e => by
              rcases HV with e2 | e2
              · rw [e2] at e; cases e
              · exact txt_eq e2.2
            clear hv M2 M3' HV hmb
            have HSRC3 := hide (And.intro c2 c3)
            clear c2 c3
            cases g2 with
            | true => ?_
            | false => ?_
            all_goals
              have q2 := q1
              simp only [true_implies, forall_const, reduceCtorEq, false_implies] at q2
              clear q1
              obtain ⟨c2, c3⟩ := unhide HSRC3
              go_wp2_with fail
              clear c2 c3 HSRC3
              go_loopw [11, 12] (fun d i wq => ∃ m : Nat, m ≤ l.length ∧ i = .int .i64 m ∧ d = .bool (freeTo l o k m) ∧ Below w.heap.size w wq) (fun _ i _ => l.length - (intOf i).toNat)
              case atStart => exact ⟨0, Nat.zero_le _, rfl, by simp [freeTo], unhide HB⟩
              case round =>
                obtain ⟨m, hm, rfl, rfl, hq⟩ := hrel
                by_cases hml : m < l.length
                · obtain ⟨s0, s1, s2, s3⟩ := unhide HSRC m hml
                  obtain ⟨k0, k1, k2, k3⟩ := unhide HSRC k hlt
                  have hblq := Nat.lt_of_lt_of_le hbl hq.size
                  rw [unhide HGK] at k0 k1 k2 k3
                  dsimp only at k0 k1 k2 k3
                  have t0 := Wb.cell ((hq.cell (p := ⟨b, off + m * 4, none⟩) hbl).trans s0) hblq
                  have t1 := Wb.cell ((hq.cell (p := ⟨b, off + m * 4 + 1, none⟩) hbl).trans s1) hblq
                  have t2 := Wb.cell ((hq.cell (p := ⟨b, off + m * 4 + 2, none⟩) hbl).trans s2) hblq
                  have t3 := Wb.cell ((hq.cell (p := ⟨b, off + m * 4 + 3, none⟩) hbl).trans s3) hblq
                  have v0 := Wb.cell ((hq.cell (p := ⟨b, off + k * 4, none⟩) hbl).trans k0) hblq
                  have v1 := Wb.cell ((hq.cell (p := ⟨b, off + k * 4 + 1, none⟩) hbl).trans k1) hblq
                  have v2 := Wb.cell ((hq.cell (p := ⟨b, off + k * 4 + 2, none⟩) hbl).trans k2) hblq
                  have v3 := Wb.cell ((hq.cell (p := ⟨b, off + k * 4 + 3, none⟩) hbl).trans k3) hblq
                  have z0 : (0 : Int) ≤ (m : Int) := by omega
                  have z1 : (m : Int) < (l.length : Int) := by omega
                  have HSU := hide (freeTo_succ l o k m)
                  have HHm := hide (fun q : Wb wr => unhide HH (m : Int) q.at_ (hq.trans (q.below.mono hq.size)))
                  have HAH := hide (fun wx => l14Ahead_any (l.getD m default) (l.getD k default) wx)
                  rw [unhide HGK] at HAH HSU
                  have HQ := hide hq
                  clear s0 s1 s2 s3 k0 k1 k2 k3 hblq hq
                  generalize l.getD m default = f at *
                  generalize ahB f _ = ab at HAH HSU
                  obtain ⟨f0, f1, f2, f3⟩ := f
                  dsimp only at t0 t1 t2 t3 HAH
                  generalize freeTo l o k m = d at *
                  generalize decide ((m : Int) ∈ o) = hin at *
                  go_wp2_with fail
                  cases d with
                  | false =>
                    refine wp_region_wb (by kernel_rfl) (by kernel_rfl) ?_
                    repeat (go_big_quiet_step (fail))
                    refine wpQuiet_nil ?_
                    intro _ hw'
                    obtain ⟨⟨w1, hb1⟩, rfl⟩ := hw'
                    have HBN := hide ((unhide HQ).trans (hb1.mono (unhide HQ).size))
                    clear hb1 t0 t1 t2 t3 v0 v1 v2 v3 HHm HAH
                    go_wp2_with fail
                    refine ⟨⟨m + 1, by omega, by go_num, by rw [unhide HSU]; rfl, unhide HBN⟩, ?_⟩
                    simp [intOf]; omega
                  | true =>
                    cases hin with
                    | true =>
                      refine wp_region_wb (by kernel_rfl) (by kernel_rfl) ?_
                      repeat (go_big_quiet_step ((go_at_call 41; exact wb_same (unhide HHm _))))
                      refine wpQuiet_nil ?_
                      intro _ hw'
                      obtain ⟨⟨w1, hb1⟩, rfl⟩ := hw'
                      have HBN := hide ((unhide HQ).trans (hb1.mono (unhide HQ).size))
                      clear hb1 t0 t1 t2 t3 v0 v1 v2 v3 HHm HAH
                      go_wp2_with fail
                      refine ⟨⟨m + 1, by omega, by go_num, by rw [unhide HSU]; rfl, unhide HBN⟩, ?_⟩
                      simp [intOf]; omega
                    | false =>
                      refine wp_region_wb (by kernel_rfl) (by kernel_rfl) ?_
                      repeat (go_big_quiet_step (first | (go_at_call 41; exact wb_same (unhide HHm _)) | (go_at_call 31; exact wb_of (unhide HAH _))))
                      refine wpQuiet_nil ?_
                      intro _ hw'
                      obtain ⟨⟨w1, hb1⟩, rfl⟩ := hw'
                      have HBN := hide ((unhide HQ).trans (hb1.mono (unhide HQ).size))
                      clear hb1 t0 t1 t2 t3 v0 v1 v2 v3 HHm HAH
                      go_wp2_with fail
                      refine ⟨⟨m + 1, by omega, by go_num, by rw [unhide HSU]; rfl, unhide HBN⟩, ?_⟩
                      simp [intOf]; omega
                · obtain rfl : m = l.length := by omega
                  generalize freeTo l o k l.length = fr at *
                  cases fr with
                  | false =>
                    have E := hide (unhide HNX (by rw [unhide HAT]; rfl))
                    have HQ := hide hq
                    clear hq HAT HNX
                    go_wp2_with fail
                    refine ⟨⟨k + 1, by omega, by go_num, E, unhide HQ⟩, ?_⟩
                    simp [intOf]; omega
                  | true =>
                    obtain ⟨_, _, k2, k3⟩ := unhide HSRC k hlt
                    rw [unhide HGK] at k2 k3
                    dsimp only at k2 k3
                    have c2 := (hq.cell (p := ⟨b, off + k * 4 + 2, none⟩) hbl).trans k2
                    have c3 := (hq.cell (p := ⟨b, off + k * 4 + 3, none⟩) hbl).trans k3
                    have HAT2 := hide ((unhide HAT).trans (if_pos rfl))
                    have HR := hide ((unhide HOV (wr.alloc (.cells #[] 3)) (hq.alloc hq.size _)).rw)
                    have O0 := hide (own_noneJ wr wr.heap.size wr.heap.size rfl (Nat.le_refl _))
                    have B0 := hide ((Below.refl wr.heap.size wr).alloc (Nat.le_refl _) (.cells #[] 3))
                    have HQ := hide hq
                    have hqs := hq.size
                    clear k2 k3 hq HAT
                    go_wp2_with (first
                      | (at_builtin; refine wpList_append_row _ rfl _ _ _ rfl wr.heap.size 3 i0 _ 1 8 Try.underlying25 hi hz0 hz1 hz2 rfl (by omega) _ o.length (o.map (Value.int .i64)) rfl (unhide O5) _ 1 [.int .i64 (k : Int)] rfl (unhide HRW5) rfl (by simp [Value.oneCell']) (by unfold maxLen; omega) (by omega) (unhide HS5) ?_; intro a7 c7 w7 hown7 hgrow7 hat7; have R7 := hide (And.intro hown7 ((unhide B5).grown hgrow7 (unhide HS5) (fun r hr => ((unhide O5).lt r hr).1))); clear hown7 hgrow7 hat7)
                      | (at_builtin; refine wpList_append_row _ rfl _ _ _ rfl wr.heap.size 3 i0 _ 1 8 Try.underlying25 hi hz0 hz1 hz2 rfl (by omega) _ 0 [] rfl (unhide O0) _ o.length (o.map (Value.int .i64)) rfl (unhide HR) (by simp) (by intro u hu; simp only [List.mem_map] at hu; obtain ⟨s, _, rfl⟩ := hu; rfl) (by unfold maxLen; omega) (by omega) (by simp) ?_; intro a1 c1 w1 hown1 hgrow1 hat1; rw [Nat.zero_add, List.nil_append] at hown1; have BQ1 := (unhide B0).grown hgrow1 (by simp) (fun r hr => ((unhide O0).lt r hr).1); have O5 := hide (own_kept (T := fun _ => False) hown1 (Touch.ofBelow ((Below.refl w1.heap.size w1).alloc (Nat.le_refl _) (.cells #[.int .i64 (k : Int)] 3))) (fun _ _ h => h)); have HRW5 := hide (one_rwI w1 (k : Int) w1.heap.size rfl); have B5 := hide (BQ1.alloc BQ1.size (.cells #[.int .i64 (k : Int)] 3)); have HS5 := hide (show wr.heap.size ≤ (w1.alloc (.cells #[.int .i64 (k : Int)] 3)).heap.size from (BQ1.alloc BQ1.size (.cells #[.int .i64 (k : Int)] 3)).size); clear hown1 hgrow1 hat1 BQ1))
                    have hO7 := ownI_push (unhide R7).1
                    have hB7 := (unhide HQ).trans ((unhide R7).2.mono hqs)
                    have HON := hide (OwnI.mono hO7 hqs)
                    have HB7 := hide hB7
                    have HIN7 := hide hO7.ints
                    clear hO7 hB7 R7 O5 HRW5 B5 HS5 O0 B0 HR c2 c3
                    refine (unhide IH (o ++ [(k : Int)]) _ _ w7 (unhide HOP w7 (unhide HB7)) (unhide HIN7) (unhide HPL) (by have := unhide HN; rw [List.length_append]; simp; omega)).mono ?_
                    rintro e w8 ⟨r8, b8, rfl, hS8, hb8⟩
                    have HB8 := hide ((unhide HB7).trans (hb8.mono (unhide HB7).size))
                    rcases hS8 with ⟨hn8, rfl⟩ | ⟨o', hso, rfl, hd⟩
                    · have E := hide (unhide HNX ((unhide HAT2).trans hn8))
                      clear hb8 hn8
                      go_wp2_with fail
                      refine ⟨⟨k + 1, by omega, by go_num, E, unhide HB8⟩, ?_⟩
                      simp [intOf]; omega
                    · have E := hide (unhide HSO o' ((unhide HAT2).trans hso))
                      have OO : Hid (OwnI w.heap.size w8 r8 o') := hide (by
                        rcases hd with ⟨rfl, rfl⟩ | hd
                        · exact (unhide HON).below hb8
                        · exact OwnI.mono hd (unhide HB7).size)
                      clear hb8 hso hd
                      go_wp2_with fail
                      refine bodyPost_ret (v := .tuple #[r8, .bool true]) (by simp [results, Try.results22, go_sem]) rfl ?_
                      exact ⟨_, _, rfl, .inr ⟨o', unhide E, rfl, .inr (unhide OO)⟩, unhide HB8⟩
          · obtain rfl : k = l.length := by omega
            have E := hide (unhide S3' (unhide HGO))
            have HB := hide hb
            clear hb
            go_wp2_with fail
            refine bodyPost_ret (v := .tuple #[.slice (some ⟨wr.heap.size, 0, none⟩) 0 0, .bool false]) (by simp [results, Try.results22, go_sem]) rfl ?_
            exact ⟨_, _, rfl, .inl ⟨unhide E, rfl⟩, (unhide HB).alloc (unhide HB).size _⟩
theorem l14Search_all (la : Option Addr) (lc : Nat) (l : List Op) (hl7 : l.length ≤ 7) : ∀ n, SrP la lc l n
  | 0 => fun o va ov w _ _ hp hn => by have := hp.len; omega
  | n + 1 => fun o va ov w h1 h2 h3 h4 => l14Search_step la lc l hl7 n (l14Search_all la lc l hl7 n) o va ov w h1 h2 h3 h4
end Go.Proofs.Ytedfidpmehamdaa
