/- spec.AnswerIn, walked. (Written by py/apj.py.) -/
import Derived.Test.YtnhhnjmjodmacaaGreatDoorQan43
namespace Go.Proofs.YtnhhnjmjodmacaaGreatDoor.Sha
open Go.ChangeShapes Go.WideShapes Go.ChangeAt Go.RowKit Go.Deep
set_option linter.unusedVariables false
set_option linter.unusedSimpArgs false
def zRe : Re := ⟨0, 0, ⟨#[]⟩⟩
/-- A command that is not right. -/
def anBad (l : List Cm) (c : Cm) : Prop := cmK c = false ∨ ∃ i, i < l.length ∧ cmK (l.getD i default) = false
open Classical in
/-- What is answered. -/
noncomputable def anO (l : List Cm) (c : Cm) : Re × Int × Int :=
  if 4096 < l.length then (zRe, 0, 2) else if 120 < l.length then (zRe, 0, 6) else if anBad l c then (zRe, 0, 1) else if h : ∃ k, At l c k then (reA l (Classical.choose h), ((Classical.choose h : Nat) : Int), 0) else (zRe, 0, 5)
theorem anO_long {l : List Cm} {c : Cm} (h : 4096 < l.length) : anO l c = (zRe, 0, 2) := by unfold anO; rw [if_pos h]
theorem anO_many {l : List Cm} {c : Cm} (h : ¬ 4096 < l.length) (h1 : 120 < l.length) : anO l c = (zRe, 0, 6) := by unfold anO; rw [if_neg h, if_pos h1]
theorem anO_bad {l : List Cm} {c : Cm} (h1 : ¬ 120 < l.length) (h2 : anBad l c) : anO l c = (zRe, 0, 1) := by unfold anO; rw [if_neg (by omega), if_neg h1, if_pos h2]
theorem anO_at {l : List Cm} {c : Cm} (h1 : ¬ 120 < l.length) (h2 : ¬ anBad l c) {k : Nat} (hk : At l c k) : anO l c = (reA l k, (k : Int), 0) := by
  unfold anO
  have h : ∃ k, At l c k := ⟨k, hk⟩
  rw [if_neg (by omega), if_neg h1, if_neg h2, dif_pos h, (Classical.choose_spec h).uniq hk]
theorem anO_no {l : List Cm} {c : Cm} (h1 : ¬ 120 < l.length) (h2 : ¬ anBad l c) (hk : No l c) : anO l c = (zRe, 0, 5) := by
  unfold anO
  rw [if_neg (by omega), if_neg h1, if_neg h2, dif_neg (fun ⟨k, h⟩ => hk k h.1 h.2.1)]
theorem not_bad {l : List Cm} {c : Cm} (h : cmK c = true) (h1 : ∀ i, i < l.length → cmK (l.getD i default) = true) : ¬ anBad l c := by
  rintro (e | ⟨i, hi, e⟩)
  · rw [h] at e; cases e
  · rw [h1 i hi] at e; cases e
set_option maxRecDepth 100000 in
set_option maxHeartbeats 2000000 in
theorem specAnswerIn_any (v : Value) (l : List Cm) (c : Cm) (w : World) (h : Css w v l) (hs : l.length ≤ 1048576) (hz : ∀ i, i < l.length → (l.getD i default).ky.size ≤ maxLen ∧ (l.getD i default).vl.size ≤ maxLen) (hcz : c.ky.size ≤ maxLen ∧ c.vl.size ≤ maxLen) :
    Calls Tryz.prog 25 #[v, .agg #[.int .i64 c.kd, .int .i64 c.ss, .int .i64 c.sq, .string c.ky, .string c.vl]] w fun e w' => e = .returned (.tuple #[.agg #[.int .i64 (anO l c).1.kd, .int .i64 (anO l c).1.pl, .string (anO l c).1.vl], .int .i64 (anO l c).2.1, .int .i64 (anO l c).2.2]) ∧ Below w.heap.size w w' := by
  have HL := hide (fun hx => anO_long (l := l) (c := c) hx)
  have HM := hide (fun hx hy => anO_many (l := l) (c := c) hx hy)
  have HB := hide (fun hx hy => anO_bad (l := l) (c := c) hx hy)
  have HA := hide (fun hx hy k hk => anO_at (l := l) (c := c) hx hy (k := k) hk)
  have HN := hide (fun hx hy hk => anO_no (l := l) (c := c) hx hy hk)
  have HAN := hide (fun wx (hx : Css wx v l) (h1 : l.length ≤ 120) h2 => l13Answer_any v l c wx hx h1 h2)
  have HZ := hide hz
  have HH := hide h
  have HCO := hide (fun wx => specCommandOK_any c.kd c.ss c.sq c.ky c.vl wx hcz.1 hcz.2)
  have hck : cmdOK c.kd c.ss c.sq c.ky c.vl = cmK c := rfl
  rw [hck] at HCO
  clear hck hz
  generalize anO l c = out at *
  obtain ⟨a, cap, rfl, hn, hm, hc⟩ := h
  have HC := hide hc
  clear hc hm hn
  have B0 := hide (((Below.refl w.heap.size w).alloc (Nat.le_refl _) (.cells #[.int .i64 c.kd, .int .i64 c.ss, .int .i64 c.sq, .string c.ky, .string c.vl] 44)).alloc (by simp) (.cells #[.int .i64 0, .int .i64 0, .string ⟨#[]⟩] 40))
  have C0 := hide ((Blk.new w #[.int .i64 c.kd, .int .i64 c.ss, .int .i64 c.sq, .string c.ky, .string c.vl] 44 w.heap.size rfl).alloc (.cells #[.int .i64 0, .int .i64 0, .string ⟨#[]⟩] 40))
  have R0 := hide (Blk.new (w.alloc (.cells #[.int .i64 c.kd, .int .i64 c.ss, .int .i64 c.sq, .string c.ky, .string c.vl] 44)) #[.int .i64 0, .int .i64 0, .string ⟨#[]⟩] 40 (w.heap.size + 1) (by simp))
  go_enter Tryz.func25, Tryz.ntmps25
  go_upto_region 1 with fail
  generalize (w.alloc (.cells #[.int .i64 c.kd, .int .i64 c.ss, .int .i64 c.sq, .string c.ky, .string c.vl] 44)).alloc (.cells #[.int .i64 0, .int .i64 0, .string ⟨#[]⟩] 40) = w0 at *
  have hw0 : w.heap.size + 1 < w0.heap.size := (unhide R0).1
  by_cases h4 : 4096 < l.length
  · have hi4 : (4096 : Int) < (l.length : Int) := by omega
    have E := hide (unhide HL h4)
    have RX := unhide R0
    have rx0 := RX.cell 0 rfl
    have rx1 := RX.cell 1 rfl
    have rx2 := RX.cell 2 rfl
    have rf0 := RX.fro 0
    have rf1 := RX.fro 1
    have rf2 := RX.fro 2
    have HR9 := hide (((RX.set 0 (.int .i64 0) (by simp)).set 1 (.int .i64 0) (by simp)).set 2 (.string ⟨#[]⟩) (by simp))
    have T9 := ((((Touch.refl (fun x => x = w.heap.size + 1) w0).setCell ⟨w.heap.size + 1, 0, none⟩ (.int .i64 0) (fun _ => rfl)).setCell ⟨w.heap.size + 1, 1, none⟩ (.int .i64 0) (fun _ => rfl)).setCell ⟨w.heap.size + 1, 2, none⟩ (.string ⟨#[]⟩) (fun _ => rfl))
    have K9 := hide ((unhide B0).trans (T9.below (unhide B0).size (fun x hx e => by omega)))
    clear RX T9
    go_wp2_with fail
    have R9 := unhide HR9
    have z0 := R9.cell 0 rfl
    have z1 := R9.cell 1 rfl
    have z2 := R9.cell 2 rfl
    refine bodyPost_ret (v := .tuple #[.agg #[.int .i64 0, .int .i64 0, .string ⟨#[]⟩], .int .i64 0, .int .i64 2]) (by simp [results, Tryz.results25, go_sem, z0, z1, z2]) rfl ?_
    exact ⟨by rw [unhide E]; rfl, unhide K9⟩
  by_cases h1 : 120 < l.length
  · have hi4 : ¬ (4096 : Int) < (l.length : Int) := by omega
    have hi1 : (120 : Int) < (l.length : Int) := by omega
    have E := hide (unhide HM h4 h1)
    have RX := unhide R0
    have rx0 := RX.cell 0 rfl
    have rx1 := RX.cell 1 rfl
    have rx2 := RX.cell 2 rfl
    have rf0 := RX.fro 0
    have rf1 := RX.fro 1
    have rf2 := RX.fro 2
    have HR9 := hide (((RX.set 0 (.int .i64 0) (by simp)).set 1 (.int .i64 0) (by simp)).set 2 (.string ⟨#[]⟩) (by simp))
    have T9 := ((((Touch.refl (fun x => x = w.heap.size + 1) w0).setCell ⟨w.heap.size + 1, 0, none⟩ (.int .i64 0) (fun _ => rfl)).setCell ⟨w.heap.size + 1, 1, none⟩ (.int .i64 0) (fun _ => rfl)).setCell ⟨w.heap.size + 1, 2, none⟩ (.string ⟨#[]⟩) (fun _ => rfl))
    have K9 := hide ((unhide B0).trans (T9.below (unhide B0).size (fun x hx e => by omega)))
    clear RX T9
    go_wp2_with fail
    have R9 := unhide HR9
    have z0 := R9.cell 0 rfl
    have z1 := R9.cell 1 rfl
    have z2 := R9.cell 2 rfl
    refine bodyPost_ret (v := .tuple #[.agg #[.int .i64 0, .int .i64 0, .string ⟨#[]⟩], .int .i64 0, .int .i64 6]) (by simp [results, Tryz.results25, go_sem, z0, z1, z2]) rfl ?_
    exact ⟨by rw [unhide E]; rfl, unhide K9⟩
  have hi4 : ¬ (4096 : Int) < (l.length : Int) := by omega
  have hi1 : ¬ (120 : Int) < (l.length : Int) := by omega
  have HC1 := hide (unhide HCO w0)
  have y0 := (unhide C0).cell 0 rfl
  have y1 := (unhide C0).cell 1 rfl
  have y2 := (unhide C0).cell 2 rfl
  have y3 := (unhide C0).cell 3 rfl
  have y4 := (unhide C0).cell 4 rfl
  cases hcc : cmK c
  · rw [hcc] at HC1
    have E := hide (unhide HB h1 (.inl hcc))
    go_wp2_with fail
    refine (unhide HC1).mono ?_
    rintro e w1 ⟨rfl, hb1⟩
    have K1 := hide ((unhide B0).trans (hb1.mono (unhide B0).size))
    have R1 := hide ((unhide R0).below hb1)
    have hw1 : w.heap.size + 1 < w1.heap.size := (unhide R1).1
    clear hb1 HC1 y0 y1 y2 y3 y4
    have RX := unhide R1
    have rx0 := RX.cell 0 rfl
    have rx1 := RX.cell 1 rfl
    have rx2 := RX.cell 2 rfl
    have rf0 := RX.fro 0
    have rf1 := RX.fro 1
    have rf2 := RX.fro 2
    have HR9 := hide (((RX.set 0 (.int .i64 0) (by simp)).set 1 (.int .i64 0) (by simp)).set 2 (.string ⟨#[]⟩) (by simp))
    have T9 := ((((Touch.refl (fun x => x = w.heap.size + 1) w1).setCell ⟨w.heap.size + 1, 0, none⟩ (.int .i64 0) (fun _ => rfl)).setCell ⟨w.heap.size + 1, 1, none⟩ (.int .i64 0) (fun _ => rfl)).setCell ⟨w.heap.size + 1, 2, none⟩ (.string ⟨#[]⟩) (fun _ => rfl))
    have K9 := hide ((unhide K1).trans (T9.below (unhide K1).size (fun x hx e => by omega)))
    clear RX T9
    go_wp2_with fail
    have R9 := unhide HR9
    have z0 := R9.cell 0 rfl
    have z1 := R9.cell 1 rfl
    have z2 := R9.cell 2 rfl
    refine bodyPost_ret (v := .tuple #[.agg #[.int .i64 0, .int .i64 0, .string ⟨#[]⟩], .int .i64 0, .int .i64 1]) (by simp [results, Tryz.results25, go_sem, z0, z1, z2]) rfl ?_
    exact ⟨by rw [unhide E]; rfl, unhide K9⟩
  rw [hcc] at HC1
  have HCK := hide hcc
  clear hcc HCO HL HM
  go_wp2_with fail
  refine (unhide HC1).mono ?_
  rintro e w1 ⟨rfl, hb1⟩
  have K1 := hide ((unhide B0).trans (hb1.mono (unhide B0).size))
  have R1 := hide ((unhide R0).below hb1)
  have C1 := hide ((unhide C0).below hb1)
  clear hb1 HC1 y0 y1 y2 y3 y4 B0 R0 C0
  go_wp2_with fail
  go_loopw [7] (fun i wr => ∃ k : Nat, k ≤ l.length ∧ i = .int .i64 k ∧ Hid (∀ j, j < k → cmK (l.getD j default) = true) ∧ Hid (Below w1.heap.size w1 wr)) (fun i _ => l.length - (intOf i).toNat)
  case atStart => exact ⟨0, Nat.zero_le _, rfl, hide (fun j hj => absurd hj (Nat.not_lt_zero _)), hide (Below.refl _ _)⟩
  case round =>
    obtain ⟨k, hk, rfl, HGO, HBR⟩ := hrel
    have K2 := hide ((unhide K1).trans ((unhide HBR).mono (unhide K1).size))
    have R2 := hide ((unhide R1).below (unhide HBR))
    have C2 := hide ((unhide C1).below (unhide HBR))
    have hwr : w.heap.size + 1 < wr.heap.size := (unhide R2).1
    by_cases hlt : k < l.length
    · obtain ⟨b, off, rfl, hbl, hsrc⟩ : ∃ b off, a = some ⟨b, off, none⟩ ∧ b < w.heap.size ∧ ∀ i, i < l.length → w.cell? ⟨b, off + i * 5, none⟩ = some (.int .i64 (l.getD i default).kd) ∧ w.cell? ⟨b, off + i * 5 + 1, none⟩ = some (.int .i64 (l.getD i default).ss) ∧ w.cell? ⟨b, off + i * 5 + 2, none⟩ = some (.int .i64 (l.getD i default).sq) ∧ w.cell? ⟨b, off + i * 5 + 3, none⟩ = some (.string (l.getD i default).ky) ∧ w.cell? ⟨b, off + i * 5 + 4, none⟩ = some (.string (l.getD i default).vl) := by
        rcases unhide HC with h0 | h1
        · omega
        · exact h1
      obtain ⟨s0, s1, s2, s3, s4⟩ := hsrc k hlt
      have d0 := ((unhide K2).cell (p := ⟨b, off + k * 5, none⟩) hbl).trans s0
      have d1 := ((unhide K2).cell (p := ⟨b, off + k * 5 + 1, none⟩) hbl).trans s1
      have d2 := ((unhide K2).cell (p := ⟨b, off + k * 5 + 2, none⟩) hbl).trans s2
      have d3 := ((unhide K2).cell (p := ⟨b, off + k * 5 + 3, none⟩) hbl).trans s3
      have d4 := ((unhide K2).cell (p := ⟨b, off + k * 5 + 4, none⟩) hbl).trans s4
      have hk0 : (0 : Int) ≤ (k : Int) := by omega
      have hk1 : (k : Int) < (l.length : Int) := by omega
      have m2 : IntKind.i64.wrap ((k : Int) + 1) = (k : Int) + 1 := wrapCm _ (by omega) (by omega)
      have hzk := unhide HZ k hlt
      have HCO := hide (specCommandOK_any (l.getD k default).kd (l.getD k default).ss (l.getD k default).sq (l.getD k default).ky (l.getD k default).vl wr hzk.1 hzk.2)
      have hck : cmdOK (l.getD k default).kd (l.getD k default).ss (l.getD k default).sq (l.getD k default).ky (l.getD k default).vl = cmK (l.getD k default) := rfl
      rw [hck] at HCO
      clear hck hzk hsrc s0 s1 s2 s3 s4
      cases hq : cmK (l.getD k default)
      · rw [hq] at HCO
        have E := hide (unhide HB h1 (.inr ⟨k, hlt, hq⟩))
        clear hq
        generalize l.getD k default = f at *
        go_wp2_with fail
        refine (unhide HCO).mono ?_
        rintro e w3 ⟨rfl, hb3⟩
        have K3 := hide ((unhide K2).trans (hb3.mono (unhide K2).size))
        have R3 := hide ((unhide R2).below hb3)
        have hw3 : w.heap.size + 1 < w3.heap.size := (unhide R3).1
        clear hb3 HCO d0 d1 d2 d3 d4
        have RX := unhide R3
        have rx0 := RX.cell 0 rfl
        have rx1 := RX.cell 1 rfl
        have rx2 := RX.cell 2 rfl
        have rf0 := RX.fro 0
        have rf1 := RX.fro 1
        have rf2 := RX.fro 2
        have HR9 := hide (((RX.set 0 (.int .i64 0) (by simp)).set 1 (.int .i64 0) (by simp)).set 2 (.string ⟨#[]⟩) (by simp))
        have T9 := ((((Touch.refl (fun x => x = w.heap.size + 1) w3).setCell ⟨w.heap.size + 1, 0, none⟩ (.int .i64 0) (fun _ => rfl)).setCell ⟨w.heap.size + 1, 1, none⟩ (.int .i64 0) (fun _ => rfl)).setCell ⟨w.heap.size + 1, 2, none⟩ (.string ⟨#[]⟩) (fun _ => rfl))
        have K9 := hide ((unhide K3).trans (T9.below (unhide K3).size (fun x hx e => by omega)))
        clear RX T9
        go_wp2_with fail
        have R9 := unhide HR9
        have z0 := R9.cell 0 rfl
        have z1 := R9.cell 1 rfl
        have z2 := R9.cell 2 rfl
        refine bodyPost_ret (v := .tuple #[.agg #[.int .i64 0, .int .i64 0, .string ⟨#[]⟩], .int .i64 0, .int .i64 1]) (by simp [results, Tryz.results25, go_sem, z0, z1, z2]) rfl ?_
        exact ⟨by rw [unhide E]; rfl, unhide K9⟩
      · rw [hq] at HCO
        have HGN := hide (show ∀ j, j < k + 1 → cmK (l.getD j default) = true from fun j hj => by
          by_cases e : j = k
          · rw [e]; exact hq
          · exact unhide HGO j (by omega))
        clear hq
        generalize l.getD k default = f at *
        go_wp2_with fail
        refine (unhide HCO).mono ?_
        rintro e w3 ⟨rfl, hb3⟩
        have HB3 := hide ((unhide HBR).trans (hb3.mono (unhide HBR).size))
        clear hb3 HCO d0 d1 d2 d3 d4
        go_wp2_with fail
        refine ⟨⟨k + 1, by omega, by go_num, HGN, HB3⟩, ?_⟩
        simp [intOf]; omega
    · obtain rfl : k = l.length := by omega
      have HNB := hide (not_bad (unhide HCK) (unhide HGO))
      have HA1 := hide (unhide HAN wr ((unhide HH).below (unhide K2)) (by omega) (unhide HGO))
      have y0 := (unhide C2).cell 0 rfl
      have y1 := (unhide C2).cell 1 rfl
      have y2 := (unhide C2).cell 2 rfl
      have y3 := (unhide C2).cell 3 rfl
      have y4 := (unhide C2).cell 4 rfl
      clear HAN
      go_wp2_with fail
      refine (unhide HA1).mono ?_
      rintro e w3 ⟨hor, hb3⟩
      have K3 := hide ((unhide K2).trans (hb3.mono (unhide K2).size))
      have R3 := hide ((unhide R2).below hb3)
      clear HA1 y0 y1 y2 y3 y4
      rcases hor with ⟨k, hat, rfl⟩ | ⟨hno, rfl⟩
      · have E := hide (unhide HA h1 (unhide HNB) k hat)
        generalize reA l k = rN at *
        have NZ := Blk.new w3 #[.int .i64 0, .int .i64 0, .string ⟨#[]⟩] 40 w3.heap.size rfl
        have zc0 := NZ.cell 0 rfl
        have zf0 := NZ.fro 0
        have zc1 := NZ.cell 1 rfl
        have zf1 := NZ.fro 1
        have zc2 := NZ.cell 2 rfl
        have zf2 := NZ.fro 2
        have bA := (Below.refl w3.heap.size w3).alloc (Nat.le_refl _) (.cells #[.int .i64 rN.kd, .int .i64 rN.pl, .string rN.vl] 40)
        have V4 := hide (Blk.new w3 #[.int .i64 rN.kd, .int .i64 rN.pl, .string rN.vl] 40 w3.heap.size rfl)
        have K4 := hide ((unhide K3).trans (bA.mono (unhide K3).size))
        have R4 := hide ((unhide R3).below bA)
        have hw3 : w.heap.size + 1 < w3.heap.size := (unhide R3).1
        clear NZ bA hb3
        go_upto_region 13 with fail
        clear zc0 zc1 zc2 zf0 zf1 zf2
        generalize w3.alloc (.cells #[.int .i64 rN.kd, .int .i64 rN.pl, .string rN.vl] 40) = w4 at *
        generalize w3.heap.size = rv at *
        have v0 := (unhide V4).cell 0 rfl
        have v1 := (unhide V4).cell 1 rfl
        have v2 := (unhide V4).cell 2 rfl
        have hw4 : rv < w4.heap.size := (unhide V4).1
        have hne : w.heap.size + 1 ≠ rv := by omega
        have RX := unhide R4
        have rx0 := RX.cell 0 rfl
        have rx1 := RX.cell 1 rfl
        have rx2 := RX.cell 2 rfl
        have rf0 := RX.fro 0
        have rf1 := RX.fro 1
        have rf2 := RX.fro 2
        have HR9 := hide (((RX.set 0 (.int .i64 rN.kd) (by simp)).set 1 (.int .i64 rN.pl) (by simp)).set 2 (.string rN.vl) (by simp))
        have T9 := ((((Touch.refl (fun x => x = w.heap.size + 1) w4).setCell ⟨w.heap.size + 1, 0, none⟩ (.int .i64 rN.kd) (fun _ => rfl)).setCell ⟨w.heap.size + 1, 1, none⟩ (.int .i64 rN.pl) (fun _ => rfl)).setCell ⟨w.heap.size + 1, 2, none⟩ (.string rN.vl) (fun _ => rfl))
        have K9 := hide ((unhide K4).trans (T9.below (unhide K4).size (fun x hx e => by omega)))
        clear RX T9
        go_wp2_with fail
        have R9 := unhide HR9
        have z0 := R9.cell 0 rfl
        have z1 := R9.cell 1 rfl
        have z2 := R9.cell 2 rfl
        refine bodyPost_ret (v := .tuple #[.agg #[.int .i64 rN.kd, .int .i64 rN.pl, .string rN.vl], .int .i64 (k : Int), .int .i64 0]) (by simp [results, Tryz.results25, go_sem, z0, z1, z2]) rfl ?_
        exact ⟨by rw [unhide E], unhide K9⟩
      · have E := hide (unhide HN h1 (unhide HNB) hno)
        have NZ := Blk.new w3 #[.int .i64 0, .int .i64 0, .string ⟨#[]⟩] 40 w3.heap.size rfl
        have zc0 := NZ.cell 0 rfl
        have zf0 := NZ.fro 0
        have zc1 := NZ.cell 1 rfl
        have zf1 := NZ.fro 1
        have zc2 := NZ.cell 2 rfl
        have zf2 := NZ.fro 2
        have bA := (Below.refl w3.heap.size w3).alloc (Nat.le_refl _) (.cells #[.int .i64 0, .int .i64 0, .string ⟨#[]⟩] 40)
        have K4 := hide ((unhide K3).trans (bA.mono (unhide K3).size))
        have R4 := hide ((unhide R3).below bA)
        clear NZ bA hb3 hno
        go_upto_region 13 with fail
        clear zc0 zc1 zc2 zf0 zf1 zf2
        generalize w3.alloc (.cells #[.int .i64 0, .int .i64 0, .string ⟨#[]⟩] 40) = w4 at *
        have hw4 : w.heap.size + 1 < w4.heap.size := (unhide R4).1
        have RX := unhide R4
        have rx0 := RX.cell 0 rfl
        have rx1 := RX.cell 1 rfl
        have rx2 := RX.cell 2 rfl
        have rf0 := RX.fro 0
        have rf1 := RX.fro 1
        have rf2 := RX.fro 2
        have HR9 := hide (((RX.set 0 (.int .i64 0) (by simp)).set 1 (.int .i64 0) (by simp)).set 2 (.string ⟨#[]⟩) (by simp))
        have T9 := ((((Touch.refl (fun x => x = w.heap.size + 1) w4).setCell ⟨w.heap.size + 1, 0, none⟩ (.int .i64 0) (fun _ => rfl)).setCell ⟨w.heap.size + 1, 1, none⟩ (.int .i64 0) (fun _ => rfl)).setCell ⟨w.heap.size + 1, 2, none⟩ (.string ⟨#[]⟩) (fun _ => rfl))
        have K9 := hide ((unhide K4).trans (T9.below (unhide K4).size (fun x hx e => by omega)))
        clear RX T9
        go_wp2_with fail
        have R9 := unhide HR9
        have z0 := R9.cell 0 rfl
        have z1 := R9.cell 1 rfl
        have z2 := R9.cell 2 rfl
        refine bodyPost_ret (v := .tuple #[.agg #[.int .i64 0, .int .i64 0, .string ⟨#[]⟩], .int .i64 0, .int .i64 5]) (by simp [results, Tryz.results25, go_sem, z0, z1, z2]) rfl ?_
        exact ⟨by rw [unhide E]; rfl, unhide K9⟩
end Go.Proofs.YtnhhnjmjodmacaaGreatDoor.Sha
