/- What the proof of the claim needs (joined by program): ApJ AqB AnsP Src SrcB SrcC. -/
import Derived.Test.YtlbcdngidfjogaaGreatDoorQba19
import Derived.Test.YtlbcdngidfjogaaGreatDoorQba08
import Derived.Test.YtlbcdngidfjogaaGreatDoorQba18
import Derived.Test.YtlbcdngidfjogaaGreatDoorQba00
import Derived.StillTail
import Derived.Deep.RegionHeld3
namespace Go.Proofs.YtlbcdngidfjogaaGreatDoor.Sha
set_option maxRecDepth 100000
set_option maxHeartbeats 8000000
open Go.ChangeShapes Go.WideShapes Go.ChangeAt Go.RowKit Go.Deep
set_option linter.unusedVariables false
set_option linter.unusedSimpArgs false
def zRe : Re := ⟨0, 0, ⟨#[]⟩⟩
def anBad (l : List Cm) (c : Cm) : Prop := cmK c = false ∨ ∃ i, i < l.length ∧ cmK (l.getD i default) = false
open Classical in
noncomputable def anO (l : List Cm) (c : Cm) : Re × Int × Int :=
 if 4096 < l.length then (zRe, 0, 2) else if 120 < l.length then (zRe, 0, 6) else if anBad l c then (zRe, 0, 1) else if h : ∃ k, At l c k then (reA l (Classical.choose h), ((Classical.choose h : Nat) : Int), 0) else (zRe, 0, 5)
theorem anO_long {l : List Cm} {c : Cm} (h : 4096 < l.length) : anO l c = (zRe, 0, 2) := by unfold anO; rw [if_pos h]
theorem anO_many {l : List Cm} {c : Cm} (h : ¬ 4096 < l.length) (h1 : 120 < l.length) : anO l c = (zRe, 0, 6) := by unfold anO; rw [if_neg h, if_pos h1]
theorem anO_bad {l : List Cm} {c : Cm} (h1 : ¬ 120 < l.length) (h2 : anBad l c) : anO l c = (zRe, 0, 1) := by unfold anO; rw [if_neg (by omega), if_neg h1, if_pos h2]
theorem anO_at {l : List Cm} {c : Cm} (h1 : ¬ 120 < l.length) (h2 : ¬ anBad l c) {k : Nat} (hk : At l c k) : anO l c = (reA l k, (k : Int), 0) := by
 unfold anO
 have h : ∃ k, At l c k := ⟨k, hk⟩
 rw [if_neg (by omega), if_neg h1, if_neg h2, dif_pos h, (Classical.choose_spec h).uniq hk]
theorem anO_no {l : List Cm} {c : Cm} (h1 : ¬ 120 < l.length) (h2 : ¬ anBad l c) (hk : No l c) : anO l c = (zRe, 0, 5) := by
 unfold anO
 rw [if_neg (by omega), if_neg h1, if_neg h2, dif_neg (fun ⟨k, h⟩ => hk k h.1 h.2.1)]
theorem not_bad {l : List Cm} {c : Cm} (h : cmK c = true) (h1 : ∀ i, i < l.length → cmK (l.getD i default) = true) : ¬ anBad l c := by
 rintro (e | ⟨i, hi, e⟩)
 ·rw [h] at e; cases e
 ·rw [h1 i hi] at e; cases e
theorem specAnswerIn_any (v : Value) (l : List Cm) (c : Cm) (w : World) (h : Css w v l) (hs : l.length ≤ 1048576) (hz : ∀ i, i < l.length → (l.getD i default).ky.size ≤ maxLen ∧ (l.getD i default).vl.size ≤ maxLen) (hcz : c.ky.size ≤ maxLen ∧ c.vl.size ≤ maxLen) :
  Calls Tryz.prog 7 #[v, .agg #[.int .i64 c.kd, .int .i64 c.ss, .int .i64 c.sq, .string c.ky, .string c.vl]] w fun e w' => e = .returned (.tuple #[.agg #[.int .i64 (anO l c).1.kd, .int .i64 (anO l c).1.pl, .string (anO l c).1.vl], .int .i64 (anO l c).2.1, .int .i64 (anO l c).2.2]) ∧ Below w.heap.size w w' := by
 have HL := Hd (fun hx => anO_long (l := l) (c := c) hx)
 have HM := Hd (fun hx hy => anO_many (l := l) (c := c) hx hy)
 have HB := Hd (fun hx hy => anO_bad (l := l) (c := c) hx hy)
 have HA := Hd (fun hx hy k hk => anO_at (l := l) (c := c) hx hy (k := k) hk)
 have HN := Hd (fun hx hy hk => anO_no (l := l) (c := c) hx hy hk)
 have HAN := Hd (fun wx (hx : Css wx v l) (h1 : l.length ≤ 120) h2 => l13Answer_any v l c wx hx h1 h2)
 have HZ := Hd hz
 have HH := Hd h
 have HCO := Hd (fun wx => specCommandOK_any c.kd c.ss c.sq c.ky c.vl wx hcz.1 hcz.2)
 have hck : cmdOK c.kd c.ss c.sq c.ky c.vl = cmK c := rfl
 rw [hck] at HCO
 clear hck hz
 generalize anO l c = out at *
 obtain ⟨a, cap, rfl, hn, hm, hc⟩ := h
 have HC := Hd hc
 clear hc hm hn
 have B0 := Hd ((bal w (.cells #[.int .i64 c.kd, .int .i64 c.ss, .int .i64 c.sq, .string c.ky, .string c.vl] 31)).alloc (by simp) (.cells #[.int .i64 0, .int .i64 0, .string ⟨#[]⟩] 27))
 have C0 := Hd ((Blk.new w #[.int .i64 c.kd, .int .i64 c.ss, .int .i64 c.sq, .string c.ky, .string c.vl] 31 w.heap.size rfl).alloc (.cells #[.int .i64 0, .int .i64 0, .string ⟨#[]⟩] 27))
 have R0 := Hd (Blk.new (w.alloc (.cells #[.int .i64 c.kd, .int .i64 c.ss, .int .i64 c.sq, .string c.ky, .string c.vl] 31)) #[.int .i64 0, .int .i64 0, .string ⟨#[]⟩] 27 (w.heap.size + 1) (by simp))
 go_enter Tryz.func7, Tryz.ntmps7
 go_upto_region 1 with fail
 generalize (w.alloc (.cells #[.int .i64 c.kd, .int .i64 c.ss, .int .i64 c.sq, .string c.ky, .string c.vl] 31)).alloc (.cells #[.int .i64 0, .int .i64 0, .string ⟨#[]⟩] 27) = w0 at *
 have hw0 : w.heap.size + 1 < w0.heap.size := (uh R0).1
 by_cases h4 : 4096 < l.length
 ·have hi4 : (4096 : Int) < (l.length : Int) := by omega
  have E := Hd (uh HL h4)
  have RX := uh R0
  have rx0 := RX.cell 0 rfl
  have rx1 := RX.cell 1 rfl
  have rx2 := RX.cell 2 rfl
  have rf0 := RX.fro 0
  have rf1 := RX.fro 1
  have rf2 := RX.fro 2
  have HR9 := Hd (((RX.set 0 (.int .i64 0) (by simp)).set 1 (.int .i64 0) (by simp)).set 2 (.string ⟨#[]⟩) (by simp))
  have T9 := ((((Touch.refl (fun x => x = w.heap.size + 1) w0).setCell ⟨w.heap.size + 1, 0, none⟩ (.int .i64 0) (fun _ => rfl)).setCell ⟨w.heap.size + 1, 1, none⟩ (.int .i64 0) (fun _ => rfl)).setCell ⟨w.heap.size + 1, 2, none⟩ (.string ⟨#[]⟩) (fun _ => rfl))
  have K9 := Hd ((uh B0).trans (T9.below (uh B0).size (fun x hx e => by omega)))
  clear RX T9
  go_wp2_with fail
  have R9 := uh HR9
  have z0 := R9.cell 0 rfl
  have z1 := R9.cell 1 rfl
  have z2 := R9.cell 2 rfl
  refine bodyPost_ret (v := .tuple #[.agg #[.int .i64 0, .int .i64 0, .string ⟨#[]⟩], .int .i64 0, .int .i64 2]) (by simp [results, Tryz.results7, go_sem, z0, z1, z2]) rfl ?_
  exact ⟨by rw [uh E]; rfl, uh K9⟩
 by_cases h1 : 120 < l.length
 ·have hi4 : ¬ (4096 : Int) < (l.length : Int) := by omega
  have hi1 : (120 : Int) < (l.length : Int) := by omega
  have E := Hd (uh HM h4 h1)
  have RX := uh R0
  have rx0 := RX.cell 0 rfl
  have rx1 := RX.cell 1 rfl
  have rx2 := RX.cell 2 rfl
  have rf0 := RX.fro 0
  have rf1 := RX.fro 1
  have rf2 := RX.fro 2
  have HR9 := Hd (((RX.set 0 (.int .i64 0) (by simp)).set 1 (.int .i64 0) (by simp)).set 2 (.string ⟨#[]⟩) (by simp))
  have T9 := ((((Touch.refl (fun x => x = w.heap.size + 1) w0).setCell ⟨w.heap.size + 1, 0, none⟩ (.int .i64 0) (fun _ => rfl)).setCell ⟨w.heap.size + 1, 1, none⟩ (.int .i64 0) (fun _ => rfl)).setCell ⟨w.heap.size + 1, 2, none⟩ (.string ⟨#[]⟩) (fun _ => rfl))
  have K9 := Hd ((uh B0).trans (T9.below (uh B0).size (fun x hx e => by omega)))
  clear RX T9
  go_wp2_with fail
  have R9 := uh HR9
  have z0 := R9.cell 0 rfl
  have z1 := R9.cell 1 rfl
  have z2 := R9.cell 2 rfl
  refine bodyPost_ret (v := .tuple #[.agg #[.int .i64 0, .int .i64 0, .string ⟨#[]⟩], .int .i64 0, .int .i64 6]) (by simp [results, Tryz.results7, go_sem, z0, z1, z2]) rfl ?_
  exact ⟨by rw [uh E]; rfl, uh K9⟩
 have hi4 : ¬ (4096 : Int) < (l.length : Int) := by omega
 have hi1 : ¬ (120 : Int) < (l.length : Int) := by omega
 have HC1 := Hd (uh HCO w0)
 obtain ⟨y0, y1, y2, y3, y4⟩ := Blk.c5 (uh C0)
 cases hcc : cmK c
 ·rw [hcc] at HC1
  have E := Hd (uh HB h1 (.inl hcc))
  go_wp2_with fail
  refine (uh HC1).mono ?_
  rintro e w1 ⟨rfl, hb1⟩
  have K1 := hbt B0 hb1
  have R1 := Hd ((uh R0).below hb1)
  have hw1 : w.heap.size + 1 < w1.heap.size := (uh R1).1
  clear hb1 HC1 y0 y1 y2 y3 y4
  have RX := uh R1
  have rx0 := RX.cell 0 rfl
  have rx1 := RX.cell 1 rfl
  have rx2 := RX.cell 2 rfl
  have rf0 := RX.fro 0
  have rf1 := RX.fro 1
  have rf2 := RX.fro 2
  have HR9 := Hd (((RX.set 0 (.int .i64 0) (by simp)).set 1 (.int .i64 0) (by simp)).set 2 (.string ⟨#[]⟩) (by simp))
  have T9 := ((((Touch.refl (fun x => x = w.heap.size + 1) w1).setCell ⟨w.heap.size + 1, 0, none⟩ (.int .i64 0) (fun _ => rfl)).setCell ⟨w.heap.size + 1, 1, none⟩ (.int .i64 0) (fun _ => rfl)).setCell ⟨w.heap.size + 1, 2, none⟩ (.string ⟨#[]⟩) (fun _ => rfl))
  have K9 := Hd ((uh K1).trans (T9.below (uh K1).size (fun x hx e => by omega)))
  clear RX T9
  go_wp2_with fail
  have R9 := uh HR9
  have z0 := R9.cell 0 rfl
  have z1 := R9.cell 1 rfl
  have z2 := R9.cell 2 rfl
  refine bodyPost_ret (v := .tuple #[.agg #[.int .i64 0, .int .i64 0, .string ⟨#[]⟩], .int .i64 0, .int .i64 1]) (by simp [results, Tryz.results7, go_sem, z0, z1, z2]) rfl ?_
  exact ⟨by rw [uh E]; rfl, uh K9⟩
 rw [hcc] at HC1
 have HCK := Hd hcc
 clear hcc HCO HL HM
 go_wp2_with fail
 refine (uh HC1).mono ?_
 rintro e w1 ⟨rfl, hb1⟩
 have K1 := hbt B0 hb1
 have R1 := Hd ((uh R0).below hb1)
 have C1 := Hd ((uh C0).below hb1)
 clear hb1 HC1 y0 y1 y2 y3 y4 B0 R0 C0
 go_wp2_with fail
 go_loopw [7] (fun i wr => ∃ k : Nat, k ≤ l.length ∧ i = .int .i64 k ∧ Hid (∀ j, j < k → cmK (l.getD j default) = true) ∧ Hid (Below w1.heap.size w1 wr)) (fun i _ => l.length - (intOf i).toNat)
 case atStart => exact ⟨0, Nat.zero_le _, rfl, Hd (fun j hj => absurd hj (Nat.not_lt_zero _)), Hd (Below.refl _ _)⟩
 case round =>
  obtain ⟨k, hk, rfl, HGO, HBR⟩ := hrel
  have K2 := Hd ((uh K1).trans ((uh HBR).mono (uh K1).size))
  have R2 := Hd ((uh R1).below (uh HBR))
  have C2 := Hd ((uh C1).below (uh HBR))
  have hwr : w.heap.size + 1 < wr.heap.size := (uh R2).1
  by_cases hlt : k < l.length
  ·obtain ⟨b, off, rfl, hbl, hsrc⟩ : ∃ b off, a = some ⟨b, off, none⟩ ∧ b < w.heap.size ∧ ∀ i, i < l.length → w.cell? ⟨b, off + i * 5, none⟩ = some (.int .i64 (l.getD i default).kd) ∧ w.cell? ⟨b, off + i * 5 + 1, none⟩ = some (.int .i64 (l.getD i default).ss) ∧ w.cell? ⟨b, off + i * 5 + 2, none⟩ = some (.int .i64 (l.getD i default).sq) ∧ w.cell? ⟨b, off + i * 5 + 3, none⟩ = some (.string (l.getD i default).ky) ∧ w.cell? ⟨b, off + i * 5 + 4, none⟩ = some (.string (l.getD i default).vl) := by
    rcases uh HC with h0 | h1
    ·omega
    ·exact h1
   obtain ⟨s0, s1, s2, s3, s4⟩ := hsrc k hlt
   have d0 := ((uh K2).cell (p := ⟨b, off + k * 5, none⟩) hbl).trans s0
   have d1 := ((uh K2).cell (p := ⟨b, off + k * 5 + 1, none⟩) hbl).trans s1
   have d2 := ((uh K2).cell (p := ⟨b, off + k * 5 + 2, none⟩) hbl).trans s2
   have d3 := ((uh K2).cell (p := ⟨b, off + k * 5 + 3, none⟩) hbl).trans s3
   have d4 := ((uh K2).cell (p := ⟨b, off + k * 5 + 4, none⟩) hbl).trans s4
   have hk0 : (0 : Int) ≤ (k : Int) := by omega
   have hk1 : (k : Int) < (l.length : Int) := by omega
   have m2 : IntKind.i64.wrap ((k : Int) + 1) = (k : Int) + 1 := wrapCm _ (by omega) (by omega)
   have hzk := uh HZ k hlt
   have HCO := Hd (specCommandOK_any (l.getD k default).kd (l.getD k default).ss (l.getD k default).sq (l.getD k default).ky (l.getD k default).vl wr hzk.1 hzk.2)
   have hck : cmdOK (l.getD k default).kd (l.getD k default).ss (l.getD k default).sq (l.getD k default).ky (l.getD k default).vl = cmK (l.getD k default) := rfl
   rw [hck] at HCO
   clear hck hzk hsrc s0 s1 s2 s3 s4
   cases hq : cmK (l.getD k default)
   ·rw [hq] at HCO
    have E := Hd (uh HB h1 (.inr ⟨k, hlt, hq⟩))
    clear hq
    generalize l.getD k default = f at *
    go_wp2_with fail
    refine (uh HCO).mono ?_
    rintro e w3 ⟨rfl, hb3⟩
    have K3 := hbt K2 hb3
    have R3 := Hd ((uh R2).below hb3)
    have hw3 : w.heap.size + 1 < w3.heap.size := (uh R3).1
    clear hb3 HCO d0 d1 d2 d3 d4
    have RX := uh R3
    have rx0 := RX.cell 0 rfl
    have rx1 := RX.cell 1 rfl
    have rx2 := RX.cell 2 rfl
    have rf0 := RX.fro 0
    have rf1 := RX.fro 1
    have rf2 := RX.fro 2
    have HR9 := Hd (((RX.set 0 (.int .i64 0) (by simp)).set 1 (.int .i64 0) (by simp)).set 2 (.string ⟨#[]⟩) (by simp))
    have T9 := ((((Touch.refl (fun x => x = w.heap.size + 1) w3).setCell ⟨w.heap.size + 1, 0, none⟩ (.int .i64 0) (fun _ => rfl)).setCell ⟨w.heap.size + 1, 1, none⟩ (.int .i64 0) (fun _ => rfl)).setCell ⟨w.heap.size + 1, 2, none⟩ (.string ⟨#[]⟩) (fun _ => rfl))
    have K9 := Hd ((uh K3).trans (T9.below (uh K3).size (fun x hx e => by omega)))
    clear RX T9
    go_wp2_with fail
    have R9 := uh HR9
    have z0 := R9.cell 0 rfl
    have z1 := R9.cell 1 rfl
    have z2 := R9.cell 2 rfl
    refine bodyPost_ret (v := .tuple #[.agg #[.int .i64 0, .int .i64 0, .string ⟨#[]⟩], .int .i64 0, .int .i64 1]) (by simp [results, Tryz.results7, go_sem, z0, z1, z2]) rfl ?_
    exact ⟨by rw [uh E]; rfl, uh K9⟩
   ·rw [hq] at HCO
    have HGN := Hd (show ∀ j, j < k + 1 → cmK (l.getD j default) = true from fun j hj => by
     by_cases e : j = k
     ·rw [e]; exact hq
     ·exact uh HGO j (by omega))
    clear hq
    generalize l.getD k default = f at *
    go_wp2_with fail
    refine (uh HCO).mono ?_
    rintro e w3 ⟨rfl, hb3⟩
    have HB3 := hbt HBR hb3
    clear hb3 HCO d0 d1 d2 d3 d4
    go_wp2_with fail
    refine ⟨⟨k + 1, by omega, by go_num, HGN, HB3⟩, ?_⟩
    simp [intOf]; omega
  ·obtain rfl : k = l.length := by omega
   have HNB := Hd (not_bad (uh HCK) (uh HGO))
   have HA1 := Hd (uh HAN wr ((uh HH).below (uh K2)) (by omega) (uh HGO))
   obtain ⟨y0, y1, y2, y3, y4⟩ := Blk.c5 (uh C2)
   clear HAN
   go_wp2_with fail
   refine (uh HA1).mono ?_
   rintro e w3 ⟨hor, hb3⟩
   have K3 := hbt K2 hb3
   have R3 := Hd ((uh R2).below hb3)
   clear HA1 y0 y1 y2 y3 y4
   rcases hor with ⟨k, hat, rfl⟩ | ⟨hno, rfl⟩
   ·have E := Hd (uh HA h1 (uh HNB) k hat)
    generalize reA l k = rN at *
    have NZ := Blk.new w3 #[.int .i64 0, .int .i64 0, .string ⟨#[]⟩] 27 w3.heap.size rfl
    obtain ⟨⟨zc0, zc1, zc2⟩, zf0, zf1, zf2⟩ := Blk.c3 NZ
    have bA := bal w3 (.cells #[.int .i64 rN.kd, .int .i64 rN.pl, .string rN.vl] 27)
    have V4 := Hd (Blk.new w3 #[.int .i64 rN.kd, .int .i64 rN.pl, .string rN.vl] 27 w3.heap.size rfl)
    have K4 := hbt K3 bA
    have R4 := Hd ((uh R3).below bA)
    have hw3 : w.heap.size + 1 < w3.heap.size := (uh R3).1
    clear NZ bA hb3
    go_upto_region 13 with fail
    clear zc0 zc1 zc2 zf0 zf1 zf2
    generalize w3.alloc (.cells #[.int .i64 rN.kd, .int .i64 rN.pl, .string rN.vl] 27) = w4 at *
    generalize w3.heap.size = rv at *
    have v0 := (uh V4).cell 0 rfl
    have v1 := (uh V4).cell 1 rfl
    have v2 := (uh V4).cell 2 rfl
    have hw4 : rv < w4.heap.size := (uh V4).1
    have hne : w.heap.size + 1 ≠ rv := by omega
    have RX := uh R4
    have rx0 := RX.cell 0 rfl
    have rx1 := RX.cell 1 rfl
    have rx2 := RX.cell 2 rfl
    have rf0 := RX.fro 0
    have rf1 := RX.fro 1
    have rf2 := RX.fro 2
    have HR9 := Hd (((RX.set 0 (.int .i64 rN.kd) (by simp)).set 1 (.int .i64 rN.pl) (by simp)).set 2 (.string rN.vl) (by simp))
    have T9 := ((((Touch.refl (fun x => x = w.heap.size + 1) w4).setCell ⟨w.heap.size + 1, 0, none⟩ (.int .i64 rN.kd) (fun _ => rfl)).setCell ⟨w.heap.size + 1, 1, none⟩ (.int .i64 rN.pl) (fun _ => rfl)).setCell ⟨w.heap.size + 1, 2, none⟩ (.string rN.vl) (fun _ => rfl))
    have K9 := Hd ((uh K4).trans (T9.below (uh K4).size (fun x hx e => by omega)))
    clear RX T9
    go_wp2_with fail
    have R9 := uh HR9
    have z0 := R9.cell 0 rfl
    have z1 := R9.cell 1 rfl
    have z2 := R9.cell 2 rfl
    refine bodyPost_ret (v := .tuple #[.agg #[.int .i64 rN.kd, .int .i64 rN.pl, .string rN.vl], .int .i64 (k : Int), .int .i64 0]) (by simp [results, Tryz.results7, go_sem, z0, z1, z2]) rfl ?_
    exact ⟨by rw [uh E], uh K9⟩
   ·have E := Hd (uh HN h1 (uh HNB) hno)
    have NZ := Blk.new w3 #[.int .i64 0, .int .i64 0, .string ⟨#[]⟩] 27 w3.heap.size rfl
    obtain ⟨⟨zc0, zc1, zc2⟩, zf0, zf1, zf2⟩ := Blk.c3 NZ
    have bA := bal w3 (.cells #[.int .i64 0, .int .i64 0, .string ⟨#[]⟩] 27)
    have K4 := hbt K3 bA
    have R4 := Hd ((uh R3).below bA)
    clear NZ bA hb3 hno
    go_upto_region 13 with fail
    clear zc0 zc1 zc2 zf0 zf1 zf2
    generalize w3.alloc (.cells #[.int .i64 0, .int .i64 0, .string ⟨#[]⟩] 27) = w4 at *
    have hw4 : w.heap.size + 1 < w4.heap.size := (uh R4).1
    have RX := uh R4
    have rx0 := RX.cell 0 rfl
    have rx1 := RX.cell 1 rfl
    have rx2 := RX.cell 2 rfl
    have rf0 := RX.fro 0
    have rf1 := RX.fro 1
    have rf2 := RX.fro 2
    have HR9 := Hd (((RX.set 0 (.int .i64 0) (by simp)).set 1 (.int .i64 0) (by simp)).set 2 (.string ⟨#[]⟩) (by simp))
    have T9 := ((((Touch.refl (fun x => x = w.heap.size + 1) w4).setCell ⟨w.heap.size + 1, 0, none⟩ (.int .i64 0) (fun _ => rfl)).setCell ⟨w.heap.size + 1, 1, none⟩ (.int .i64 0) (fun _ => rfl)).setCell ⟨w.heap.size + 1, 2, none⟩ (.string ⟨#[]⟩) (fun _ => rfl))
    have K9 := Hd ((uh K4).trans (T9.below (uh K4).size (fun x hx e => by omega)))
    clear RX T9
    go_wp2_with fail
    have R9 := uh HR9
    have z0 := R9.cell 0 rfl
    have z1 := R9.cell 1 rfl
    have z2 := R9.cell 2 rfl
    refine bodyPost_ret (v := .tuple #[.agg #[.int .i64 0, .int .i64 0, .string ⟨#[]⟩], .int .i64 0, .int .i64 5]) (by simp [results, Tryz.results7, go_sem, z0, z1, z2]) rfl ?_
    exact ⟨by rw [uh E]; rfl, uh K9⟩
theorem aa_an (l : List Cm) (c : Cm) : ((aaO l).2.2 ≠ 0 ∧ anO l c = (zRe, 0, (aaO l).2.2)) ∨ ((aaO l).2.2 = 0 ∧ (aaO l).2.1 = resA l l.length ∧ ¬ 120 < l.length ∧ ∀ i, i < l.length → cmK (l.getD i default) = true) := by
 by_cases h4 : 4096 < l.length
 ·rw [aaO_long h4, anO_long h4]; exact .inl ⟨by decide, rfl⟩
 ·by_cases h1 : 120 < l.length
  ·rw [aaO_many h4 h1, anO_many h4 h1]; exact .inl ⟨by decide, rfl⟩
  ·by_cases hb : ∃ i, i < l.length ∧ cmK (l.getD i default) = false
   ·rw [aaO_bad h1 hb, anO_bad h1 (.inr hb)]; exact .inl ⟨by decide, rfl⟩
   ·have hg : ∀ i, i < l.length → cmK (l.getD i default) = true := fun i hi => by
     cases e : cmK (l.getD i default) with
     | true => rfl
     | false => exact absurd ⟨i, hi, e⟩ hb
    rw [aaO_good h1 hg]; exact .inr ⟨rfl, rfl, h1, hg⟩
theorem implAnswerIn_any (v : Value) (l : List Cm) (c : Cm) (w : World) (h : Css w v l) (hs : l.length ≤ 1048576) (hz : ∀ i, i < l.length → (l.getD i default).ky.size ≤ maxLen ∧ (l.getD i default).vl.size ≤ maxLen) (hcz : c.ky.size ≤ maxLen ∧ c.vl.size ≤ maxLen) (hT : Tab w) :
  Calls Tryz.prog 6 #[v, .agg #[.int .i64 c.kd, .int .i64 c.ss, .int .i64 c.sq, .string c.ky, .string c.vl]] w fun e w' => e = .returned (.tuple #[.agg #[.int .i64 (anO l c).1.kd, .int .i64 (anO l c).1.pl, .string (anO l c).1.vl], .int .i64 (anO l c).2.1, .int .i64 (anO l c).2.2]) ∧ Below w.heap.size w w' := by
 have HE := Hd (aa_an l c)
 have HAA := Hd (fun wx (hx : Below w.heap.size w wx) => implApplyAll_any v l wx (h.below hx) hs hz (hT.below hx))
 have HB := Hd (fun hx hy => anO_bad (l := l) (c := c) hx hy)
 have HA := Hd (fun hx hy k hk => anO_at (l := l) (c := c) hx hy (k := k) hk)
 have HN := Hd (fun hx hy hk => anO_no (l := l) (c := c) hx hy hk)
 have HIX := Hd (fun wx (hx : Below w.heap.size w wx) => indexCm_any v l c wx (h.below hx) hs)
 have HCO := Hd (fun wx => implCommandOK_any c.kd c.ss c.sq c.ky c.vl wx hcz.1 hcz.2)
 have hck : cmdOK c.kd c.ss c.sq c.ky c.vl = cmK c := rfl
 rw [hck] at HCO
 clear hck hz hT
 generalize anO l c = out at *
 generalize aaO l = aa at *
 obtain ⟨⟨ls, o, ss⟩, rs, code⟩ := aa
 dsimp only at HE
 have HEE : Hid (code ≠ 0 → out = (zRe, 0, code)) := Hd (fun hne => by
  rcases uh HE with h1 | h1
  ·exact h1.2
  ·exact absurd h1.1 hne)
 have HEG : Hid (code = 0 → rs = resA l l.length ∧ ¬ 120 < l.length ∧ ∀ i, i < l.length → cmK (l.getD i default) = true) := Hd (fun hne => by
  rcases uh HE with h1 | h1
  ·exact absurd hne h1.1
  ·exact h1.2)
 clear HE
 obtain ⟨a, cap, rfl, hn, hm, hc⟩ := h
 clear hc hm hn
 have B0 := Hd ((bal w (.cells #[.int .i64 c.kd, .int .i64 c.ss, .int .i64 c.sq, .string c.ky, .string c.vl] 31)).alloc (by simp) (.cells #[.int .i64 0, .int .i64 0, .string ⟨#[]⟩] 27))
 have C0 := Hd ((Blk.new w #[.int .i64 c.kd, .int .i64 c.ss, .int .i64 c.sq, .string c.ky, .string c.vl] 31 w.heap.size rfl).alloc (.cells #[.int .i64 0, .int .i64 0, .string ⟨#[]⟩] 27))
 have R0 := Hd (Blk.new (w.alloc (.cells #[.int .i64 c.kd, .int .i64 c.ss, .int .i64 c.sq, .string c.ky, .string c.vl] 31)) #[.int .i64 0, .int .i64 0, .string ⟨#[]⟩] 27 (w.heap.size + 1) (by simp))
 go_enter Tryz.func6, Tryz.ntmps6
 go_upto_region 1 with fail
 generalize (w.alloc (.cells #[.int .i64 c.kd, .int .i64 c.ss, .int .i64 c.sq, .string c.ky, .string c.vl] 31)).alloc (.cells #[.int .i64 0, .int .i64 0, .string ⟨#[]⟩] 27) = w0 at *
 have HA1 := Hd (uh HAA w0 (uh B0))
 clear HAA
 go_wp2_with fail
 refine (uh HA1).mono ?_
 rintro e w1 ⟨lv, kv, sv, rv, rfl, hAR, hb1⟩
 dsimp only at hAR ⊢
 obtain ⟨ho1, ho2, _, ho4, _, S, hbo, _⟩ := hAR
 obtain ⟨la, lc, rfl, _⟩ := ho1.strs
 obtain ⟨sa, sc, rfl, _⟩ := ho2.read
 obtain ⟨ka, kc, rfl, _⟩ := hbo.shape
 dsimp only
 generalize (brOf o).kids.length = kn at *
 have OR1 := Hd ho4
 have K1 := hbt B0 hb1
 have C1 := Hd ((uh C0).below hb1)
 have R1 := Hd ((uh R0).below hb1)
 have hw1 : w.heap.size + 1 < w1.heap.size := (uh R1).1
 have hw0 : w.heap.size + 1 < w0.heap.size := (uh R0).1
 clear ho1 ho2 ho4 hbo hb1 HA1 B0 C0 R0
 have NZ := Blk.new w1 #[.slice none 0 0, .string ⟨#[]⟩, .string ⟨#[]⟩, .int .i64 0, .slice none 0 0, .slice none 0 0] 42 w1.heap.size rfl
 obtain ⟨⟨zc0, zc1, zc2, zc3, zc4, zc5⟩, zf0, zf1, zf2, zf3, zf4, zf5⟩ := Blk.c6 NZ
 have bA := bal w1 (.cells #[.slice la ls.length lc, .string (brOf o).key, .string (brOf o).val, .int .i64 (brOf o).at_, .slice ka kn kc, .slice sa ss.length sc] 42)
 have K2 := hbt K1 bA
 have C2 := Hd ((uh C1).below bA)
 have R2 := Hd ((uh R1).below bA)
 have OR2 := Hd ((uh OR1).below bA)
 clear NZ bA K1 C1 R1 OR1
 go_upto_region 2 with fail
 clear zc0 zf0 zc1 zf1 zc2 zf2 zc3 zf3 zc4 zf4 zc5 zf5
 generalize w1.alloc (.cells #[.slice la ls.length lc, .string (brOf o).key, .string (brOf o).val, .int .i64 (brOf o).at_, .slice ka kn kc, .slice sa ss.length sc] 42) = w2 at *
 have hw2 : w.heap.size + 1 < w2.heap.size := (uh R2).1
 by_cases hco : code = 0
 ·obtain ⟨hrs, h1, hall⟩ := uh HEG hco
  subst hco
  have HALL := Hd hall
  have HRS := Hd hrs
  clear hall hrs HEE HEG
  have HC1 := Hd (uh HCO w2)
  obtain ⟨y0, y1, y2, y3, y4⟩ := Blk.c5 (uh C2)
  cases hcc : cmK c
  ·rw [hcc] at HC1
   have E := Hd (uh HB h1 (.inl hcc))
   go_wp2_with fail
   refine (uh HC1).mono ?_
   rintro e w3 ⟨rfl, hb3⟩
   have K3 := hbt K2 hb3
   have R3 := Hd ((uh R2).below hb3)
   have hw3 : w.heap.size + 1 < w3.heap.size := (uh R3).1
   clear hb3 HC1 y0 y1 y2 y3 y4
   have RX := uh R3
   have rx0 := RX.cell 0 rfl
   have rx1 := RX.cell 1 rfl
   have rx2 := RX.cell 2 rfl
   have rf0 := RX.fro 0
   have rf1 := RX.fro 1
   have rf2 := RX.fro 2
   have HR9 := Hd (((RX.set 0 (.int .i64 0) (by simp)).set 1 (.int .i64 0) (by simp)).set 2 (.string ⟨#[]⟩) (by simp))
   have T9 := ((((Touch.refl (fun x => x = w.heap.size + 1) w3).setCell ⟨w.heap.size + 1, 0, none⟩ (.int .i64 0) (fun _ => rfl)).setCell ⟨w.heap.size + 1, 1, none⟩ (.int .i64 0) (fun _ => rfl)).setCell ⟨w.heap.size + 1, 2, none⟩ (.string ⟨#[]⟩) (fun _ => rfl))
   have K9 := Hd ((uh K3).trans (T9.below (uh K3).size (fun x hx e => by omega)))
   clear RX T9
   go_wp2_with fail
   have R9 := uh HR9
   have z0 := R9.cell 0 rfl
   have z1 := R9.cell 1 rfl
   have z2 := R9.cell 2 rfl
   refine bodyPost_ret (v := .tuple #[.agg #[.int .i64 0, .int .i64 0, .string ⟨#[]⟩], .int .i64 0, .int .i64 1]) (by simp [results, Tryz.results6, go_sem, z0, z1, z2]) rfl ?_
   exact ⟨by rw [uh E]; rfl, uh K9⟩
  ·rw [hcc] at HC1
   have HNB := Hd (not_bad hcc (uh HALL))
   clear hcc
   go_wp2_with fail
   refine (uh HC1).mono ?_
   rintro e w3 ⟨rfl, hb3⟩
   have K3 := hbt K2 hb3
   have R3 := Hd ((uh R2).below hb3)
   have C3 := Hd ((uh C2).below hb3)
   have OR3 := Hd ((uh OR2).below hb3)
   clear hb3 HC1 y0 y1 y2 y3 y4 K2 R2 C2 OR2
   have HI1 := Hd (uh HIX w3 (uh K3))
   obtain ⟨y0, y1, y2, y3, y4⟩ := Blk.c5 (uh C3)
   go_wp2_with fail
   refine (uh HI1).mono ?_
   rintro e w4 ⟨hor, hb4⟩
   have K4 := hbt K3 hb4
   have R4 := Hd ((uh R3).below hb4)
   have OR4 := Hd ((uh OR3).below hb4)
   have hw4 : w.heap.size + 1 < w4.heap.size := (uh R4).1
   clear hb4 HI1 y0 y1 y2 y3 y4 K3 R3 C3 OR3
   rcases hor with ⟨k, hat, rfl⟩ | ⟨hno, rfl⟩
   ·have E := Hd (uh HA h1 (uh HNB) k hat)
    have hkl := hat.1
    have hor4 := uh OR4
    rw [uh HRS] at hor4
    unfold OwnRe at hor4
    rw [resA_len] at hor4
    obtain ⟨g, cg, he, hg, hg2⟩ := World.ownsRow.form hor4 (by omega)
    subst he
    obtain ⟨c0, c1, c2⟩ := OwnRe.cells hor4 k (by rw [resA_len]; exact hkl) (by rw [resA_len])
    rw [resA_get l l.length k hkl] at c0 c1 c2
    have hne : w.heap.size + 1 ≠ g := by omega
    have hk0 : (0 : Int) ≤ (k : Int) := by omega
    have hk1 : (k : Int) < (l.length : Int) := by omega
    have hk2 : ¬ (k : Int) < 0 := by omega
    generalize reA l k = rN at *
    clear hor4 OR4 hat HN HA HB
    have RX := uh R4
    have rx0 := RX.cell 0 rfl
    have rx1 := RX.cell 1 rfl
    have rx2 := RX.cell 2 rfl
    have rf0 := RX.fro 0
    have rf1 := RX.fro 1
    have rf2 := RX.fro 2
    have HR9 := Hd (((RX.set 0 (.int .i64 rN.kd) (by simp)).set 1 (.int .i64 rN.pl) (by simp)).set 2 (.string rN.vl) (by simp))
    have T9 := ((((Touch.refl (fun x => x = w.heap.size + 1) w4).setCell ⟨w.heap.size + 1, 0, none⟩ (.int .i64 rN.kd) (fun _ => rfl)).setCell ⟨w.heap.size + 1, 1, none⟩ (.int .i64 rN.pl) (fun _ => rfl)).setCell ⟨w.heap.size + 1, 2, none⟩ (.string rN.vl) (fun _ => rfl))
    have K9 := Hd ((uh K4).trans (T9.below (uh K4).size (fun x hx e => by omega)))
    clear RX T9
    go_wp2_with fail
    have R9 := uh HR9
    have z0 := R9.cell 0 rfl
    have z1 := R9.cell 1 rfl
    have z2 := R9.cell 2 rfl
    refine bodyPost_ret (v := .tuple #[.agg #[.int .i64 rN.kd, .int .i64 rN.pl, .string rN.vl], .int .i64 (k : Int), .int .i64 0]) (by simp [results, Tryz.results6, go_sem, z0, z1, z2]) rfl ?_
    exact ⟨by rw [uh E], uh K9⟩
   ·have E := Hd (uh HN h1 (uh HNB) hno)
    have RX := uh R4
    have rx0 := RX.cell 0 rfl
    have rx1 := RX.cell 1 rfl
    have rx2 := RX.cell 2 rfl
    have rf0 := RX.fro 0
    have rf1 := RX.fro 1
    have rf2 := RX.fro 2
    have HR9 := Hd (((RX.set 0 (.int .i64 0) (by simp)).set 1 (.int .i64 0) (by simp)).set 2 (.string ⟨#[]⟩) (by simp))
    have T9 := ((((Touch.refl (fun x => x = w.heap.size + 1) w4).setCell ⟨w.heap.size + 1, 0, none⟩ (.int .i64 0) (fun _ => rfl)).setCell ⟨w.heap.size + 1, 1, none⟩ (.int .i64 0) (fun _ => rfl)).setCell ⟨w.heap.size + 1, 2, none⟩ (.string ⟨#[]⟩) (fun _ => rfl))
    have K9 := Hd ((uh K4).trans (T9.below (uh K4).size (fun x hx e => by omega)))
    clear RX T9
    go_wp2_with fail
    have R9 := uh HR9
    have z0 := R9.cell 0 rfl
    have z1 := R9.cell 1 rfl
    have z2 := R9.cell 2 rfl
    refine bodyPost_ret (v := .tuple #[.agg #[.int .i64 0, .int .i64 0, .string ⟨#[]⟩], .int .i64 0, .int .i64 5]) (by simp [results, Tryz.results6, go_sem, z0, z1, z2]) rfl ?_
    exact ⟨by rw [uh E]; rfl, uh K9⟩
 ·have bco : (code != 0) = true := by simp [bne]; exact hco
  have E := Hd (uh HEE hco)
  clear hco HEE HEG
  have RX := uh R2
  have rx0 := RX.cell 0 rfl
  have rx1 := RX.cell 1 rfl
  have rx2 := RX.cell 2 rfl
  have rf0 := RX.fro 0
  have rf1 := RX.fro 1
  have rf2 := RX.fro 2
  have HR9 := Hd (((RX.set 0 (.int .i64 0) (by simp)).set 1 (.int .i64 0) (by simp)).set 2 (.string ⟨#[]⟩) (by simp))
  have T9 := ((((Touch.refl (fun x => x = w.heap.size + 1) w2).setCell ⟨w.heap.size + 1, 0, none⟩ (.int .i64 0) (fun _ => rfl)).setCell ⟨w.heap.size + 1, 1, none⟩ (.int .i64 0) (fun _ => rfl)).setCell ⟨w.heap.size + 1, 2, none⟩ (.string ⟨#[]⟩) (fun _ => rfl))
  have K9 := Hd ((uh K2).trans (T9.below (uh K2).size (fun x hx e => by omega)))
  clear RX T9
  go_wp2_with fail
  have R9 := uh HR9
  have z0 := R9.cell 0 rfl
  have z1 := R9.cell 1 rfl
  have z2 := R9.cell 2 rfl
  refine bodyPost_ret (v := .tuple #[.agg #[.int .i64 0, .int .i64 0, .string ⟨#[]⟩], .int .i64 0, .int .i64 code]) (by simp [results, Tryz.results6, go_sem, z0, z1, z2]) rfl ?_
  exact ⟨by rw [uh E]; rfl, uh K9⟩
end Go.Proofs.YtlbcdngidfjogaaGreatDoor.Sha
namespace Go.Proofs.YtlbcdngidfjogaaGreatDoor.Sha
set_option maxRecDepth 100000
set_option maxHeartbeats 8000000
open Go.ChangeShapes Go.WideShapes Go.ChangeAt Go.RowKit
set_option linter.unusedVariables false
theorem take_getD (l : List Cm) (m i : Nat) (h : i < m) : (l.take m).getD i default = l.getD i default := by
 rw [List.getD_eq_getElem?_getD, List.getD_eq_getElem?_getD, List.getElem?_take_of_lt h]
theorem stA_take (l : List Cm) (m : Nat) : ∀ k, k ≤ m → stA (l.take m) k = stA l k
 | 0, _ => rfl
 | k + 1, h => by
  show (apOut (stA (l.take m) k) ((l.take m).getD k default)).1 = (apOut (stA l k) (l.getD k default)).1
  rw [stA_take l m k (by omega), take_getD l m k (by omega)]
theorem reA_take (l : List Cm) (m j : Nat) (h : j < m) : reA (l.take m) j = reA l j := by
 show (apOut (stA (l.take m) j) ((l.take m).getD j default)).2 = (apOut (stA l j) (l.getD j default)).2
 rw [stA_take l m j (by omega), take_getD l m j h]
theorem first_at (l : List Cm) (c : Cm) : ∀ k, k < l.length → l.getD k default = c → ∃ j, j ≤ k ∧ At l c j := fun k => by
 induction k using Nat.strongRecOn with
 | _ k ih =>
  intro hk hc
  by_cases h : ∃ i, i < k ∧ l.getD i default = c
  ·obtain ⟨i, hi, he⟩ := h
   obtain ⟨j, hj, ha⟩ := ih i hi (by omega) he
   exact ⟨j, by omega, ha⟩
  ·exact ⟨k, Nat.le_refl _, hk, hc, fun i hi e => h ⟨i, hi, e⟩⟩
theorem ans_pure {l : List Cm} {k : Nat} (hk : k < l.length) (hl : l.length ≤ 120) (hall : ∀ i, i < l.length → cmK (l.getD i default) = true) :
  ∃ j : Nat, j ≤ k ∧ anO l (l.getD k default) = (reA l j, (j : Int), 0) ∧ anO (l.take (k + 1)) (l.getD k default) = (reA l j, (j : Int), 0) := by
 obtain ⟨j, hj, ha⟩ := first_at l (l.getD k default) k hk rfl
 have hlt : (l.take (k + 1)).length = k + 1 := by rw [List.length_take]; omega
 refine ⟨j, hj, anO_at (by omega) (not_bad (hall k hk) hall) ha, ?_⟩
 rw [← reA_take l (k + 1) j (by omega)]
 refine anO_at (by omega) (not_bad (hall k hk) (fun i hi => ?_)) ⟨by omega, ?_, fun i hi => ?_⟩
 ·rw [take_getD l _ i (by omega)]; exact hall i (by omega)
 ·rw [take_getD l _ j (by omega)]; exact ha.2.1
 ·rw [take_getD l _ i (by omega)]; exact ha.2.2 i hi
end Go.Proofs.YtlbcdngidfjogaaGreatDoor.Sha
namespace Go.Proofs.YtlbcdngidfjogaaGreatDoor
set_option maxRecDepth 100000
set_option maxHeartbeats 8000000
open Go.ChangeShapes Go.WideShapes Go.ChangeAt Go.RowKit
set_option linter.unusedVariables false
theorem wrapS (n : Int) (h0 : 0 ≤ n) (h1 : n < 9223372036854775808) : IntKind.i64.wrap n = n := by
 simp only [IntKind.wrap, IntKind.bits, IntKind.signed]
 simp
 omega
def Src (w : World) (b : Nat) (a : Option Addr) (cap : Nat) (l : List Int) (M : Int) : Prop :=
 ∃ p s : Int, 0 ≤ p ∧ p ≤ M ∧ 0 ≤ s ∧ s < 2147483648 ∧ w.cell? ⟨b, 0, none⟩ = some (.slice a l.length cap) ∧ w.cell? ⟨b, 1, none⟩ = some (.int .i64 p) ∧ w.cell? ⟨b, 2, none⟩ = some (.int .i64 s) ∧
  (∀ j, w.frozen? ⟨b, j, none⟩ = false) ∧ b < w.heap.size ∧
  (l.length = 0 ∨ ∃ c off, a = some ⟨c, off, none⟩ ∧ c < b ∧ ∀ i, i < l.length → w.cell? ⟨c, off + i, none⟩ = some (.int .u8 (l.getD i 0))) ∧ (∀ i, 0 ≤ l.getD i 0 ∧ l.getD i 0 ≤ 255) ∧ l.length ≤ 2097152

theorem Src.mono {w : World} {b : Nat} {a : Option Addr} {cap : Nat} {l : List Int} {M M' : Int} (h : Src w b a cap l M) (hm : M ≤ M') : Src w b a cap l M' := by
 obtain ⟨p, s, h1, h2, h⟩ := h
 exact ⟨p, s, h1, by omega, h⟩
theorem Src.grown {w w' : World} {b : Nat} {a : Option Addr} {cap : Nat} {l : List Int} {M : Int} {r : Option Nat} (h : Src w b a cap l M) (hg : w.grownBy w' r) (hr : ∀ k, r = some k → b < k) : Src w' b a cap l M := by
 obtain ⟨p, s, h1, h2, h3, h4, c0, c1, c2, hf, hb, hc, hrg, hl⟩ := h
 have hne : some b ≠ r := fun e => by have := hr b e.symm; omega
 refine ⟨p, s, h1, h2, h3, h4, (hg.cell_far ⟨b, 0, none⟩ hb hne).trans c0, (hg.cell_far ⟨b, 1, none⟩ hb hne).trans c1, (hg.cell_far ⟨b, 2, none⟩ hb hne).trans c2, fun j => (hg.frozen_far ⟨b, j, none⟩ hb hne).trans (hf j), Nat.lt_of_lt_of_le hb hg.size, ?_, hrg, hl⟩
 rcases hc with h0 | ⟨c, off, ha, hlt, hcell⟩
 ·exact .inl h0
 ·refine .inr ⟨c, off, ha, hlt, fun i hi => ?_⟩
  rw [hg.cell_far ⟨c, off + i, none⟩ (by simpa using Nat.lt_trans hlt hb) (fun e => by have := hr c e.symm; omega)]
  exact hcell i hi
theorem Src.drewN {w : World} {b : Nat} {a : Option Addr} {cap : Nat} {l : List Int} {M : Int} (h : Src w b a cap l M) (n : Nat) : Src (w.drewN n) b a cap l M := h.grown (r := none) ⟨rfl, rfl, rfl, Nat.le_refl _, fun _ _ _ => rfl⟩ (fun k e => by cases e)

def OnlyAt (b : Nat) (w w' : World) : Prop := w'.heap.size = w.heap.size ∧ w.grownBy w' (some b)
theorem OnlyAt.refl (b : Nat) (w : World) : OnlyAt b w w := ⟨rfl, World.grownBy.refl _ _⟩
theorem OnlyAt.trans {b : Nat} {w w' w'' : World} (h : OnlyAt b w w') (k : OnlyAt b w' w'') : OnlyAt b w w'' := by
 refine ⟨k.1.trans h.1, ?_⟩
 have h1 := h.2
 have h2 := k.2
 exact ⟨h2.os.trans h1.os, h2.tape.trans h1.tape, h2.output.trans h1.output, Nat.le_trans h1.size h2.size, fun j hj hne => (h2.block j (by rw [h.1]; exact hj) hne).trans (h1.block j hj hne)⟩
theorem OnlyAt.set (b : Nat) (w : World) (j : Nat) (v : Value) : OnlyAt b w (w.setCell ⟨b, j, none⟩ v) := by
 refine ⟨by simp, ⟨rfl, rfl, rfl, by simp, fun k hk hne => Below.heap_setCell w ⟨b, j, none⟩ v k (fun e => hne (by rw [e]))⟩⟩
theorem OnlyAt.drewN (b : Nat) (w : World) (n : Nat) : OnlyAt b w (w.drewN n) := ⟨rfl, ⟨rfl, rfl, rfl, Nat.le_refl _, fun _ _ _ => rfl⟩⟩
theorem OnlyAt.below {b B : Nat} {w0 w w' : World} (h : OnlyAt b w w') (hb : Below B w0 w) (hB : B ≤ b) (hw : B ≤ w.heap.size) : Below B w0 w' := hb.grown h.2 hw (fun k e => by cases e; exact hB)

theorem Src.step2 {w : World} {b : Nat} {a : Option Addr} {cap : Nat} {l : List Int} {M : Int} {s' : Int} (h : Src w b a cap l M) (hs : 0 ≤ s') (hs2 : s' < 2147483648) :
  Src (w.setCell ⟨b, 2, none⟩ (.int .i64 s')) b a cap l M := by
 obtain ⟨p, s0, h1, h2, h3, h4, c0, c1, c2, hf, hb, hc, hrg, hl⟩ := h
 refine ⟨p, s', h1, h2, hs, hs2, ?_, ?_, ?_, fun j => by simpa using hf j, by simpa using hb, ?_, hrg, hl⟩
 ·rw [World.cell?_setCell_other _ _ _ _ (by simp)]; exact c0
 ·rw [World.cell?_setCell_other _ _ _ _ (by simp)]; exact c1
 ·exact World.cell?_setCell_same w _ _ c2
 ·rcases hc with h0 | ⟨c, off, ha, hlt, hcell⟩
  ·exact .inl h0
  ·refine .inr ⟨c, off, ha, hlt, fun i hi => ?_⟩
   rw [World.cell?_setCell_other _ _ _ _ (fun e => by have := congrArg Addr.block e; simp at this; omega)]
   exact hcell i hi
theorem Src.step1 {w : World} {b : Nat} {a : Option Addr} {cap : Nat} {l : List Int} {M : Int} {p' : Int} (h : Src w b a cap l M) (hp : 0 ≤ p') (hp2 : p' ≤ M + 1) :
  Src (w.setCell ⟨b, 1, none⟩ (.int .i64 p')) b a cap l (M + 1) := by
 obtain ⟨_, s, h1, h2, h3, h4, c0, c1, c2, hf, hb, hc, hrg, hl⟩ := h
 refine ⟨p', s, hp, hp2, h3, h4, ?_, ?_, ?_, fun j => by simpa using hf j, by simpa using hb, ?_, hrg, hl⟩
 ·rw [World.cell?_setCell_other _ _ _ _ (by simp)]; exact c0
 ·exact World.cell?_setCell_same w _ _ c1
 ·rw [World.cell?_setCell_other _ _ _ _ (by simp)]; exact c2
 ·rcases hc with h0 | ⟨c, off, ha, hlt, hcell⟩
  ·exact .inl h0
  ·refine .inr ⟨c, off, ha, hlt, fun i hi => ?_⟩
   rw [World.cell?_setCell_other _ _ _ _ (fun e => by have := congrArg Addr.block e; simp at this; omega)]
   exact hcell i hi

theorem srcByte_any (w : World) (b : Nat) (a : Option Addr) (cap : Nat) (l : List Int) (M : Int) (h : Src w b a cap l M) (hM : M ≤ 1000000000) :
  Calls Tryz.prog 25 #[.pointer (some ⟨b, 0, none⟩)] w fun e w' => ∃ x : Int, e = .returned (.int .i64 x) ∧ 0 ≤ x ∧ x ≤ 255 ∧ Src w' b a cap l (M + 1) ∧ OnlyAt b w w' := by
 have H := Hd h
 obtain ⟨p, s, h1, h2, h3, h4, c0, c1, c2, hf, hb, hc, hrg, hl⟩ := h
 have f0 := hf 0
 have f1 := hf 1
 have f2 := hf 2
 have d0 : (w.setCell ⟨b, 1, none⟩ (.int .i64 (p + 1))).cell? ⟨b, 0, none⟩ = some (.slice a l.length cap) := by rw [World.cell?_setCell_other _ _ _ _ (by simp)]; exact c0
 have d1 : (w.setCell ⟨b, 1, none⟩ (.int .i64 (p + 1))).cell? ⟨b, 1, none⟩ = some (.int .i64 (p + 1)) := World.cell?_setCell_same w _ _ c1
 have d2 : (w.setCell ⟨b, 1, none⟩ (.int .i64 (p + 1))).cell? ⟨b, 2, none⟩ = some (.int .i64 s) := by rw [World.cell?_setCell_other _ _ _ _ (by simp)]; exact c2
 by_cases hlt : p + 1 ≤ (l.length : Int)
 ·obtain ⟨q, rfl⟩ : ∃ q : Nat, p = (q : Int) := ⟨p.toNat, by omega⟩
  obtain ⟨c, off, rfl, hcl, hsrc⟩ : ∃ c off, a = some ⟨c, off, none⟩ ∧ c < b ∧ ∀ i, i < l.length → w.cell? ⟨c, off + i, none⟩ = some (.int .u8 (l.getD i 0)) := by
   rcases hc with h0 | h0
   ·omega
   ·exact h0
  have hs1 := hsrc q (by omega)
  have hr1 := hrg q
  clear hsrc hrg hc
  generalize l.getD q 0 = x at *
  have hs2 : (w.setCell ⟨b, 1, none⟩ (.int .i64 ((q : Int) + 1))).cell? ⟨c, off + q, none⟩ = some (.int .u8 x) := by
   rw [World.cell?_setCell_other _ _ _ _ (fun e => by have := congrArg Addr.block e; simp at this; omega)]; exact hs1
  go_enter Tryz.func25, Tryz.ntmps25
  generalize hw1 : w.setCell ⟨b, 1, none⟩ (.int .i64 ((q : Int) + 1)) = w1 at *
  have f2' : w1.frozen? ⟨b, 2, none⟩ = false := by rw [← hw1]; simpa using f2
  have m1 : IntKind.i64.wrap (s * 31) = s * 31 := wrapS _ (by omega) (by omega)
  have m2 : IntKind.i64.wrap (s * 31 + x) = s * 31 + x := wrapS _ (by omega) (by omega)
  have m3 : IntKind.i64.wrap (s * 31 + x + 7) = s * 31 + x + 7 := wrapS _ (by omega) (by omega)
  have m4 : IntKind.i64.wrap ((q : Int) + 1 - 1) = (q : Int) := by rw [show (q : Int) + 1 - 1 = (q : Int) by omega]; exact wrapS _ (by omega) (by omega)
  have m8 : IntKind.i64.wrap (q : Int) = (q : Int) := wrapS _ (by omega) (by omega)
  have m5 : (s * 31 + x + 7).tmod 2147483648 = (s * 31 + x + 7) % 2147483648 := Int.tmod_eq_emod_of_nonneg (by omega)
  have m6 : IntKind.i64.wrap ((s * 31 + x + 7) % 2147483648) = (s * 31 + x + 7) % 2147483648 := wrapS _ (by omega) (by omega)
  have m7 : IntKind.i64.wrap x = x := wrapS _ (by omega) (by omega)
  have q0 : (0 : Int) ≤ (q : Int) := by omega
  have q1 : (q : Int) < (l.length : Int) := by omega
  go_wp2_with fail
  go_quiet (fail)
  have e0 : (w1.drewN nq).cell? ⟨b, 0, none⟩ = _ := d0
  have e1 : (w1.drewN nq).cell? ⟨b, 1, none⟩ = _ := d1
  have e2 : (w1.drewN nq).cell? ⟨b, 2, none⟩ = _ := d2
  have e3 : (w1.drewN nq).cell? ⟨c, off + q, none⟩ = _ := hs2
  have e4 : (w1.drewN nq).frozen? ⟨b, 2, none⟩ = false := f2'
  clear d0 d1 d2 hs2 f2'
  generalize hw2 : w1.drewN nq = w2 at *
  go_wp2_with fail
  refine wp_region_still_tail 21 (by kernel_rfl) (by kernel_rfl) ?_
  simp only [List.take_succ_cons, List.take_zero, List.drop_succ_cons, List.drop_zero]
  repeat (first | still_step)
  refine wpStill_nil ?_
  have S3 := Hd (((uh H).step1 (p' := (q : Int) + 1) (by omega) (by omega)))
  rw [hw1] at S3
  have O3 : Hid (OnlyAt b w ({ heap := w2.heap, tape := w2.tape, drawn := w2.drawn + 1, os := w2.os, output := w2.output } : World)) := Hd (by rw [← hw2, ← hw1]; exact ((OnlyAt.set b w 1 _).trans (OnlyAt.drewN b _ nq)).trans (OnlyAt.drewN b _ 1))
  have T3 : Hid (Src ({ heap := w2.heap, tape := w2.tape, drawn := w2.drawn + 1, os := w2.os, output := w2.output } : World) b (some ⟨c, off, none⟩) cap l (M + 1)) := Hd (by rw [← hw2]; exact ((uh S3).drewN nq).drewN 1)
  have g0 : ({ heap := w2.heap, tape := w2.tape, drawn := w2.drawn + 1, os := w2.os, output := w2.output } : World).cell? ⟨b, 0, none⟩ = _ := e0
  have g1 : ({ heap := w2.heap, tape := w2.tape, drawn := w2.drawn + 1, os := w2.os, output := w2.output } : World).cell? ⟨b, 1, none⟩ = _ := e1
  have g2 : ({ heap := w2.heap, tape := w2.tape, drawn := w2.drawn + 1, os := w2.os, output := w2.output } : World).cell? ⟨b, 2, none⟩ = _ := e2
  have g3 : ({ heap := w2.heap, tape := w2.tape, drawn := w2.drawn + 1, os := w2.os, output := w2.output } : World).cell? ⟨c, off + q, none⟩ = _ := e3
  have g4 : ({ heap := w2.heap, tape := w2.tape, drawn := w2.drawn + 1, os := w2.os, output := w2.output } : World).frozen? ⟨b, 2, none⟩ = false := e4
  clear e0 e1 e2 e3 e4 S3
  generalize ({ heap := w2.heap, tape := w2.tape, drawn := w2.drawn + 1, os := w2.os, output := w2.output } : World) = w3 at *
  have hs0 : 0 ≤ (s * 31 + x + 7) % 2147483648 := by omega
  have hs9 : (s * 31 + x + 7) % 2147483648 < 2147483648 := by omega
  clear m1 m2 m3 m5 m6
  generalize (s * 31 + x + 7) % 2147483648 = s' at *
  have k0 : (w3.setCell ⟨b, 2, none⟩ (.int .i64 s')).cell? ⟨b, 0, none⟩ = some (.slice (some ⟨c, off, none⟩) l.length cap) := by rw [World.cell?_setCell_other _ _ _ _ (by simp)]; exact g0
  have k1 : (w3.setCell ⟨b, 2, none⟩ (.int .i64 s')).cell? ⟨b, 1, none⟩ = some (.int .i64 ((q : Int) + 1)) := by rw [World.cell?_setCell_other _ _ _ _ (by simp)]; exact g1
  have k3 : (w3.setCell ⟨b, 2, none⟩ (.int .i64 s')).cell? ⟨c, off + q, none⟩ = some (.int .u8 x) := by
   rw [World.cell?_setCell_other _ _ _ _ (fun e => by have := congrArg Addr.block e; simp at this; omega)]; exact g3
  go_wp2_with fail
  go_quiet (fail)
  go_wp2_with fail
  go_ret
  exact ⟨x, rfl, hr1.1, hr1.2, ((uh T3).step2 hs0 hs9).drewN _, ((uh O3).trans (OnlyAt.set b _ 2 _)).trans (OnlyAt.drewN b _ _)⟩
 ·have H1 : Hid (Src (w.setCell ⟨b, 1, none⟩ (.int .i64 (p + 1))) b a cap l (M + 1)) := Hd ((uh H).step1 (by omega) (by omega))
  have O1 : Hid (OnlyAt b w (w.setCell ⟨b, 1, none⟩ (.int .i64 (p + 1)))) := Hd (OnlyAt.set b w 1 _)
  have f2' : (w.setCell ⟨b, 1, none⟩ (.int .i64 (p + 1))).frozen? ⟨b, 2, none⟩ = false := by simpa using f2
  clear hc hrg H
  go_enter Tryz.func25, Tryz.ntmps25
  go_wp2_with fail
  go_quiet (fail)
  have H2 := Hd ((uh H1).drewN nq)
  have O2 := Hd ((uh O1).trans (OnlyAt.drewN b _ nq))
  by_cases h3k : 3000 < p + 1
  ·go_wp2_with fail
   go_ret
   exact ⟨0, rfl, by omega, by omega, uh H2, uh O2⟩
  ·have m1 : IntKind.i64.wrap (s * 1103515245) = s * 1103515245 := wrapS _ (by omega) (by omega)
   have m3 : IntKind.i64.wrap (s * 1103515245 + 12345) = s * 1103515245 + 12345 := wrapS _ (by omega) (by omega)
   have m5 : (s * 1103515245 + 12345).tmod 2147483648 = (s * 1103515245 + 12345) % 2147483648 := Int.tmod_eq_emod_of_nonneg (by omega)
   have m6 : IntKind.i64.wrap ((s * 1103515245 + 12345) % 2147483648) = (s * 1103515245 + 12345) % 2147483648 := wrapS _ (by omega) (by omega)
   go_wp2_with fail
   go_ret
   exact ⟨_, rfl, by omega, by omega, (uh H2).step2 (by omega) (by omega), (uh O2).trans (OnlyAt.set b _ 2 _)⟩

theorem srcNext_any (n : Int) (w : World) (b : Nat) (a : Option Addr) (cap : Nat) (l : List Int) (M : Int) (h : Src w b a cap l M) (hM : M ≤ 900000000) (hn : 1 ≤ n) (hn2 : n < 16777216) :
  Calls Tryz.prog 15 #[.pointer (some ⟨b, 0, none⟩), .int .i64 n] w fun e w' => ∃ x : Int, e = .returned (.int .i64 x) ∧ 0 ≤ x ∧ x < n ∧ Src w' b a cap l (M + 3) ∧ OnlyAt b w w' := by
 by_cases h1 : n ≤ 1
 ·go_enter Tryz.func15, Tryz.ntmps15
  have H := Hd h
  go_wp2_with fail
  go_ret
  exact ⟨0, rfl, by omega, by omega, (uh H).mono (by omega), OnlyAt.refl _ _⟩
 ·by_cases h2 : n ≤ 256
  ·have H := Hd h
   clear h
   go_enter Tryz.func15, Tryz.ntmps15
   go_wp2_with fail
   refine (srcByte_any w b a cap l M (uh H) (by omega)).mono ?_
   rintro e w' ⟨x, rfl, hx0, hx1, hS, hO⟩
   have H2 := Hd (And.intro hS hO)
   have m5 : x.tmod n = x % n := Int.tmod_eq_emod_of_nonneg (by omega)
   have m6 : 0 ≤ x % n := Int.emod_nonneg _ (by omega)
   have m7 : x % n < n := Int.emod_lt_of_pos _ (by omega)
   have m8 : IntKind.i64.wrap (x % n) = x % n := wrapS _ (by omega) (by omega)
   have m9 : (n == 0) = false := by simp; omega
   have m10 : n ≠ 0 := by omega
   clear hS hO
   go_wp2_with fail
   go_ret
   exact ⟨_, rfl, m6, m7, (uh H2).1.mono (by omega), (uh H2).2⟩
  ·have H := Hd h
   clear h
   go_enter Tryz.func15, Tryz.ntmps15
   go_wp2_with fail
   refine (srcByte_any w b a cap l M (uh H) (by omega)).mono ?_
   rintro e w' ⟨x, rfl, hx0, hx1, hS, hO⟩
   have H2 := Hd (And.intro hS hO)
   clear hS hO
   go_wp2_with fail
   refine (srcByte_any w' b a cap l (M + 1) (uh H2).1 (by omega)).mono ?_
   rintro e w'' ⟨y, rfl, hy0, hy1, hS, hO⟩
   have H3 := Hd (And.intro hS hO)
   clear hS hO
   go_wp2_with fail
   refine (srcByte_any w'' b a cap l (M + 1 + 1) (uh H3).1 (by omega)).mono ?_
   rintro e wq ⟨z, rfl, hz0, hz1, hS, hO⟩
   have H4 := Hd (And.intro hS hO)
   clear hS hO
   have m5 : (x * 65536 + y * 256 + z).tmod n = (x * 65536 + y * 256 + z) % n := Int.tmod_eq_emod_of_nonneg (by omega)
   have m6 : 0 ≤ (x * 65536 + y * 256 + z) % n := Int.emod_nonneg _ (by omega)
   have m7 : (x * 65536 + y * 256 + z) % n < n := Int.emod_lt_of_pos _ (by omega)
   have m8 : IntKind.i64.wrap ((x * 65536 + y * 256 + z) % n) = (x * 65536 + y * 256 + z) % n := wrapS _ (by omega) (by omega)
   have m9 : (n == 0) = false := by simp; omega
   have m10 : n ≠ 0 := by omega
   go_wp2_with fail
   go_ret
   exact ⟨_, rfl, m6, m7, (uh H4).1.mono (by omega), ((uh H2).2.trans (uh H3).2).trans (uh H4).2⟩
theorem Src.lt {w : World} {b : Nat} {a : Option Addr} {cap : Nat} {l : List Int} {M : Int} (h : Src w b a cap l M) : b < w.heap.size := by
 obtain ⟨_, _, _, _, _, _, _, _, _, _, h, _⟩ := h; exact h
theorem Src.len {w : World} {b : Nat} {a : Option Addr} {cap : Nat} {l : List Int} {M : Int} (h : Src w b a cap l M) : l.length ≤ 2097152 := by
 obtain ⟨_, _, _, _, _, _, _, _, _, _, _, _, _, h⟩ := h; exact h
theorem Src.alloc {w : World} {b : Nat} {a : Option Addr} {cap : Nat} {l : List Int} {M : Int} (h : Src w b a cap l M) (o : Obj) : Src (w.alloc o) b a cap l M := h.grown (World.grownBy_alloc w o none) (fun k e => by cases e)
theorem l00Source_any (a : Option Addr) (cap : Nat) (l : List Int) (w : World) (h : Bytes w (.slice a l.length cap) l) (hl : l.length ≤ 2097152) :
  Calls Tryz.prog 8 #[.slice a l.length cap] w fun e w' => e = .returned (.pointer (some ⟨w.heap.size, 0, none⟩)) ∧ Src w' w.heap.size a cap l 0 ∧ Below w.heap.size w w' := by
 obtain ⟨a', cap', hv, hm, hc, hr⟩ := h
 simp only [Value.slice.injEq] at hv
 obtain ⟨rfl, _, rfl⟩ := hv
 have HC := Hd hc
 have HR := Hd hr
 clear hc hr hm
 go_enter Tryz.func8, Tryz.ntmps8
 go_wp2_with fail
 go_ret
 have hb : Below w.heap.size w (w.alloc (Obj.cells #[Value.slice a l.length cap, Value.int IntKind.i64 0, Value.int IntKind.i64 ((l.length : Int) % 1000)] 51)) := (Below.refl _ _).alloc (Nat.le_refl _) _
 refine ⟨rfl, ⟨0, (l.length : Int) % 1000, by omega, by omega, by omega, by omega, ?_, ?_, ?_, fun j => by simp, by simp, ?_, uh HR, hl⟩, hb⟩
 ·rw [World.cell?_alloc_at _ _ _ _ rfl]; rfl
 ·rw [World.cell?_alloc_at _ _ _ _ rfl]; rfl
 ·rw [World.cell?_alloc_at _ _ _ _ rfl]; rfl
 ·rcases uh HC with h0 | ⟨c, off, ha, hlt, hcell⟩
  ·exact .inl h0
  ·exact .inr ⟨c, off, ha, hlt, fun i hi => (hb.cell (p := ⟨c, off + i, none⟩) hlt).trans (hcell i hi)⟩

theorem OnlyAt.touch {b : Nat} {w w' : World} (h : OnlyAt b w w') : Touch (fun k => k = b) w w' :=
 ⟨h.2.os, h.2.tape, h.2.output, h.2.size, fun k hk hn => h.2.block k hk (fun e => hn (by simpa using e))⟩
theorem Blk.only {b B : Nat} {w w' : World} {vs : List Value} (h : Blk w B vs) (hO : OnlyAt b w w') (hb : B ≠ b) : Blk w' B vs := h.kept hO.touch hb

theorem pick_any (ss : List ByteArray) (c : Nat) (w : World) (b : Nat) (a : Option Addr) (cap : Nat) (l : List Int) (M : Int) (h : Src w b a cap l M) (hM : M ≤ 900000000) (hB : Blk w c (ss.map Value.string)) (hc : c ≠ b) (h1 : 1 ≤ ss.length) (h2 : ss.length ≤ 256) :
  Calls Tryz.prog 37 #[.pointer (some ⟨b, 0, none⟩), .slice (some ⟨c, 0, none⟩) ss.length ss.length] w fun e w' => ∃ i, i < ss.length ∧ e = .returned (.string (ss.getD i ByteArray.empty)) ∧ Src w' b a cap l (M + 3) ∧ OnlyAt b w w' := by
 have H := Hd h
 have HB := Hd hB
 have h3 : ((ss.length : Int) == 0) = false := by rw [beq_eq_false_iff_ne]; omega
 clear h hB
 go_enter Tryz.func37, Tryz.ntmps37
 go_wp2_with fail
 refine (srcNext_any ss.length w b a cap l M (uh H) hM (by omega) (by omega)).mono ?_
 rintro e w1 ⟨x, rfl, hx0, hx1, hS, hO⟩
 obtain ⟨i, rfl⟩ : ∃ i : Nat, x = (i : Int) := ⟨x.toNat, by omega⟩
 have hil : i < ss.length := by omega
 have c1 := ((uh HB).only hO hc).cell i (v := .string (ss.getD i ByteArray.empty)) (by
  rw [List.getElem?_map, List.getElem?_eq_getElem hil, List.getD_eq_getElem?_getD, List.getElem?_eq_getElem hil]; rfl)
 have R := Hd (And.intro hS hO)
 clear hS hO H HB h3
 obtain ⟨s, hs⟩ : ∃ s, s = ss.getD i ByteArray.empty := ⟨_, rfl⟩
 rw [← hs] at c1
 have HSE := Hd hs
 clear hs
 go_wp2_with fail
 go_ret
 exact ⟨i, hil, by rw [← uh HSE]; rfl, (uh R).1, (uh R).2⟩

def keysL : List ByteArray := [⟨#[97]⟩, ⟨#[98]⟩, ⟨#[99]⟩, ⟨#[97, 108, 112, 104, 97]⟩, ⟨#[98, 101, 116, 97]⟩]
def dataL : List ByteArray := [⟨#[]⟩, ⟨#[49]⟩, ⟨#[50]⟩, ⟨#[120]⟩, ⟨#[108, 111, 110, 103, 101, 114, 32, 118, 97, 108, 117, 101]⟩]
theorem keys_size : ∀ i, i < 5 → 1 ≤ (keysL.getD i ByteArray.empty).size ∧ (keysL.getD i ByteArray.empty).size ≤ 24
 | 0, _ => by decide
 | 1, _ => by decide
 | 2, _ => by decide
 | 3, _ => by decide
 | 4, _ => by decide
 | n + 5, h => by omega
theorem data_size : ∀ i, i < 5 → (dataL.getD i ByteArray.empty).size ≤ 60
 | 0, _ => by decide
 | 1, _ => by decide
 | 2, _ => by decide
 | 3, _ => by decide
 | 4, _ => by decide
 | n + 5, h => by omega
theorem key_any (w : World) (b : Nat) (a : Option Addr) (cap : Nat) (l : List Int) (M : Int) (h : Src w b a cap l M) (hM : M ≤ 900000000) :
  Calls Tryz.prog 26 #[.pointer (some ⟨b, 0, none⟩)] w fun e w' => ∃ s : ByteArray, e = .returned (.string s) ∧ 1 ≤ s.size ∧ s.size ≤ 24 ∧ Src w' b a cap l (M + 3) ∧ Touch (fun k => k = b) w w' := by
 have hbl := h.lt
 have H := Hd (h.alloc (.cells #[.string ⟨#[97]⟩, .string ⟨#[98]⟩, .string ⟨#[99]⟩, .string ⟨#[97, 108, 112, 104, 97]⟩, .string ⟨#[98, 101, 116, 97]⟩] 9))
 have HB := Hd (Blk.new w #[.string ⟨#[97]⟩, .string ⟨#[98]⟩, .string ⟨#[99]⟩, .string ⟨#[97, 108, 112, 104, 97]⟩, .string ⟨#[98, 101, 116, 97]⟩] 9 w.heap.size rfl)
 have HT := Hd ((Touch.refl (fun k => k = b) w).alloc (.cells #[.string ⟨#[97]⟩, .string ⟨#[98]⟩, .string ⟨#[99]⟩, .string ⟨#[97, 108, 112, 104, 97]⟩, .string ⟨#[98, 101, 116, 97]⟩] 9))
 clear h
 go_enter Tryz.func26, Tryz.ntmps26
 go_wp2_with fail
 generalize w.alloc (.cells #[.string ⟨#[97]⟩, .string ⟨#[98]⟩, .string ⟨#[99]⟩, .string ⟨#[97, 108, 112, 104, 97]⟩, .string ⟨#[98, 101, 116, 97]⟩] 9) = w0 at *
 refine (pick_any keysL w.heap.size w0 b a cap l M (uh H) hM (uh HB) (by omega) (by decide) (by decide)).mono ?_
 rintro e w1 ⟨i, hi, rfl, hS, hO⟩
 have R := Hd (And.intro hS ((uh HT).trans hO.touch (fun _ _ h => h)))
 have hq := Hd (show 1 ≤ (keysL.getD i ByteArray.empty).size ∧ (keysL.getD i ByteArray.empty).size ≤ 24 from ⟨(keys_size i hi).1, (keys_size i hi).2⟩)
 clear hS hO HT HB H
 generalize keysL.getD i ByteArray.empty = s at *
 go_wp2_with fail
 go_ret
 exact ⟨s, rfl, (uh hq).1, (uh hq).2, (uh R).1, (uh R).2⟩
theorem datum_any (w : World) (b : Nat) (a : Option Addr) (cap : Nat) (l : List Int) (M : Int) (h : Src w b a cap l M) (hM : M ≤ 900000000) :
  Calls Tryz.prog 27 #[.pointer (some ⟨b, 0, none⟩)] w fun e w' => ∃ s : ByteArray, e = .returned (.string s) ∧ s.size ≤ 60 ∧ Src w' b a cap l (M + 3) ∧ Touch (fun k => k = b) w w' := by
 have hbl := h.lt
 have H := Hd (h.alloc (.cells #[.string ⟨#[]⟩, .string ⟨#[49]⟩, .string ⟨#[50]⟩, .string ⟨#[120]⟩, .string ⟨#[108, 111, 110, 103, 101, 114, 32, 118, 97, 108, 117, 101]⟩] 9))
 have HB := Hd (Blk.new w #[.string ⟨#[]⟩, .string ⟨#[49]⟩, .string ⟨#[50]⟩, .string ⟨#[120]⟩, .string ⟨#[108, 111, 110, 103, 101, 114, 32, 118, 97, 108, 117, 101]⟩] 9 w.heap.size rfl)
 have HT := Hd ((Touch.refl (fun k => k = b) w).alloc (.cells #[.string ⟨#[]⟩, .string ⟨#[49]⟩, .string ⟨#[50]⟩, .string ⟨#[120]⟩, .string ⟨#[108, 111, 110, 103, 101, 114, 32, 118, 97, 108, 117, 101]⟩] 9))
 clear h
 go_enter Tryz.func27, Tryz.ntmps27
 go_wp2_with fail
 generalize w.alloc (.cells #[.string ⟨#[]⟩, .string ⟨#[49]⟩, .string ⟨#[50]⟩, .string ⟨#[120]⟩, .string ⟨#[108, 111, 110, 103, 101, 114, 32, 118, 97, 108, 117, 101]⟩] 9) = w0 at *
 refine (pick_any dataL w.heap.size w0 b a cap l M (uh H) hM (uh HB) (by omega) (by decide) (by decide)).mono ?_
 rintro e w1 ⟨i, hi, rfl, hS, hO⟩
 have R := Hd (And.intro hS ((uh HT).trans hO.touch (fun _ _ h => h)))
 have hq := Hd (show (dataL.getD i ByteArray.empty).size ≤ 60 from data_size i hi)
 clear hS hO HT HB H
 generalize dataL.getD i ByteArray.empty = s at *
 go_wp2_with fail
 go_ret
 exact ⟨s, rfl, uh hq, (uh R).1, (uh R).2⟩
theorem chance_any (n : Int) (w : World) (b : Nat) (a : Option Addr) (cap : Nat) (l : List Int) (M : Int) (h : Src w b a cap l M) (hM : M ≤ 900000000) (hn : 1 ≤ n) (hn2 : n < 16777216) :
  Calls Tryz.prog 28 #[.pointer (some ⟨b, 0, none⟩), .int .i64 n] w fun e w' => ∃ q : Bool, e = .returned (.bool q) ∧ Src w' b a cap l (M + 3) ∧ OnlyAt b w w' := by
 have H := Hd h
 clear h
 go_enter Tryz.func28, Tryz.ntmps28
 go_wp2_with fail
 refine (srcNext_any n w b a cap l M (uh H) hM hn hn2).mono ?_
 rintro e w1 ⟨x, rfl, hx0, hx1, hS, hO⟩
 have R := Hd (And.intro hS hO)
 clear hS hO H
 go_wp2_with fail
 go_ret
 exact ⟨_, rfl, (uh R).1, (uh R).2⟩

end Go.Proofs.YtlbcdngidfjogaaGreatDoor
