/- impl.AnswerIn, walked. (Written by py/aqb.py.) What the laws do with commands: szCommand, toCommand; and a command that came in, opened. -/
import Derived.Test.YtnhhnjmjodmacaaGreatDoorQan41
import Derived.Test.YtnhhnjmjodmacaaGreatDoorQan44
import Derived.Test.YtnhhnjmjodmacaaGreatDoorQan23
import Derived.Test.YtnhhnjmjodmacaaGreatDoorQan00
import Derived.Deep.Fields
namespace Go.Proofs.YtnhhnjmjodmacaaGreatDoor.Sha
open Go.ChangeShapes Go.WideShapes Go.ChangeAt Go.RowKit Go.Deep
set_option linter.unusedVariables false
set_option linter.unusedSimpArgs false
theorem aa_an (l : List Cm) (c : Cm) : ((aaO l).2.2 ≠ 0 ∧ anO l c = (zRe, 0, (aaO l).2.2)) ∨ ((aaO l).2.2 = 0 ∧ (aaO l).2.1 = resA l l.length ∧ ¬ 120 < l.length ∧ ∀ i, i < l.length → cmK (l.getD i default) = true) := by
  by_cases h4 : 4096 < l.length
  · rw [aaO_long h4, anO_long h4]; exact .inl ⟨by decide, rfl⟩
  · by_cases h1 : 120 < l.length
    · rw [aaO_many h4 h1, anO_many h4 h1]; exact .inl ⟨by decide, rfl⟩
    · by_cases hb : ∃ i, i < l.length ∧ cmK (l.getD i default) = false
      · rw [aaO_bad h1 hb, anO_bad h1 (.inr hb)]; exact .inl ⟨by decide, rfl⟩
      · have hg : ∀ i, i < l.length → cmK (l.getD i default) = true := fun i hi => by
          cases e : cmK (l.getD i default) with
          | true => rfl
          | false => exact absurd ⟨i, hi, e⟩ hb
        rw [aaO_good h1 hg]; exact .inr ⟨rfl, rfl, h1, hg⟩
set_option maxRecDepth 100000 in
set_option maxHeartbeats 2000000 in
theorem implAnswerIn_any (v : Value) (l : List Cm) (c : Cm) (w : World) (h : Css w v l) (hs : l.length ≤ 1048576) (hz : ∀ i, i < l.length → (l.getD i default).ky.size ≤ maxLen ∧ (l.getD i default).vl.size ≤ maxLen) (hcz : c.ky.size ≤ maxLen ∧ c.vl.size ≤ maxLen) (hT : Tab w) :
    Calls Tryz.prog 26 #[v, .agg #[.int .i64 c.kd, .int .i64 c.ss, .int .i64 c.sq, .string c.ky, .string c.vl]] w fun e w' => e = .returned (.tuple #[.agg #[.int .i64 (anO l c).1.kd, .int .i64 (anO l c).1.pl, .string (anO l c).1.vl], .int .i64 (anO l c).2.1, .int .i64 (anO l c).2.2]) ∧ Below w.heap.size w w' := by
  have HE := hide (aa_an l c)
  have HAA := hide (fun wx (hx : Below w.heap.size w wx) => implApplyAll_any v l wx (h.below hx) hs hz (hT.below hx))
  have HB := hide (fun hx hy => anO_bad (l := l) (c := c) hx hy)
  have HA := hide (fun hx hy k hk => anO_at (l := l) (c := c) hx hy (k := k) hk)
  have HN := hide (fun hx hy hk => anO_no (l := l) (c := c) hx hy hk)
  have HIX := hide (fun wx (hx : Below w.heap.size w wx) => indexCm_any v l c wx (h.below hx) hs)
  have HCO := hide (fun wx => implCommandOK_any c.kd c.ss c.sq c.ky c.vl wx hcz.1 hcz.2)
  have hck : cmdOK c.kd c.ss c.sq c.ky c.vl = cmK c := rfl
  rw [hck] at HCO
  clear hck hz hT
  generalize anO l c = out at *
  generalize aaO l = aa at *
  obtain ⟨⟨ls, o, ss⟩, rs, code⟩ := aa
  dsimp only at HE
  have HEE : Hid (code ≠ 0 → out = (zRe, 0, code)) := hide (fun hne => by
    rcases unhide HE with h1 | h1
    · exact h1.2
    · exact absurd h1.1 hne)
  have HEG : Hid (code = 0 → rs = resA l l.length ∧ ¬ 120 < l.length ∧ ∀ i, i < l.length → cmK (l.getD i default) = true) := hide (fun hne => by
    rcases unhide HE with h1 | h1
    · exact absurd hne h1.1
    · exact h1.2)
  clear HE
  obtain ⟨a, cap, rfl, hn, hm, hc⟩ := h
  clear hc hm hn
  have B0 := hide (((Below.refl w.heap.size w).alloc (Nat.le_refl _) (.cells #[.int .i64 c.kd, .int .i64 c.ss, .int .i64 c.sq, .string c.ky, .string c.vl] 44)).alloc (by simp) (.cells #[.int .i64 0, .int .i64 0, .string ⟨#[]⟩] 40))
  have C0 := hide ((Blk.new w #[.int .i64 c.kd, .int .i64 c.ss, .int .i64 c.sq, .string c.ky, .string c.vl] 44 w.heap.size rfl).alloc (.cells #[.int .i64 0, .int .i64 0, .string ⟨#[]⟩] 40))
  have R0 := hide (Blk.new (w.alloc (.cells #[.int .i64 c.kd, .int .i64 c.ss, .int .i64 c.sq, .string c.ky, .string c.vl] 44)) #[.int .i64 0, .int .i64 0, .string ⟨#[]⟩] 40 (w.heap.size + 1) (by simp))
  go_enter Tryz.func26, Tryz.ntmps26
  go_upto_region 1 with fail
  generalize (w.alloc (.cells #[.int .i64 c.kd, .int .i64 c.ss, .int .i64 c.sq, .string c.ky, .string c.vl] 44)).alloc (.cells #[.int .i64 0, .int .i64 0, .string ⟨#[]⟩] 40) = w0 at *
  have HA1 := hide (unhide HAA w0 (unhide B0))
  clear HAA
  go_wp2_with fail
  refine (unhide HA1).mono ?_
  rintro e w1 ⟨lv, kv, sv, rv, rfl, hAR, hb1⟩
  dsimp only at hAR ⊢
  obtain ⟨ho1, ho2, _, ho4, _, S, hbo, _⟩ := hAR
  obtain ⟨la, lc, rfl, _⟩ := ho1.strs
  obtain ⟨sa, sc, rfl, _⟩ := ho2.read
  obtain ⟨ka, kc, rfl, _⟩ := hbo.shape
  dsimp only
  generalize (brOf o).kids.length = kn at *
  have OR1 := hide ho4
  have K1 := hide ((unhide B0).trans (hb1.mono (unhide B0).size))
  have C1 := hide ((unhide C0).below hb1)
  have R1 := hide ((unhide R0).below hb1)
  have hw1 : w.heap.size + 1 < w1.heap.size := (unhide R1).1
  have hw0 : w.heap.size + 1 < w0.heap.size := (unhide R0).1
  clear ho1 ho2 ho4 hbo hb1 HA1 B0 C0 R0
  have NZ := Blk.new w1 #[.slice none 0 0, .string ⟨#[]⟩, .string ⟨#[]⟩, .int .i64 0, .slice none 0 0, .slice none 0 0] 38 w1.heap.size rfl
  have zc0 := NZ.cell 0 rfl
  have zf0 := NZ.fro 0
  have zc1 := NZ.cell 1 rfl
  have zf1 := NZ.fro 1
  have zc2 := NZ.cell 2 rfl
  have zf2 := NZ.fro 2
  have zc3 := NZ.cell 3 rfl
  have zf3 := NZ.fro 3
  have zc4 := NZ.cell 4 rfl
  have zf4 := NZ.fro 4
  have zc5 := NZ.cell 5 rfl
  have zf5 := NZ.fro 5
  have bA := (Below.refl w1.heap.size w1).alloc (Nat.le_refl _) (.cells #[.slice la ls.length lc, .string (brOf o).key, .string (brOf o).val, .int .i64 (brOf o).at_, .slice ka kn kc, .slice sa ss.length sc] 38)
  have K2 := hide ((unhide K1).trans (bA.mono (unhide K1).size))
  have C2 := hide ((unhide C1).below bA)
  have R2 := hide ((unhide R1).below bA)
  have OR2 := hide ((unhide OR1).below bA)
  clear NZ bA K1 C1 R1 OR1
  go_upto_region 2 with fail
  clear zc0 zf0 zc1 zf1 zc2 zf2 zc3 zf3 zc4 zf4 zc5 zf5
  generalize w1.alloc (.cells #[.slice la ls.length lc, .string (brOf o).key, .string (brOf o).val, .int .i64 (brOf o).at_, .slice ka kn kc, .slice sa ss.length sc] 38) = w2 at *
  have hw2 : w.heap.size + 1 < w2.heap.size := (unhide R2).1
  by_cases hco : code = 0
  · obtain ⟨hrs, h1, hall⟩ := unhide HEG hco
    subst hco
    have HALL := hide hall
    have HRS := hide hrs
    clear hall hrs HEE HEG
    have HC1 := hide (unhide HCO w2)
    have y0 := (unhide C2).cell 0 rfl
    have y1 := (unhide C2).cell 1 rfl
    have y2 := (unhide C2).cell 2 rfl
    have y3 := (unhide C2).cell 3 rfl
    have y4 := (unhide C2).cell 4 rfl
    cases hcc : cmK c
    · rw [hcc] at HC1
      have E := hide (unhide HB h1 (.inl hcc))
      go_wp2_with fail
      refine (unhide HC1).mono ?_
      rintro e w3 ⟨rfl, hb3⟩
      have K3 := hide ((unhide K2).trans (hb3.mono (unhide K2).size))
      have R3 := hide ((unhide R2).below hb3)
      have hw3 : w.heap.size + 1 < w3.heap.size := (unhide R3).1
      clear hb3 HC1 y0 y1 y2 y3 y4
      have RX := unhide R3
      have rx0 := RX.cell 0 rfl
      have rx1 := RX.cell 1 rfl
      have rx2 := RX.cell 2 rfl
      have rf0 := RX.fro 0
      have rf1 := RX.fro 1
      have rf2 := RX.fro 2
      have HR9 := hide (((RX.set 0 (.int .i64 0) (by simp)).set 1 (.int .i64 0) (by simp)).set 2 (.string ⟨#[]⟩) (by simp))
      have T9 := ((((Touch.refl (fun x => x = w.heap.size + 1) w3).setCell ⟨w.heap.size + 1, 0, none⟩ (.int .i64 0) (fun _ => rfl)).setCell ⟨w.heap.size + 1, 1, none⟩ (.int .i64 0) (fun _ => rfl)).setCell ⟨w.heap.size + 1, 2, none⟩ (.string ⟨#[]⟩) (fun _ => rfl))
      have K9 := hide ((unhide K3).trans (T9.below (unhide K3).size (fun x hx e => by omega)))
      clear RX T9
      go_wp2_with fail
      have R9 := unhide HR9
      have z0 := R9.cell 0 rfl
      have z1 := R9.cell 1 rfl
      have z2 := R9.cell 2 rfl
      refine bodyPost_ret (v := .tuple #[.agg #[.int .i64 0, .int .i64 0, .string ⟨#[]⟩], .int .i64 0, .int .i64 1]) (by simp [results, Tryz.results26, go_sem, z0, z1, z2]) rfl ?_
      exact ⟨by rw [unhide E]; rfl, unhide K9⟩
    · rw [hcc] at HC1
      have HNB := hide (not_bad hcc (unhide HALL))
      clear hcc
      go_wp2_with fail
      refine (unhide HC1).mono ?_
      rintro e w3 ⟨rfl, hb3⟩
      have K3 := hide ((unhide K2).trans (hb3.mono (unhide K2).size))
      have R3 := hide ((unhide R2).below hb3)
      have C3 := hide ((unhide C2).below hb3)
      have OR3 := hide ((unhide OR2).below hb3)
      clear hb3 HC1 y0 y1 y2 y3 y4 K2 R2 C2 OR2
      have HI1 := hide (unhide HIX w3 (unhide K3))
      have y0 := (unhide C3).cell 0 rfl
      have y1 := (unhide C3).cell 1 rfl
      have y2 := (unhide C3).cell 2 rfl
      have y3 := (unhide C3).cell 3 rfl
      have y4 := (unhide C3).cell 4 rfl
      go_wp2_with fail
      refine (unhide HI1).mono ?_
      rintro e w4 ⟨hor, hb4⟩
      have K4 := hide ((unhide K3).trans (hb4.mono (unhide K3).size))
      have R4 := hide ((unhide R3).below hb4)
      have OR4 := hide ((unhide OR3).below hb4)
      have hw4 : w.heap.size + 1 < w4.heap.size := (unhide R4).1
      clear hb4 HI1 y0 y1 y2 y3 y4 K3 R3 C3 OR3
      rcases hor with ⟨k, hat, rfl⟩ | ⟨hno, rfl⟩
      · have E := hide (unhide HA h1 (unhide HNB) k hat)
        have hkl := hat.1
        have hor4 := unhide OR4
        rw [unhide HRS] at hor4
        unfold OwnRe at hor4
        rw [resA_len] at hor4
        obtain ⟨g, cg, he, hg, hg2⟩ := World.ownsRow.form hor4 (by omega)
        subst he
        obtain ⟨c0, c1, c2⟩ := OwnRe.cells hor4 k (by rw [resA_len]; exact hkl) (by rw [resA_len])
        rw [resA_get l l.length k hkl] at c0 c1 c2
        have hne : w.heap.size + 1 ≠ g := by omega
        have hk0 : (0 : Int) ≤ (k : Int) := by omega
        have hk1 : (k : Int) < (l.length : Int) := by omega
        have hk2 : ¬ (k : Int) < 0 := by omega
        generalize reA l k = rN at *
        clear hor4 OR4 hat HN HA HB
        have RX := unhide R4
        have rx0 := RX.cell 0 rfl
        have rx1 := RX.cell 1 rfl
        have rx2 := RX.cell 2 rfl
        have rf0 := RX.fro 0
        have rf1 := RX.fro 1
        have rf2 := RX.fro 2
        have HR9 := hide (((RX.set 0 (.int .i64 rN.kd) (by simp)).set 1 (.int .i64 rN.pl) (by simp)).set 2 (.string rN.vl) (by simp))
        have T9 := ((((Touch.refl (fun x => x = w.heap.size + 1) w4).setCell ⟨w.heap.size + 1, 0, none⟩ (.int .i64 rN.kd) (fun _ => rfl)).setCell ⟨w.heap.size + 1, 1, none⟩ (.int .i64 rN.pl) (fun _ => rfl)).setCell ⟨w.heap.size + 1, 2, none⟩ (.string rN.vl) (fun _ => rfl))
        have K9 := hide ((unhide K4).trans (T9.below (unhide K4).size (fun x hx e => by omega)))
        clear RX T9
        go_wp2_with fail
        have R9 := unhide HR9
        have z0 := R9.cell 0 rfl
        have z1 := R9.cell 1 rfl
        have z2 := R9.cell 2 rfl
        refine bodyPost_ret (v := .tuple #[.agg #[.int .i64 rN.kd, .int .i64 rN.pl, .string rN.vl], .int .i64 (k : Int), .int .i64 0]) (by simp [results, Tryz.results26, go_sem, z0, z1, z2]) rfl ?_
        exact ⟨by rw [unhide E], unhide K9⟩
      · have E := hide (unhide HN h1 (unhide HNB) hno)
        have RX := unhide R4
        have rx0 := RX.cell 0 rfl
        have rx1 := RX.cell 1 rfl
        have rx2 := RX.cell 2 rfl
        have rf0 := RX.fro 0
        have rf1 := RX.fro 1
        have rf2 := RX.fro 2
        have HR9 := hide (((RX.set 0 (.int .i64 0) (by simp)).set 1 (.int .i64 0) (by simp)).set 2 (.string ⟨#[]⟩) (by simp))
        have T9 := ((((Touch.refl (fun x => x = w.heap.size + 1) w4).setCell ⟨w.heap.size + 1, 0, none⟩ (.int .i64 0) (fun _ => rfl)).setCell ⟨w.heap.size + 1, 1, none⟩ (.int .i64 0) (fun _ => rfl)).setCell ⟨w.heap.size + 1, 2, none⟩ (.string ⟨#[]⟩) (fun _ => rfl))
        have K9 := hide ((unhide K4).trans (T9.below (unhide K4).size (fun x hx e => by omega)))
        clear RX T9
        go_wp2_with fail
        have R9 := unhide HR9
        have z0 := R9.cell 0 rfl
        have z1 := R9.cell 1 rfl
        have z2 := R9.cell 2 rfl
        refine bodyPost_ret (v := .tuple #[.agg #[.int .i64 0, .int .i64 0, .string ⟨#[]⟩], .int .i64 0, .int .i64 5]) (by simp [results, Tryz.results26, go_sem, z0, z1, z2]) rfl ?_
        exact ⟨by rw [unhide E]; rfl, unhide K9⟩
  · have bco : (code != 0) = true := by simp [bne]; exact hco
    have E := hide (unhide HEE hco)
    clear hco HEE HEG
    have RX := unhide R2
    have rx0 := RX.cell 0 rfl
    have rx1 := RX.cell 1 rfl
    have rx2 := RX.cell 2 rfl
    have rf0 := RX.fro 0
    have rf1 := RX.fro 1
    have rf2 := RX.fro 2
    have HR9 := hide (((RX.set 0 (.int .i64 0) (by simp)).set 1 (.int .i64 0) (by simp)).set 2 (.string ⟨#[]⟩) (by simp))
    have T9 := ((((Touch.refl (fun x => x = w.heap.size + 1) w2).setCell ⟨w.heap.size + 1, 0, none⟩ (.int .i64 0) (fun _ => rfl)).setCell ⟨w.heap.size + 1, 1, none⟩ (.int .i64 0) (fun _ => rfl)).setCell ⟨w.heap.size + 1, 2, none⟩ (.string ⟨#[]⟩) (fun _ => rfl))
    have K9 := hide ((unhide K2).trans (T9.below (unhide K2).size (fun x hx e => by omega)))
    clear RX T9
    go_wp2_with fail
    have R9 := unhide HR9
    have z0 := R9.cell 0 rfl
    have z1 := R9.cell 1 rfl
    have z2 := R9.cell 2 rfl
    refine bodyPost_ret (v := .tuple #[.agg #[.int .i64 0, .int .i64 0, .string ⟨#[]⟩], .int .i64 0, .int .i64 code]) (by simp [results, Tryz.results26, go_sem, z0, z1, z2]) rfl ?_
    exact ⟨by rw [unhide E]; rfl, unhide K9⟩
end Go.Proofs.YtnhhnjmjodmacaaGreatDoor.Sha
namespace Go.Proofs.YtnhhnjmjodmacaaGreatDoor
open Go.ChangeShapes Go.WideShapes Go.ChangeAt Go.RowKit Go.Deep
set_option linter.unusedVariables false
set_option maxRecDepth 100000
theorem array5 {α : Type} {cs : Array α} (h : cs.size = 5) : ∃ c0 c1 c2 c3 c4, cs = #[c0, c1, c2, c3, c4] := by
  obtain ⟨l⟩ := cs
  match l, h with
  | [c0, c1, c2, c3, c4], _ => exact ⟨c0, c1, c2, c3, c4, rfl⟩
theorem open_cmd {H : Type} {enc : TypeId × Value → H} {W : World} {base b0 : Nat} {r : Reach} {sp : Nat → Bool} {held : Bool} {v : Value} {d : DataW H} {p : List MemPlace}
    (hv : Value.okWide Tryz.prog W r b0 30 v) (h : DataW.Trod enc Tryz.prog W base sp held 30 v d p) :
    ∃ (k s q : Int) (key val : ByteArray), v = .agg #[.int .i64 k, .int .i64 s, .int .i64 q, .string key, .string val] ∧ (Lit.int .i64 k).wf = true ∧ (Lit.int .i64 s).wf = true ∧ (Lit.int .i64 q).wf = true ∧ key.size ≤ maxLen ∧ val.size ≤ maxLen := by
  obtain ⟨cs, rfl, hsz⟩ := okWide_struct Tryz.underlying30 hv
  have hC : Tryz.prog.cellsOf 30 = 5 := by kernel_rfl
  obtain ⟨c0, c1, c2, c3, c4, rfl⟩ := array5 (hsz.trans hC)
  obtain ⟨fuel, hf⟩ := h
  obtain ⟨xs, n, _, _, _, hlen, hfl⟩ := DataW.trod_struct Tryz.underlying30 hf
  have i3 : Tryz.prog.cellsOf 3 = 1 := by kernel_rfl
  have i9 : Tryz.prog.cellsOf 9 = 1 := by kernel_rfl
  obtain ⟨y0, e0⟩ := get_some hlen (show 0 < 5 by omega)
  obtain ⟨y1, e1⟩ := get_some hlen (show 1 < 5 by omega)
  obtain ⟨y2, e2⟩ := get_some hlen (show 2 < 5 by omega)
  obtain ⟨y3, e3⟩ := get_some hlen (show 3 < 5 by omega)
  obtain ⟨y4, e4⟩ := get_some hlen (show 4 < 5 by omega)
  have g0 : DataW.trod enc Tryz.prog W base sp held n 3 [c0] = some y0 := by simpa [Value.cells, i3] using (hfl 0 _ rfl).trans e0
  have g1 : DataW.trod enc Tryz.prog W base sp held n 3 [c1] = some y1 := by simpa [Value.cells, i3] using (hfl 1 _ rfl).trans e1
  have g2 : DataW.trod enc Tryz.prog W base sp held n 3 [c2] = some y2 := by simpa [Value.cells, i3] using (hfl 2 _ rfl).trans e2
  have g3 : DataW.trod enc Tryz.prog W base sp held n 9 [c3] = some y3 := by simpa [Value.cells, i9] using (hfl 3 _ rfl).trans e3
  have g4 : DataW.trod enc Tryz.prog W base sp held n 9 [c4] = some y4 := by simpa [Value.cells, i9] using (hfl 4 _ rfl).trans e4
  obtain ⟨a0, f0, _, q0⟩ := DataW.trod_int Tryz.underlying3 g0
  obtain ⟨a1, f1, _, q1⟩ := DataW.trod_int Tryz.underlying3 g1
  obtain ⟨a2, f2, _, q2⟩ := DataW.trod_int Tryz.underlying3 g2
  obtain ⟨a3, f3, _, q3⟩ := DataW.trod_string Tryz.underlying9 g3
  obtain ⟨a4, f4, _, q4⟩ := DataW.trod_string Tryz.underlying9 g4
  simp only [List.cons.injEq, and_true] at f0 f1 f2 f3 f4
  subst f0 f1 f2 f3 f4
  exact ⟨a0, a1, a2, a3, a4, rfl, q0, q1, q2, q3, q4⟩

end Go.Proofs.YtnhhnjmjodmacaaGreatDoor
