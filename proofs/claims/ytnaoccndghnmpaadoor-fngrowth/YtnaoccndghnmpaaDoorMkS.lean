/- impl.ConsistencyRoots of a proof that is nil, where the log has not grown. -/
import Derived.Test.YtnaoccndghnmpaaDoorMkQ
import Derived.Test.YtnaoccndghnmpaaDoorMkR
namespace Go.Proofs.YtnaoccndghnmpaaDoor.Sha
open Go.ChangeShapes Go.WideShapes Go.ChangeAt Go.RowKit
set_option linter.unusedVariables false
set_option linter.unusedSimpArgs false

set_option maxRecDepth 100000 in
set_option maxHeartbeats 4000000 in
theorem implCR_nil (nn : Nat) (root : ByteArray) (pr : List ByteArray) (hpr : pr = []) (w : World) (h1 : 1 ≤ nn) (h64 : nn ≤ 64) (hz : root.size = 32) (ht : Tab w) :
    Calls Tryd.prog 18 #[.int .i64 nn, .int .i64 nn, .string root, .slice none 0 0] w fun e w' => e = .returned (.tuple #[.string (crOut nn nn root pr).1.1, .string (crOut nn nn root pr).1.2, .int .i64 (crOut nn nn root pr).2]) ∧ Below w.heap.size w w' := by
  have H1 := hide (hashFault_any root w (by unfold maxLen; omega))
  have e1 : hfC root = 0 := by unfold hfC; rw [if_neg (by omega), if_pos hz]
  rw [e1] at H1
  have HO : Hid (crOut nn nn root pr = if (bothV root nn nn pr true).2 = true then ((bothV root nn nn pr true).1, 0) else ((⟨#[]⟩, ⟨#[]⟩), 10)) := hide (by
    have ec : codeL pr = 0 := by rw [hpr]; rfl
    unfold crOut
    rw [e1, ec, if_pos (show mxI 0 0 = 0 from rfl), if_pos ⟨inB_iff.2 ⟨by omega, by omega⟩, inB_iff.2 ⟨by omega, by omega⟩⟩, Int.toNat_natCast])
  have HG : Hid (root.size = 32 ∧ pr.length ≤ 64 ∧ AllH pr) := hide ⟨hz, by rw [hpr]; simp, by rw [hpr]; intro j hj; simp at hj⟩
  have HT := hide ht
  clear ht e1
  have B0 := hide ((Below.refl w.heap.size w).alloc (Nat.le_refl _) (.cells #[.int .i64 0, .int .i64 0] 3))
  have HW := hide (worst_any 0 0 w.heap.size (w.alloc (.cells #[.int .i64 0, .int .i64 0] 3)) (by omega) (by omega) (by rw [World.cell?_alloc_at _ _ _ _ rfl]; rfl) (by rw [World.cell?_alloc_at _ _ _ _ rfl]; rfl))
  go_enter Tryd.func18, Tryd.ntmps18
  go_wp2_with fail
  refine (unhide H1).mono ?_
  rintro e w9 ⟨rfl, hw⟩
  subst w9
  go_wp2_with fail
  refine (hashesFault_nil w).mono ?_
  rintro e w9 ⟨rfl, hw⟩
  subst w9
  go_wp2_with fail
  refine (unhide HW).mono ?_
  rintro e w9 ⟨rfl, hw⟩
  subst w9
  generalize w.alloc (.cells #[.int .i64 0, .int .i64 0] 3) = w1 at *
  rw [show mxI 0 0 = 0 from rfl]
  go_wp2_with fail
  refine (within_any nn 1 64 w1).mono ?_
  rintro e w9 ⟨rfl, hw⟩
  subst w9
  rw [show inB (nn : Int) 1 64 = true from inB_iff.2 ⟨by omega, by omega⟩]
  go_wp2_with fail
  refine (within_any nn 1 nn w1).mono ?_
  rintro e w9 ⟨rfl, hw⟩
  subst w9
  rw [show inB (nn : Int) 1 nn = true from inB_iff.2 ⟨by omega, by omega⟩]
  have HY := hide (growthWay_any nn nn w1 (by omega) (by omega) (by omega))
  have HBW0 := hide (both_way nn root nn pr true (by omega) (by omega) (by omega))
  have HHS : Hid (hashesV root nn nn pr true = if ¬ (0 : Int) ∈ gwV nn nn then root :: pr else pr) := hide (by unfold hashesV; simp)
  rw [gwV_all] at HY HBW0 HHS
  generalize bothV root nn nn pr true = bv at *
  generalize hashesV root nn nn pr true = hs at *
  go_wp2_with fail
  refine (unhide HY).mono ?_
  rintro e w2 ⟨wv, rfl, hO2, hb2⟩
  have B2 := hide ((unhide B0).trans (hb2.mono (unhide B0).size))
  have O2 := hide hO2
  obtain ⟨wa, wc, rfl, hwcl, _, _⟩ := id hO2
  have HCO := hide (containsSide_any _ [] w2 hO2 (by simp))
  clear hO2 hb2 B0 HY
  go_wp2_with fail
  refine (unhide HCO).mono ?_
  rintro e w9 ⟨rfl, hw⟩
  subst w9
  clear HCO
  have HBW := HBW0
  rw [show decide ((0 : Int) ∈ ([] : List Int)) = false from rfl]
  have hse : hs = root :: pr := by rw [unhide HHS, if_pos (by simp)]
  have HR32 := hide (unhide HG).1
  have HAS : Hid (AllH hs) := hide (by
    rw [hse]
    intro j hj
    cases j with
    | zero => exact unhide HR32
    | succ j => exact (unhide HG).2.2 j (by simpa using hj))
  have hpl64 := (unhide HG).2.1
  have BA := hide (((unhide B2).alloc (unhide B2).size (.cells #[.string root] 9)).alloc (by have := (unhide B2).size; simp; omega) (.cells #[.slice (some ⟨w2.heap.size, 0, none⟩) 1 1, .slice none 0 0] 23))
  have K1 := hide ((Blk.new w2 #[.string root] 9 w2.heap.size rfl).alloc (.cells #[.slice (some ⟨w2.heap.size, 0, none⟩) 1 1, .slice none 0 0] 23))
  have K2 := hide (Blk.new (w2.alloc (.cells #[.string root] 9)) #[.slice (some ⟨w2.heap.size, 0, none⟩) 1 1, .slice none 0 0] 23 (w2.heap.size + 1) (by simp))
  have K3 := hide (((Below.refl w2.heap.size w2).alloc (Nat.le_refl _) (.cells #[.string root] 9)).alloc (by simp) (.cells #[.slice (some ⟨w2.heap.size, 0, none⟩) 1 1, .slice none 0 0] 23))
  have SD := hide ((unhide O2).below (unhide K3))
  clear HHS HBW0 O2 K3
  go_upto_region 9 with fail
  go_wp2_with fail
  generalize (w2.alloc (.cells #[.string root] 9)).alloc (.cells #[.slice (some ⟨w2.heap.size, 0, none⟩) 1 1, .slice none 0 0] 23) = wA at *
  generalize w2.heap.size = X1 at *
  have HCC := hide (concatS_any (some ⟨X1, 0, none⟩) none 1 0 1 0 (X1 + 1) [.string root] (pr.map Value.string) wA ((unhide K2).cell 0 rfl) ((unhide K2).cell 1 rfl) (unhide K2).1 rfl (by simp [hpr]) (by simp [Value.oneCell']) (by intro u hu; obtain ⟨s, _, rfl⟩ := List.mem_map.1 hu; rfl)
    (fun wx hbx => ⟨_, _, rfl, .inr ⟨_, rfl, fun j u hu => by
      match j, hu with
      | 0, hu => obtain rfl := Option.some.inj hu; exact ((unhide K1).below hbx).cell 0 rfl⟩⟩) (fun wx hbx => ⟨none, 0, rfl, .inl rfl⟩) (by omega) (by omega) (by omega))
  refine (unhide HCC).mono ?_
  rintro e w3 ⟨ga, hcap, rfl, hO3, hb3⟩
  rw [show (1 + 0 : Nat) = 1 from rfl] at hO3 ⊢
  have hO : OwnS wA.heap.size w3 (.slice ga (1) hcap) hs := by
    unfold OwnS
    rw [hse]
    rw [show (root :: pr).length = 1 by simp [hpr]]
    simpa using hO3
  obtain ⟨hb, rfl⟩ : ∃ g, ga = some ⟨g, 0, none⟩ := by
    rcases _root_.Go.Proofs.YtnaoccndghnmpaaDoor.own_shape hO3 with ⟨_, h0⟩ | ⟨g, c, hv, _⟩
    · omega
    · simp only [Value.slice.injEq] at hv; exact ⟨g, hv.1⟩
  have HLN : Hid (hs.length = 1) := hide (by rw [hse]; simp [hpr])
  have HSA : Hid (SA w3 hb 0 hcap hs) := hide (SA.own (by rw [unhide HLN]; exact hO))
  have HSD := hide ((unhide SD).below hb3)
  have B3 := hide ((unhide BA).trans (hb3.mono (unhide BA).size))
  have hL65 : 1 ≤ 65 := by omega
  clear hse hO hO3 hb3 HCC K1 K2 SD BA HR32
  have hca := (unhide HSA).le
  have hcb := (unhide HSA).mx
  unfold maxLen at hcb
  rw [unhide HLN] at hca
  have hpl : 1 = ([] : List Int).length + 1 := rfl
  · have HBV : Hid (bv.2 = true ∧ bv.1 = (([] : List Int).zip (hs.drop 1)).foldl stepG (hs.getD 0 ByteArray.empty, hs.getD 0 ByteArray.empty)) := hide ⟨by rw [(unhide HBW).1]; exact decide_eq_true (by rw [unhide HLN]; exact hpl), (unhide HBW).2 (by rw [unhide HLN]; exact hpl)⟩
    rw [if_pos (unhide HBV).1, (unhide HBV).2] at HO
    have z0 := unhide HAS 0 (by rw [unhide HLN]; omega)
    have hdl : (hs.drop 1).length = 0 := by rw [List.length_drop, unhide HLN]
    have hzs : ∀ i, i < (([] : List Int).zip (hs.drop 1)).length → ((([] : List Int).zip (hs.drop 1)).getD i (0, ByteArray.empty)).2.size = 32 := zip_size (AllH.drop (unhide HAS) 1) (by omega)
    have hzl : (([] : List Int).zip (hs.drop 1)).length ≤ 64 := by rw [List.length_zip]; omega
    have c0 := (unhide HSA).cell 0 (by rw [unhide HLN]; omega)
    rw [Nat.add_zero] at c0
    obtain ⟨ho2, he2, hsa2⟩ : ∃ ho2, (if hcap = 1 then some (⟨hb, 0, none⟩ : Addr) else some ⟨hb, 1, none⟩) = some ⟨hb, ho2, none⟩ ∧ SA w3 hb ho2 (hcap - 1) (hs.drop 1) := by
      have hd := (unhide HSA).drop 1 (by rw [unhide HLN]; omega)
      by_cases e1 : hcap = 1
      · exact ⟨0, by rw [if_pos e1], ⟨hd.le, hd.mx, hd.lt, fun i hi => by omega⟩⟩
      · exact ⟨1, by rw [if_neg e1], by simpa using hd⟩
    have HTO := hide (fun wx (hbx : Below w3.heap.size w3 wx) => turnsOf2_any (.slice wa ([] : List Int).length wc) [] (hs.drop 1) 0 hb ho2 (hcap - 1) wx ((unhide HSD).below hbx) hdl (hsa2.below hbx) (by omega) (by omega))
    have HFO := hide (fun tv bb wx hx hy => foldG_any tv (([] : List Int).zip (hs.drop 1)) (hs.getD 0 ByteArray.empty) (hs.getD 0 ByteArray.empty) bb wx hx hzl hzs z0 z0 hy)
    clear hzs hzl hdl z0 HBV HBW HAS hsa2
    generalize ([] : List Int).zip (hs.drop 1) = zz at *
    generalize hs.getD 0 ByteArray.empty = h0 at *
    generalize zz.foldl stepG (h0, h0) = res at *
    obtain ⟨r1, r2⟩ := res
    dsimp only at HFO HO
    have k1 : (0 : Int) < (1 : Int) := by omega
    have k2 : (1 : Int) ≤ (1 : Int) := by omega
    have k3 : (1 : Int) ≤ (hcap : Int) := by omega
    have k4 : (1 : Int) ≤ (hcap : Int) := by omega
    have hpi : ((1 : Int) != (([] : List Int).length : Int) + 1) = false := by simp
    have HPL := hide hpl
    have B4 := hide (((unhide B3).alloc (unhide B3).size (.cells #[.string h0, .string h0] 72)).drew)
    have X4 := hide ((Blk.new w3 #[.string h0, .string h0] 72 w3.heap.size rfl).kept (T := fun _ => False) ((Touch.refl _ _).drew) (fun h => h))
    have K34 := hide (((Below.refl w3.heap.size w3).alloc (Nat.le_refl _) (.cells #[.string h0, .string h0] 72)).drew)
    have hz4 : w3.heap.size < (w3.alloc (.cells #[.string h0, .string h0] 72)).drew.heap.size := by simp
    have hbl := (unhide HSA).lt
    have c1 := ((((Below.refl w3.heap.size w3).alloc (Nat.le_refl _) (.cells #[.string ⟨#[]⟩, .string ⟨#[]⟩] 72)).cell (p := ⟨hb, 0, none⟩) hbl)).trans c0
    clear hpl
    go_upto_region 12 with fail
    go_big_region
    generalize (w3.alloc (.cells #[.string h0, .string h0] 72)).drew = w4 at *
    clear c0 c1
    have x0 := (unhide X4).cell 0 rfl
    have x1 := (unhide X4).cell 1 rfl
    generalize w3.heap.size = SB at *
    go_wp2_with fail
    have hz9 : w4.drew.heap.size = w4.heap.size := rfl
    have xa0 := (((Below.refl _ w4).alloc (Nat.le_refl _) (.cells #[.string ⟨#[]⟩, .string ⟨#[]⟩] 72)).cell (p := ⟨SB, 0, none⟩) hz4).trans x0
    have xa1 := (((Below.refl _ w4).alloc (Nat.le_refl _) (.cells #[.string ⟨#[]⟩, .string ⟨#[]⟩] 72)).cell (p := ⟨SB, 1, none⟩) hz4).trans x1
    have BD := hide ((unhide B4).drew)
    have BDA := hide (((unhide B4).alloc (unhide B4).size (.cells #[.string ⟨#[]⟩, .string ⟨#[]⟩] 72)).drew)
    have KD := hide ((unhide K34).drew)
    have KDA := hide (((unhide K34).alloc (Nat.le_of_lt hz4) (.cells #[.string ⟨#[]⟩, .string ⟨#[]⟩] 72)).drew)
    have ZC := hide ((Blk.new w4 #[.string ⟨#[]⟩, .string ⟨#[]⟩] 72 w4.heap.size rfl).kept (T := fun _ => False) ((Touch.refl _ _).drew) (fun h => h))
    have hsB := (unhide B4).size
    clear hz9
    go_region_held3 (fun wx => wx.cell? ⟨SB, 0, none⟩ = some (.string h0) ∧ wx.cell? ⟨SB, 1, none⟩ = some (.string h0))
      (first | go_keep | exact ⟨xa0, xa1⟩ | exact ⟨x50, x51⟩ | exact ⟨xb0, xb1⟩ | exact ⟨x60, x61⟩ | exact ⟨(World.cell?_setCell_other _ _ _ _ (by simp <;> omega)).trans ((World.cell?_setCell_other _ _ _ _ (by simp <;> omega)).trans x60), (World.cell?_setCell_other _ _ _ _ (by simp <;> omega)).trans ((World.cell?_setCell_other _ _ _ _ (by simp <;> omega)).trans x61)⟩ | exact ⟨(((Below.refl _ w6).alloc (Nat.le_refl _) _).cell (p := ⟨SB, 0, none⟩) hz6).trans x60, (((Below.refl _ w6).alloc (Nat.le_refl _) _).cell (p := ⟨SB, 1, none⟩) hz6).trans x61⟩)
      (first
        | (go_at_call 50; guard_target =~ Calls _ _ _ (World.alloc _ _) _; refine (unhide HFO tv _ _ (OwnT.below hO5 ((Below.refl _ w5).alloc (Nat.le_refl _) (.cells #[.string ⟨#[]⟩, .string ⟨#[]⟩] 72))) ((unhide HT).below (unhide b5a))).mono ?_; rintro e w6 ⟨rfl, hb6b⟩; have x60 := (hb6b.cell (p := ⟨SB, 0, none⟩) hz5a).trans xb0; have x61 := (hb6b.cell (p := ⟨SB, 1, none⟩) hz5a).trans xb1; have Y6 := hide ((Blk.new w5 #[.string ⟨#[]⟩, .string ⟨#[]⟩] 72 w5.heap.size rfl).below hb6b); have y0 := (unhide Y6).cell 0 rfl; have y1 := (unhide Y6).cell 1 rfl; have f0 := (unhide Y6).fro 0; have f1 := (unhide Y6).fro 1; have hz6 : SB < w6.heap.size := (Nat.lt_of_lt_of_le hz5a hb6b.size); have E6 := hide ((unhide b5a).trans (hb6b.mono hz5c)))
        | (go_at_call 50; refine (unhide HFO tv _ w5 hO5 ((unhide HT).below (unhide b5))).mono ?_; rintro e w6 ⟨rfl, hb6⟩; have x60 := (hb6.cell (p := ⟨SB, 0, none⟩) hz5).trans x50; have x61 := (hb6.cell (p := ⟨SB, 1, none⟩) hz5).trans x51; have hz6 : SB < w6.heap.size := (Nat.lt_of_lt_of_le hz5 hb6.size); have E6 := hide ((unhide b5).trans (hb6.mono hz5d)); try (have Y6 := hide ((unhide Y5).below hb6); have y0 := (unhide Y6).cell 0 rfl; have y1 := (unhide Y6).cell 1 rfl; have f0 := (unhide Y6).fro 0; have f1 := (unhide Y6).fro 1))
        | (go_at_call 40; guard_target =~ Calls _ _ _ (World.drew (World.alloc _ _)) _; refine (unhide HTO _ (unhide KDA)).mono ?_; rintro e w5 ⟨tv, rfl, hO5, hb5⟩; have hz5 : SB < w5.heap.size := (Nat.lt_of_lt_of_le hz4 (Nat.le_trans (Nat.le_succ _) (by have := hb5.size; simpa using this))); have x50 := (hb5.cell (p := ⟨SB, 0, none⟩) (by simp; omega)).trans xa0; have x51 := (hb5.cell (p := ⟨SB, 1, none⟩) (by simp; omega)).trans xa1; have b5 := hide ((unhide BDA).trans (hb5.mono (by simp; omega))); have hz5d := (unhide b5).size; have Y5 := hide ((unhide ZC).below hb5))
        | (go_at_call 40; refine (unhide HTO _ (unhide KD)).mono ?_; rintro e w5 ⟨tv, rfl, hO5, hb5⟩; have hz5 : SB < w5.heap.size := (Nat.lt_of_lt_of_le hz4 hb5.size); have x50 := (hb5.cell (p := ⟨SB, 0, none⟩) hz4).trans x0; have x51 := (hb5.cell (p := ⟨SB, 1, none⟩) hz4).trans x1; have b5 := hide ((unhide BD).trans (hb5.mono hsB)); have hz5d := (unhide b5).size; have b5a := hide ((unhide b5).alloc hz5d (.cells #[.string ⟨#[]⟩, .string ⟨#[]⟩] 72)); have xb0 := (((Below.refl _ w5).alloc (Nat.le_refl _) (.cells #[.string ⟨#[]⟩, .string ⟨#[]⟩] 72)).cell (p := ⟨SB, 0, none⟩) hz5).trans x50; have xb1 := (((Below.refl _ w5).alloc (Nat.le_refl _) (.cells #[.string ⟨#[]⟩, .string ⟨#[]⟩] 72)).cell (p := ⟨SB, 1, none⟩) hz5).trans x51; have hz5a : SB < (w5.alloc (.cells #[.string ⟨#[]⟩, .string ⟨#[]⟩] 72)).heap.size := (Nat.lt_of_lt_of_le hz5 ((Below.refl _ w5).alloc (Nat.le_refl _) (.cells #[.string ⟨#[]⟩, .string ⟨#[]⟩] 72)).size); have hz5c : w.heap.size ≤ (w5.alloc (.cells #[.string ⟨#[]⟩, .string ⟨#[]⟩] 72)).heap.size := (unhide b5a).size))
    · have RZ := hide (And.intro (Blk.new w6 #[.string r1, .string r2] 72 w6.heap.size rfl) ((unhide E6).alloc (unhide E6).size (.cells #[.string r1, .string r2] 72)))
      generalize w6.alloc (.cells #[.string r1, .string r2] 72) = wz at *
      have z0 := (unhide RZ).1.cell 0 rfl
      have z1 := (unhide RZ).1.cell 1 rfl
      generalize w6.heap.size = zb at *
      clear hz6 x60 x61 x50 x51 x0 x1
      go_wp2_with fail
      go_quiet (fail)
      go_wp2_with fail
      refine bodyPost_ret (v := .tuple #[.string r1, .string r2, .int .i64 0]) (by simp [results, Tryd.results18, go_sem]) rfl ?_
      exact ⟨by rw [unhide HO], below_drewN (unhide RZ).2 _⟩
    · have RZ := hide (And.intro (((unhide Y6).set 0 (.string r1) (by simp)).set 1 (.string r2) (by simp)) (((unhide E6).setCell (p := ⟨w5.heap.size, 0, none⟩) hz5d (.string r1)).setCell (p := ⟨w5.heap.size, 1, none⟩) hz5d (.string r2)))
      generalize (w6.setCell ⟨w5.heap.size, 0, none⟩ (.string r1)).setCell ⟨w5.heap.size, 1, none⟩ (.string r2) = wz at *
      have z0 := (unhide RZ).1.cell 0 rfl
      have z1 := (unhide RZ).1.cell 1 rfl
      generalize w5.heap.size = zb at *
      clear y0 y1 f0 f1 hz6 x60 x61 x50 x51 x0 x1
      go_wp2_with fail
      go_quiet (fail)
      go_wp2_with fail
      refine bodyPost_ret (v := .tuple #[.string r1, .string r2, .int .i64 0]) (by simp [results, Tryd.results18, go_sem]) rfl ?_
      exact ⟨by rw [unhide HO], below_drewN (unhide RZ).2 _⟩
    · have RZ := hide (And.intro (((unhide Y6).set 0 (.string r1) (by simp)).set 1 (.string r2) (by simp)) (((unhide E6).setCell (p := ⟨w4.heap.size, 0, none⟩) hsB (.string r1)).setCell (p := ⟨w4.heap.size, 1, none⟩) hsB (.string r2)))
      generalize (w6.setCell ⟨w4.heap.size, 0, none⟩ (.string r1)).setCell ⟨w4.heap.size, 1, none⟩ (.string r2) = wz at *
      have z0 := (unhide RZ).1.cell 0 rfl
      have z1 := (unhide RZ).1.cell 1 rfl
      generalize w4.heap.size = zb at *
      clear y0 y1 f0 f1 hz6 x60 x61 x50 x51 x0 x1
      go_wp2_with fail
      go_quiet (fail)
      go_wp2_with fail
      refine bodyPost_ret (v := .tuple #[.string r1, .string r2, .int .i64 0]) (by simp [results, Tryd.results18, go_sem]) rfl ?_
      exact ⟨by rw [unhide HO], below_drewN (unhide RZ).2 _⟩
end Go.Proofs.YtnaoccndghnmpaaDoor.Sha
