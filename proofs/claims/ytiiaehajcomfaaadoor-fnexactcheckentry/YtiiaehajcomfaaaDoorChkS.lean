/- spec.CheckEntry. -/
import Derived.Test.YtiiaehajcomfaaaDoorChk
namespace Go.Proofs.YtiiaehajcomfaaaDoor.Sha
open Go.ChangeShapes Go.WideShapes Go.ChangeAt Go.RowKit
set_option linter.unusedVariables false
set_option linter.unusedSimpArgs false
set_option maxRecDepth 100000

theorem ck_out (ky : ByteArray) (hs : Bool) (z : Int) (lg mp d : ByteArray) (p : Int) (pr : List ByteArray) {c : Int} (h : ckI ky hs z lg mp d pr = c) (hc : c ≠ 0) : ckOut ky hs z lg mp d p pr = c := by
  unfold ckOut; rw [h, if_neg hc]
theorem ck_ok (ky : ByteArray) (hs : Bool) (z : Int) (lg mp d : ByteArray) (p : Int) (pr : List ByteArray) (h : ckI ky hs z lg mp d pr = 0) : ckOut ky hs z lg mp d p pr = if hs = true then ckR z lg d p pr else 5 := by
  unfold ckOut; rw [h, if_pos rfl]
theorem ck_big {ky : ByteArray} {hs : Bool} {z : Int} {lg mp d : ByteArray} {pr : List ByteArray} (h : 4096 < pr.length ∨ 65535 < d.size) : ckI ky hs z lg mp d pr = 2 := by
  have e : mxI (lfC d) (codeL pr) = 2 := by
    rcases h with h | h
    · rw [cL2 h]; rcases lf_cases d with e | e <;> rw [e] <;> rfl
    · rw [show lfC d = 2 from if_pos h]; rcases codeL_cases pr with e | e | e <;> rw [e] <;> rfl
  unfold ckI; rw [e]; rfl
theorem ck_bad {ky : ByteArray} {hs : Bool} {z : Int} {lg mp d : ByteArray} {pr : List ByteArray} (h1 : ¬ 4096 < pr.length) (h2 : ¬ 65535 < d.size) (h : truB ky hs z lg mp = false ∨ (decide (pr.length ≤ 64) && allH pr) = false) : ckI ky hs z lg mp d pr = 1 := by
  have e : lfC d = 0 := if_neg h2
  unfold ckI; rw [e]
  rcases Bool.eq_false_or_eq_true (decide (pr.length ≤ 64) && allH pr) with h3 | h3
  · rw [cL0 h3]
    rcases h with h | h
    · rw [h]; rfl
    · rw [h] at h3; cases h3
  · rw [cL1 h1 h3]; rfl
theorem ck_good {ky : ByteArray} {hs : Bool} {z : Int} {lg mp d : ByteArray} {pr : List ByteArray} (h2 : ¬ 65535 < d.size) (h : truB ky hs z lg mp = true) (h3 : (decide (pr.length ≤ 64) && allH pr) = true) : ckI ky hs z lg mp d pr = 0 := by
  have e : lfC d = 0 := if_neg h2
  unfold ckI; rw [e, cL0 h3, h]; rfl
theorem truB_has {ky : ByteArray} {z : Int} {lg mp : ByteArray} (h : truB ky true z lg mp = true) : (0 ≤ z ∧ z ≤ 50) ∧ lg.size = 32 := by
  unfold truB at h
  rw [Bool.and_eq_true, if_pos rfl] at h
  exact ⟨(stmB_iff.1 h.2).1, (stmB_iff.1 h.2).2.1⟩
set_option maxHeartbeats 4000000 in
theorem specCheckEntry_any (ky : ByteArray) (hs : Bool) (z : Int) (lg mp d : ByteArray) (p : Int) (pr : List ByteArray) (b off cap : Nat) (w : World) (hk : ky.size ≤ maxLen) (hl : lg.size ≤ maxLen) (hm : mp.size ≤ maxLen) (hd : d.size ≤ 1048576) (hz : (Lit.int .i64 z).wf = true)
    (hsa : SA w b off cap pr) (hpz : ∀ i, (pr.getD i ByteArray.empty).size ≤ 1048576) :
    Calls Tryd.prog 16 #[.agg #[.string ky, .bool hs, .int .i64 z, .string lg, .string mp], .string d, .int .i64 p, .slice (some ⟨b, off, none⟩) pr.length cap] w fun e w' => e = .returned (.int .i64 (ckOut ky hs z lg mp d p pr)) ∧ Below w.heap.size w w' := by
  have hle : pr.length ≤ 9223372036854775807 := by have := hsa.le; have := hsa.mx; unfold maxLen at this; omega
  have B0 := hide ((Below.refl w.heap.size w).alloc (Nat.le_refl _) (.cells #[.string ky, .bool hs, .int .i64 z, .string lg, .string mp] 40))
  have X0 := hide (Blk.new w #[.string ky, .bool hs, .int .i64 z, .string lg, .string mp] 40 w.heap.size rfl)
  have HOX := hide (fun (c : Int) h hc => ck_out ky hs z lg mp d p pr (c := c) h hc)
  by_cases g1 : 4096 < pr.length
  · have HO := hide (unhide HOX _ (ck_big (.inl g1)) (by decide))
    clear hsa hpz HOX
    generalize ckOut ky hs z lg mp d p pr = out at *
    go_enter Tryd.func16, Tryd.ntmps16
    go_wp2_with fail
    go_ret
    exact ⟨by rw [unhide HO]; rfl, unhide B0⟩
  by_cases g2 : 65535 < d.size
  · have HO := hide (unhide HOX _ (ck_big (.inr g2)) (by decide))
    clear hsa hpz HOX
    generalize ckOut ky hs z lg mp d p pr = out at *
    go_enter Tryd.func16, Tryd.ntmps16
    go_wp2_with fail
    go_ret
    exact ⟨by rw [unhide HO]; rfl, unhide B0⟩
  have HTR := hide (fun wx => specTrustOK_any hs z ky lg mp wx hk hl hm)
  have HH := hide (fun wx hx => l06Hashes_any pr b off cap wx hx hpz)
  have HBAD := hide (fun h => ck_bad (ky := ky) (hs := hs) (z := z) (lg := lg) (mp := mp) (d := d) (pr := pr) g1 g2 h)
  have HGOOD := hide (fun h h3 => ck_ok ky hs z lg mp d p pr (ck_good g2 h h3))
  have HAL := hide (fun h : (decide (pr.length ≤ 64) && allH pr) = true => codeL_ok (cL0 h))
  have HHAS := hide (fun h : truB ky true z lg mp = true => truB_has h)
  have HLT : Hid (lfT d = leafV d ∧ (lfT d).size = 32 ∧ d.size ≤ 65535) := hide (lf_ok (if_neg g2))
  have HS := hide hsa
  have g2b : ¬ (65535 : Int) < (d.size : Int) := by omega
  have g1b : ¬ (4096 : Int) < (pr.length : Int) := by omega
  clear hsa hpz hk hl hm hz
  go_enter Tryd.func16, Tryd.ntmps16
  go_wp2_with fail
  generalize w.alloc (.cells #[.string ky, .bool hs, .int .i64 z, .string lg, .string mp] 40) = w1 at *
  have c0 := (unhide X0).cell 0 rfl
  have c1 := (unhide X0).cell 1 rfl
  have c2 := (unhide X0).cell 2 rfl
  have c3 := (unhide X0).cell 3 rfl
  have c4 := (unhide X0).cell 4 rfl
  refine (unhide HTR w1).mono ?_
  rintro e w2 ⟨rfl, hb2⟩
  have B2 := hide ((unhide B0).trans (hb2.mono (unhide B0).size))
  have X2 := hide ((unhide X0).below hb2)
  have S2 := hide ((unhide HS).below (unhide B2))
  clear hb2 B0 X0 c0 c1 c2 c3 c4 HTR
  rcases Bool.eq_false_or_eq_true (truB ky hs z lg mp) with ht | ht
  case inr =>
    have HO := hide (unhide HOX _ (unhide HBAD (.inl ht)) (by decide))
    rw [ht]
    go_wp2_with fail
    go_ret
    exact ⟨by rw [unhide HO]; rfl, unhide B2⟩
  rw [ht]
  go_wp2_with fail
  refine (unhide HH w2 (unhide S2)).mono ?_
  rintro e w9 ⟨rfl, hw⟩
  subst w9
  rcases Bool.eq_false_or_eq_true (decide (pr.length ≤ 64) && allH pr) with hh | hh
  case inr =>
    have HO := hide (unhide HOX _ (unhide HBAD (.inr hh)) (by decide))
    rw [hh]
    go_wp2_with fail
    go_ret
    exact ⟨by rw [unhide HO]; rfl, unhide B2⟩
  rw [hh]
  have HO := hide (unhide HGOOD ht hh)
  have hal := unhide HAL hh
  have HTH := hide ht
  clear HOX HBAD HGOOD HAL HH hh ht
  have c1 := (unhide X2).cell 1 rfl
  have c2 := (unhide X2).cell 2 rfl
  have c3 := (unhide X2).cell 3 rfl
  cases hs
  · rw [if_neg (by simp)] at HO
    clear hal
    go_wp2_with fail
    go_ret
    exact ⟨by rw [unhide HO]; rfl, unhide B2⟩
  rw [if_pos rfl] at HO
  obtain ⟨⟨z0, z1⟩, hlg⟩ := unhide HHAS (unhide HTH)
  have HR : Hid (ckR z lg d p pr = if (rootOut (lfT d) p z pr).2 = 0 then (if (rootOut (lfT d) p z pr).1 = lg then 0 else 11) else (rootOut (lfT d) p z pr).2) := rfl
  obtain ⟨hpl, hah⟩ := hal
  have HAH := hide hah
  have hm0 : mxI (hfC (lfT d)) (codeL pr) = 0 := by
    rw [hf0 (unhide HLT).2.1, cL0 (by rw [Bool.and_eq_true, decide_eq_true_eq]; exact ⟨hpl, allH_yes hah⟩)]; rfl
  have HRO : Hid (rootOut (lfT d) p z pr = (if inB z 1 64 = true ∧ inB p 0 (z - 1) = true then
      (if pr.length = (wayV p.toNat z.toNat).length then (((wayV p.toNat z.toNat).zip pr).foldl climbV (lfT d), 0) else (⟨#[]⟩, 10)) else (⟨#[]⟩, 4))) := hide (by unfold rootOut; rw [if_pos hm0])
  clear hah hm0 hlg
  have I3 := hide (l01In_any p 0 (z - 1) w2)
  have I4 := hide (inB_iff (n := p) (lo := 0) (hi := z - 1))
  have I5 := hide (inB_iff (n := z) (lo := 1) (hi := 64))
  have wz : IntKind.i64.wrap (z - 1) = z - 1 := by
    simp only [IntKind.wrap, IntKind.bits, IntKind.signed]
    simp
    omega
  generalize inB p 0 (z - 1) = b2 at *
  go_wp2_with fail
  refine (unhide I3).mono ?_
  rintro e w9 ⟨rfl, hw⟩
  subst w9
  cases b2
  · have hro := unhide HRO
    rw [if_neg (by simp)] at hro
    have hcr := unhide HR
    rw [hro, if_neg (by decide)] at hcr
    rw [hcr] at HO
    clear hro hcr
    go_wp2_with fail
    go_ret
    exact ⟨by rw [unhide HO]; rfl, unhide B2⟩
  obtain ⟨p0, p1⟩ := (unhide I4).1 rfl
  have hz1 := (unhide I5).2 ⟨by omega, by omega⟩
  rw [hz1, if_pos (by simp)] at HRO
  obtain ⟨pn, rfl⟩ : ∃ q : Nat, p = (q : Int) := ⟨p.toNat, by omega⟩
  obtain ⟨nn, rfl⟩ : ∃ q : Nat, z = (q : Int) := ⟨z.toNat, by omega⟩
  rw [Int.toNat_natCast, Int.toNat_natCast] at HRO
  have HU := hide (fun wx hx => l06Up_any nn (lfT d) pn pr pr.length b off cap wx (by omega) (by omega) (by omega) rfl hpl (unhide HLT).2.1 (unhide HAH) hx)
  obtain ⟨u1, u2⟩ := up_way nn (lfT d) pn pr (by omega) (by omega)
  have HU1 := hide u1
  have HU2 := hide u2
  have HLF := hide (fun wx => l06Leaf_any d wx (unhide HLT).2.2)
  rw [← (unhide HLT).1] at HLF
  clear I3 I4 I5 u1 u2 hz1 HLT HTH HHAS
  generalize lfT d = leaf at *
  generalize (upV leaf pn nn pr).1 = x at *
  generalize (upV leaf pn nn pr).2 = ok at *
  have hx2 := (unhide X2).1
  have d2 := Wb.cell c2 hx2
  clear c1 c2 c3
  go_wp2_with fail
  refine wp_region_wb (by kernel_rfl) (by kernel_rfl) ?_
  repeat (go_big_quiet_step (first | (go_at_call 37; exact wb_of (unhide HLF _)) | (go_at_call 36; exact wb_of (unhide HU _ ((unhide S2).below (Wb.below _))))))
  refine wpQuiet_nil ?_
  intro _ hw'
  obtain ⟨⟨w3, hb3⟩, rfl⟩ := hw'
  have B3 := hide ((unhide B2).trans (hb3.mono (unhide B2).size))
  have X3 := hide ((unhide X2).below hb3)
  have c3 := (unhide X3).cell 3 rfl
  clear hb3 d2
  by_cases hpw : pr.length = (wayV pn nn).length
  · rw [if_pos hpw, ← unhide HU2 hpw] at HRO
    have hok := unhide HU1
    rw [decide_eq_true hpw] at hok
    subst hok
    rw [unhide HRO, if_pos rfl] at HR
    dsimp only at HR
    clear HU1 HU2 hpw HRO
    by_cases hxl : x = lg
    · rw [if_pos hxl] at HR
      rw [unhide HR] at HO
      have hxb := textEq hxl
      clear hxl
      go_wp2_with fail
      go_ret
      exact ⟨by rw [unhide HO]; rfl, unhide B3⟩
    · rw [if_neg hxl] at HR
      rw [unhide HR] at HO
      have hxb := textNe hxl
      clear hxl
      go_wp2_with fail
      go_ret
      exact ⟨by rw [unhide HO]; rfl, unhide B3⟩
  · rw [if_neg hpw] at HRO
    have hok := unhide HU1
    rw [decide_eq_false hpw] at hok
    subst hok
    rw [unhide HRO, if_neg (by decide)] at HR
    rw [unhide HR] at HO
    clear HU1 HU2 hpw HRO
    go_wp2_with fail
    go_ret
    exact ⟨by rw [unhide HO]; rfl, unhide B3⟩
end Go.Proofs.YtiiaehajcomfaaaDoor.Sha
