/- CheckEntry: pure; (Trust).checkEntry, impl.CheckEntry, spec.CheckEntry. -/
import Derived.Test.YtiiaehajcomfaaaDoorCle
import Derived.Test.YtiiaehajcomfaaaDoorMkW
import Derived.Test.YtiiaehajcomfaaaDoorTk
import Derived.Test.YtiiaehajcomfaaaDoorQb
namespace Go.Proofs.YtiiaehajcomfaaaDoor.Sha
open Go.ChangeShapes Go.WideShapes Go.ChangeAt Go.RowKit
set_option linter.unusedVariables false
set_option linter.unusedSimpArgs false
set_option maxRecDepth 100000

def lfC (d : ByteArray) : Int := if 65535 < d.size then 2 else 0
def lfT (d : ByteArray) : ByteArray := if 65535 < d.size then ⟨#[]⟩ else leafV d
theorem lf_out (d : ByteArray) : leafOut d = .tuple #[.string (lfT d), .int .i64 (lfC d)] := by
  unfold leafOut lfT lfC; split <;> rfl
theorem lf_cases (d : ByteArray) : lfC d = 0 ∨ lfC d = 2 := by unfold lfC; split <;> simp
theorem lf_ok {d : ByteArray} (h : lfC d = 0) : lfT d = leafV d ∧ (lfT d).size = 32 ∧ d.size ≤ 65535 := by
  have h1 : ¬ 65535 < d.size := by intro h2; unfold lfC at h; rw [if_pos h2] at h; cases h
  have e : lfT d = leafV d := if_neg h1
  exact ⟨e, by rw [e]; exact hash_size (by simp [bytesI_len]; omega), by omega⟩
/-- The first of what is wrong with what was handed in. -/
def ckI (ky : ByteArray) (hs : Bool) (z : Int) (lg mp d : ByteArray) (pr : List ByteArray) : Int := inpC (mxI (lfC d) (codeL pr)) (truB ky hs z lg mp)
/-- Why a client that has leaves does not take an entry. -/
def ckR (z : Int) (lg d : ByteArray) (p : Int) (pr : List ByteArray) : Int :=
  if (rootOut (lfT d) p z pr).2 = 0 then (if (rootOut (lfT d) p z pr).1 = lg then 0 else 11) else (rootOut (lfT d) p z pr).2
/-- What CheckEntry answers. -/
def ckOut (ky : ByteArray) (hs : Bool) (z : Int) (lg mp d : ByteArray) (p : Int) (pr : List ByteArray) : Int :=
  if ckI ky hs z lg mp d pr = 0 then (if hs = true then ckR z lg d p pr else 5) else ckI ky hs z lg mp d pr
def ckE (ky : ByteArray) (hs : Bool) (z : Int) (lg mp d : ByteArray) (p : Int) (pr : List ByteArray) : Value :=
  if ckI ky hs z lg mp d pr = 0 then (if hs = true then (if ckR z lg d p pr = 0 then .nilIface else errR (ckR z lg d p pr)) else errR 5) else errW (ckI ky hs z lg mp d pr)
theorem inpC_zero {c : Int} {ok : Bool} (h : inpC c ok = 0) : c = 0 ∧ ok = true := by
  unfold inpC at h
  split at h
  · rename_i h1
    split at h
    · rename_i h2; exact ⟨h1, h2⟩
    · cases h
  · rename_i h1; exact absurd h h1
set_option maxHeartbeats 4000000 in
theorem checkEntry_any (ky : ByteArray) (hs : Bool) (z : Int) (lg mp d : ByteArray) (p : Int) (pr : List ByteArray) (b off cap : Nat) (w : World) (hk : ky.size ≤ maxLen) (hl : lg.size ≤ 1048576) (hm : mp.size ≤ maxLen) (hd : d.size ≤ 1048576) (hz : (Lit.int .i64 z).wf = true)
    (hsa : SA w b off cap pr) (hpz : ∀ i, (pr.getD i ByteArray.empty).size ≤ 1048576) (ht : Tab w) :
    Calls Tryd.prog 39 #[.agg #[.string ky, .bool hs, .int .i64 z, .string lg, .string mp], .string d, .int .i64 p, .slice (some ⟨b, off, none⟩) pr.length cap] w fun e w' => e = .returned (ckE ky hs z lg mp d p pr) ∧ Below w.heap.size w w' := by
  have HO : Hid (ckE ky hs z lg mp d p pr = if ckI ky hs z lg mp d pr = 0 then (if hs = true then (if ckR z lg d p pr = 0 then .nilIface else errR (ckR z lg d p pr)) else errR 5) else errW (ckI ky hs z lg mp d pr)) := rfl
  have HI : Hid (ckI ky hs z lg mp d pr = inpC (mxI (lfC d) (codeL pr)) (truB ky hs z lg mp)) := rfl
  have HR : Hid (ckR z lg d p pr = if (rootOut (lfT d) p z pr).2 = 0 then (if (rootOut (lfT d) p z pr).1 = lg then 0 else 11) else (rootOut (lfT d) p z pr).2) := rfl
  have B0 := hide ((Below.refl w.heap.size w).alloc (Nat.le_refl _) (.cells #[.string ky, .bool hs, .int .i64 z, .string lg, .string mp] 40))
  have X0 := hide (Blk.new w #[.string ky, .bool hs, .int .i64 z, .string lg, .string mp] 40 w.heap.size rfl)
  have HLF := hide (fun wx hx => implLeaf_any d wx hd hx)
  rw [lf_out] at HLF
  have HHF := hide (fun wx hx => hashesFault_any pr b off cap wx hx hpz)
  have HCI := hide (fun (B : Nat) (wx : World) h1 hb => checkInput_any hs z ky lg mp [lfC d, codeL pr] B 2 wx (by simp) h1 hb hk (by unfold maxLen; omega) hm)
  rw [mx2_eq (by rcases lf_cases d with h | h <;> rw [h] <;> decide), ← unhide HI] at HCI
  have HCH := hide (fun wx => checkHas_any hs z ky lg mp wx)
  have HRO := hide (fun wx hz1 hx hy => implRoot_any (lfT d) p z pr b off cap wx hz1 hz hx hpz hy)
  have HOK := hide (fun h : ckI ky hs z lg mp d pr = 0 => (inpC_zero ((unhide HI).symm.trans h)).1)
  have HLK := hide (lf_ok (d := d))
  have HL0 := hide (And.intro (lf_cases d) (codeL_lo pr))
  have HT := hide ht
  have HSA := hide hsa
  clear ht hsa hpz hk hm hd hz HI
  generalize ckE ky hs z lg mp d p pr = out at *
  generalize ckI ky hs z lg mp d pr = ci at *
  generalize ckR z lg d p pr = cr at *
  generalize lfT d = leaf at *
  generalize lfC d = lc at *
  generalize rootOut leaf p z pr = ro at *
  obtain ⟨rr, rc⟩ := ro
  dsimp only at HR HRO
  generalize hcl : codeL pr = cl at *
  clear hcl
  go_enter Tryd.func39, Tryd.ntmps39
  go_wp2_with fail
  generalize w.alloc (.cells #[.string ky, .bool hs, .int .i64 z, .string lg, .string mp] 40) = w1 at *
  refine (unhide HLF w1 ((unhide HT).below (unhide B0))).mono ?_
  rintro e w2 ⟨rfl, hb2⟩
  have B2 := hide ((unhide B0).trans (hb2.mono (unhide B0).size))
  have X2 := hide ((unhide X0).below hb2)
  clear hb2 HLF B0 X0
  have S2 := hide ((unhide HSA).below (unhide B2))
  have c0 := (unhide X2).cell 0 rfl
  have c1 := (unhide X2).cell 1 rfl
  have c2 := (unhide X2).cell 2 rfl
  have c3 := (unhide X2).cell 3 rfl
  have c4 := (unhide X2).cell 4 rfl
  go_wp2_with fail
  refine wp_region_noPanic ?_
  refine wp_region_held_drew (S := (fun wx => wx.cell? ⟨w.heap.size, 0, none⟩ = some (.string ky) ∧ wx.cell? ⟨w.heap.size, 1, none⟩ = some (.bool hs) ∧ wx.cell? ⟨w.heap.size, 2, none⟩ = some (.int .i64 z) ∧ wx.cell? ⟨w.heap.size, 3, none⟩ = some (.string lg) ∧ wx.cell? ⟨w.heap.size, 4, none⟩ = some (.string mp))) (by kernel_rfl) ?_ (fun hHeld => ?_)
  · exact ⟨c0, c1, c2, c3, c4⟩
  refine tkH 0 rfl ?_
  refine tkH 1 rfl ?_
  refine tkH 2 rfl ?_
  have BQ := hide (below_drewN (unhide B2) 1)
  have XQ := hide ((unhide X2).drewN 1)
  have SQ := hide ((unhide S2).drewN 1)
  obtain ⟨wq, hwq⟩ : ∃ wq, wq = w2.drewN 1 := ⟨_, rfl⟩
  change _ = w2.drew at hwq
  change Hid (Below w.heap.size w w2.drew) at BQ
  change Hid (Blk w2.drew _ _) at XQ
  change Hid (SA w2.drew _ _ _ _) at SQ
  rw [← hwq] at BQ XQ SQ hHeld ⊢
  clear hwq B2 X2 S2 c0 c1 c2 c3 c4
  refine wpAnyH_ready (rs := [3]) (by kernel_rfl) (by simp) ?_
  refine AllReadyH.cons (o := _) rfl (fun K hK => ?_) AllReadyH.nil
  go_simp
  refine (unhide HHF wq (unhide SQ)).mono ?_
  rintro e w9 ⟨rfl, hw⟩
  subst w9
  go_wp2_with fail
  refine hK.out _ _ ?_ (fun hHeld => ?_)
  · exact ⟨(unhide XQ).cell 0 rfl, (unhide XQ).cell 1 rfl, (unhide XQ).cell 2 rfl, (unhide XQ).cell 3 rfl, (unhide XQ).cell 4 rfl⟩
  clear hK K
  (try simp only [Act.put, List.getElem_toArray, List.getElem_cons_succ, List.getElem_cons_zero, List.setIfInBounds_toArray, List.set_cons_zero, List.set_cons_succ])
  refine wpAnyH_ready (rs := [4]) (by kernel_rfl) (by simp) ?_
  refine AllReadyH.cons (o := _) rfl (fun K hK => ?_) AllReadyH.nil
  have B3 := hide ((unhide BQ).alloc (unhide BQ).size (.cells #[.int .i64 lc, .int .i64 cl] 3))
  have X3 := hide ((unhide XQ).alloc (.cells #[.int .i64 lc, .int .i64 cl] 3))
  have Y3 := hide (Blk.new wq #[.int .i64 lc, .int .i64 cl] 3 wq.heap.size rfl)
  have S3 := hide ((unhide SQ).below ((Below.refl wq.heap.size wq).alloc (Nat.le_refl _) (.cells #[.int .i64 lc, .int .i64 cl] 3)))
  go_simp
  refine hK.out _ _ ?_ (fun hHeld => ?_)
  · exact ⟨(unhide X3).cell 0 rfl, (unhide X3).cell 1 rfl, (unhide X3).cell 2 rfl, (unhide X3).cell 3 rfl, (unhide X3).cell 4 rfl⟩
  clear hK K
  (try simp only [Act.put, List.getElem_toArray, List.getElem_cons_succ, List.getElem_cons_zero, List.setIfInBounds_toArray, List.set_cons_zero, List.set_cons_succ])
  generalize wq.alloc (.cells #[.int .i64 lc, .int .i64 cl] 3) = w3 at *
  generalize hg3 : wq.heap.size = g3 at *
  clear hg3 BQ XQ SQ
  refine wpAnyH_ready (rs := [5]) (by kernel_rfl) (by simp) ?_
  refine AllReadyH.cons (o := _) rfl (fun K hK => ?_) AllReadyH.nil
  go_simp
  refine (unhide HCI g3 w3 (fun i hi => by
    match i, hi with
    | 0, _ => exact (unhide Y3).cell 0 rfl
    | 1, _ => exact (unhide Y3).cell 1 rfl) (unhide Y3).1).mono ?_
  rintro e w4 ⟨rfl, hb4⟩
  have B4 := hide ((unhide B3).trans (hb4.mono (unhide B3).size))
  have X4 := hide ((unhide X3).below hb4)
  have S4 := hide ((unhide S3).below hb4)
  clear hb4
  go_wp2_with fail
  refine hK.out _ _ ?_ (fun hHeld => ?_)
  · exact ⟨(unhide X4).cell 0 rfl, (unhide X4).cell 1 rfl, (unhide X4).cell 2 rfl, (unhide X4).cell 3 rfl, (unhide X4).cell 4 rfl⟩
  clear hK K
  (try simp only [Act.put, List.getElem_toArray, List.getElem_cons_succ, List.getElem_cons_zero, List.setIfInBounds_toArray, List.set_cons_zero, List.set_cons_succ])
  refine tkH 6 rfl ?_
  refine wpAnyH_done (by kernel_rfl) (NoPanic.normal ?_) _
  clear B3 X3 S3 Y3 HCI
  rcases (show ¬ ci = 0 ∨ ci = 0 by omega) with hci | hci
  · rw [if_neg hci] at HO
    have HE : Hid (errI ci = .iface 91 (.agg #[.int .i64 ci])) := hide (if_neg hci)
    rw [unhide HE]
    go_wp2_with fail
    go_ret
    exact ⟨by rw [unhide HO]; rfl, unhide B4⟩
  subst hci
  rw [if_pos rfl] at HO
  have HE : Hid (errI 0 = .nilIface) := hide (if_pos rfl)
  rw [unhide HE]
  have hmx := unhide HOK rfl
  obtain ⟨l1, l2⟩ := unhide HL0
  have hz2 := mxI_zero (by omega) l2 hmx
  have hlc := hz2.1
  subst hlc
  have hlk := unhide HLK rfl
  have d0 := (unhide X4).cell 0 rfl
  have d1 := (unhide X4).cell 1 rfl
  have d2 := (unhide X4).cell 2 rfl
  have d3 := (unhide X4).cell 3 rfl
  have d4 := (unhide X4).cell 4 rfl
  have HLS := hide hlk.2.1
  have hzl : leaf.size ≤ 1048576 := by have := unhide HLS; omega
  clear hlk HLK HL0 HOK l1 l2 hz2 hmx
  go_wp2_with fail
  refine (unhide HCH w4).mono ?_
  rintro e w5 ⟨rfl, hb5⟩
  have B5 := hide ((unhide B4).trans (hb5.mono (unhide B4).size))
  have X5 := hide ((unhide X4).below hb5)
  have S5 := hide ((unhide S4).below hb5)
  clear hb5 B4 X4 S4 d0 d1 d2 d3 d4 HCH
  cases hs
  · rw [if_neg (by simp)] at HO
    rw [show (if false = true then Value.nilIface else errR 5) = .iface 92 (.agg #[.int .i64 5]) from rfl]
    go_wp2_with fail
    go_ret
    exact ⟨by rw [unhide HO]; rfl, unhide B5⟩
  rw [if_pos rfl] at HO
  rw [show (if true = true then Value.nilIface else errR 5) = .nilIface from rfl]
  have d2 := (unhide X5).cell 2 rfl
  go_wp2_with fail
  refine (unhide HRO w5 hzl (unhide S5) ((unhide HT).below (unhide B5))).mono ?_
  rintro e w6 ⟨rfl, hb6⟩
  have B6 := hide ((unhide B5).trans (hb6.mono (unhide B5).size))
  have X6 := hide ((unhide X5).below hb6)
  have d3 := (unhide X6).cell 3 rfl
  clear hb6 HRO d2 B5 X5 S5
  rcases (show ¬ rc = 0 ∨ rc = 0 by omega) with hrc | hrc
  · rw [if_neg hrc] at HR
    have hcr := unhide HR
    subst hcr
    rw [if_neg hrc] at HO
    have HRB := hide (fun wx => refusedBy_any cr wx)
    rw [if_neg hrc] at HRB
    go_wp2_with fail
    refine (unhide HRB w6).mono ?_
    rintro e w9 ⟨rfl, hw⟩
    subst w9
    go_wp2_with fail
    go_ret
    exact ⟨by rw [unhide HO]; rfl, unhide B6⟩
  subst hrc
  rw [if_pos rfl] at HR
  by_cases hrl : rr = lg
  · rw [if_pos hrl] at HR
    have hcr := unhide HR
    subst hcr
    rw [if_pos rfl] at HO
    have hb := textEq hrl
    have HRB := hide (fun wx => refusedBy_any 0 wx)
    rw [if_pos rfl] at HRB
    clear hrl
    go_wp2_with fail
    refine (unhide HRB w6).mono ?_
    rintro e w9 ⟨rfl, hw⟩
    subst w9
    go_wp2_with fail
    go_ret
    exact ⟨by rw [unhide HO]; rfl, unhide B6⟩
  · rw [if_neg hrl] at HR
    have hcr := unhide HR
    subst hcr
    rw [if_neg (by decide)] at HO
    have hb := textNe hrl
    have HRB := hide (fun wx => refusedBy_any 11 wx)
    rw [if_neg (by decide)] at HRB
    clear hrl
    go_wp2_with fail
    refine (unhide HRB w6).mono ?_
    rintro e w9 ⟨rfl, hw⟩
    subst w9
    go_wp2_with fail
    go_ret
    exact ⟨by rw [unhide HO]; rfl, unhide B6⟩
set_option maxHeartbeats 2000000 in
theorem implCheckEntry_any (ky : ByteArray) (hs : Bool) (z : Int) (lg mp d : ByteArray) (p : Int) (pr : List ByteArray) (b off cap : Nat) (w : World) (hk : ky.size ≤ maxLen) (hl : lg.size ≤ 1048576) (hm : mp.size ≤ maxLen) (hd : d.size ≤ 1048576) (hz : (Lit.int .i64 z).wf = true)
    (hsa : SA w b off cap pr) (hpz : ∀ i, (pr.getD i ByteArray.empty).size ≤ 1048576) (ht : Tab w) (hg : ErrT w) :
    Calls Tryd.prog 19 #[.agg #[.string ky, .bool hs, .int .i64 z, .string lg, .string mp], .string d, .int .i64 p, .slice (some ⟨b, off, none⟩) pr.length cap] w fun e w' => e = .returned (.int .i64 (ckOut ky hs z lg mp d p pr)) ∧ Below w.heap.size w w' := by
  have B0 := hide ((Below.refl w.heap.size w).alloc (Nat.le_refl _) (.cells #[.string ky, .bool hs, .int .i64 z, .string lg, .string mp] 40))
  have HCE := hide (fun wx hx hy => checkEntry_any ky hs z lg mp d p pr b off cap wx hk hl hm hd hz hx hpz hy)
  have HO : Hid ((ckE ky hs z lg mp d p pr = .nilIface ∧ ckOut ky hs z lg mp d p pr = 0) ∨ (∃ c, ckE ky hs z lg mp d p pr = errW c ∧ ckOut ky hs z lg mp d p pr = c) ∨ (∃ c, ckE ky hs z lg mp d p pr = errR c ∧ ckOut ky hs z lg mp d p pr = c)) := hide (by
    unfold ckE ckOut
    split
    · split
      · split
        · rename_i h; exact .inl ⟨rfl, h⟩
        · exact .inr (.inr ⟨_, rfl, rfl⟩)
      · exact .inr (.inr ⟨_, rfl, rfl⟩)
    · exact .inr (.inl ⟨_, rfl, rfl⟩))
  have HT := hide ht
  have HG := hide hg
  have HS := hide hsa
  clear hk hl hm hd hz hsa hpz ht hg
  generalize ckE ky hs z lg mp d p pr = ev at *
  generalize ckOut ky hs z lg mp d p pr = out at *
  go_enter Tryd.func19, Tryd.ntmps19
  go_wp2_with fail
  generalize w.alloc (.cells #[.string ky, .bool hs, .int .i64 z, .string lg, .string mp] 40) = w1 at *
  refine (unhide HCE w1 ((unhide HS).below (unhide B0)) ((unhide HT).below (unhide B0))).mono ?_
  rintro e w2 ⟨rfl, hb2⟩
  have B2 := hide ((unhide B0).trans (hb2.mono (unhide B0).size))
  clear hb2
  rcases unhide HO with ⟨h1, h2⟩ | ⟨c, h1, h2⟩ | ⟨c, h1, h2⟩
  · subst h1 h2
    go_wp2_with fail
    refine (clientCode_nil w2).mono ?_
    rintro e w3 ⟨rfl, hb3⟩
    have B3 := hide ((unhide B2).trans (hb3.mono (unhide B2).size))
    clear hb3
    go_wp2_with fail
    go_ret
    exact ⟨rfl, unhide B3⟩
  · subst h1 h2
    unfold errW
    go_wp2_with fail
    refine (clientCode_W _ w2 ((unhide HG).below (unhide B2))).mono ?_
    rintro e w3 ⟨rfl, hb3⟩
    have B3 := hide ((unhide B2).trans (hb3.mono (unhide B2).size))
    clear hb3
    go_wp2_with fail
    go_ret
    exact ⟨rfl, unhide B3⟩
  · subst h1 h2
    unfold errR
    go_wp2_with fail
    refine (clientCode_R _ w2 ((unhide HG).below (unhide B2))).mono ?_
    rintro e w3 ⟨rfl, hb3⟩
    have B3 := hide ((unhide B2).trans (hb3.mono (unhide B2).size))
    clear hb3
    go_wp2_with fail
    go_ret
    exact ⟨rfl, unhide B3⟩
end Go.Proofs.YtiiaehajcomfaaaDoor.Sha
