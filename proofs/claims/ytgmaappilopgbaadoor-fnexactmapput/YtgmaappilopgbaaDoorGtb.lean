/- spec.MapPut. The laws' marks in branches, found again: heldBranchS, heldBranch. The laws' markBranch; how many branches there are at most. What the laws do with two branches: eq; a branch that came in, opened. -/
import Derived.Test.YtgmaappilopgbaaDoorGta
import Derived.Test.YtgmaappilopgbaaDoorBrX
import Derived.Test.YtgmaappilopgbaaDoorBlk
import Derived.Test.YtgmaappilopgbaaDoorBrO
import Derived.Deep.Fields
import Derived.Deep.Slices
namespace Go.Proofs.YtgmaappilopgbaaDoor.Sha
open Go.ChangeShapes Go.WideShapes Go.ChangeAt Go.RowKit
set_option linter.unusedVariables false
set_option linter.unusedSimpArgs false

theorem opC_cases (b : Br) (key : ByteArray) : opC b key = 0 ∨ opC b key = 1 ∨ opC b key = 2 := by
  unfold opC
  split
  · split
    · exact .inr (.inl rfl)
    · exact .inl rfl
  · exact txC_cases _ _ _
theorem mp_long1 {b : Br} {key val : ByteArray} (h : 65536 < key.size) : mpOut b key val = (brOf none, 2) := by
  have e : txC key.size 1 24 = 2 := by unfold txC; rw [if_pos h]
  have e2 : opC b key = 2 := by unfold opC; rw [e, if_neg (by omega)]
  have e3 : mxI 2 (txC val.size 0 60) = 2 := by rcases txC_cases val.size 0 60 with h | h | h <;> rw [h] <;> rfl
  unfold mpOut
  rw [e2, e3, if_neg (by omega)]
theorem mp_long2 {b : Br} {key val : ByteArray} (h : 65536 < val.size) : mpOut b key val = (brOf none, 2) := by
  have e : txC val.size 0 60 = 2 := by unfold txC; rw [if_pos h]
  have e3 : mxI (opC b key) 2 = 2 := by rcases opC_cases b key with h | h | h <;> rw [h] <;> rfl
  unfold mpOut
  rw [e, e3, if_neg (by omega)]
def mpB (b : Br) (key val : ByteArray) : Bool := mapB b && okK key && decide (val.size ≤ 60)
theorem mp_short {b : Br} {key val : ByteArray} (h1 : ¬ 65536 < key.size) (h2 : ¬ 65536 < val.size) : mpOut b key val = if mpB b key val = true then (match mapV b with | none => (brOf none, 0) | some o => mpO o key val) else (brOf none, 1) := by
  have e1 : txC key.size 1 24 = if okK key = true then 0 else 1 := by unfold txC; rw [if_neg h1, okK_in]
  have e2 : txC val.size 0 60 = if val.size ≤ 60 then 0 else 1 := by
    unfold txC
    rw [if_neg h2]
    by_cases h : val.size ≤ 60
    · rw [if_pos h, if_pos (inB_iff.2 (by omega))]
    · rw [if_neg h, if_neg (fun e => h (by have := inB_iff.1 e; omega))]
  have e3 : opC b key = if mapB b = true ∧ okK key = true then 0 else 1 := by
    unfold opC
    rw [e1, mapB_V]
    cases okK key
    · simp
    · cases mapV b <;> simp
  unfold mpOut mpB
  rw [e2, e3]
  cases mapB b <;> cases okK key <;> by_cases h : val.size ≤ 60 <;> simp [h, mxI] <;> (cases mapV b <;> rfl)
set_option maxRecDepth 100000 in
set_option maxHeartbeats 4000000 in
theorem specMapPut_any (k v : ByteArray) (a : Int) (ks : List Br) (key val : ByteArray) (S : Nat → Prop) (kv : Value) (w : World) (hB : Brs S w kv ks) (hk : k.size ≤ maxLen) (hv : v.size ≤ maxLen) (hky : key.size ≤ 1048576) (hvl : val.size ≤ 1048576) :
    Calls Tryd.prog 9 #[.agg #[.string k, .string v, .int .i64 a, kv], .string key, .string val] w fun e w' => ∃ u, e = .returned (.tuple #[u, .int .i64 (mpOut (.mk k v a ks) key val).2]) ∧ BrV w.heap.size w' u (mpOut (.mk k v a ks) key val).1 ∧ Below w.heap.size w w' := by
  obtain ⟨sa, cap, rfl, hcap, hcm⟩ := hB.shape
  have B0 := hide (((Below.refl w.heap.size w).alloc (Nat.le_refl _) (.cells #[.string k, .string v, .int .i64 a, .slice sa ks.length cap] 28)).alloc (by simp) (.cells #[.string ⟨#[]⟩, .string ⟨#[]⟩, .int .i64 0, .slice none 0 0] 28))
  have X0 := hide ((Blk.new w #[.string k, .string v, .int .i64 a, .slice sa ks.length cap] 28 w.heap.size rfl).alloc (.cells #[.string ⟨#[]⟩, .string ⟨#[]⟩, .int .i64 0, .slice none 0 0] 28))
  have R0 := hide (Blk.new (w.alloc (.cells #[.string k, .string v, .int .i64 a, .slice sa ks.length cap] 28)) #[.string ⟨#[]⟩, .string ⟨#[]⟩, .int .i64 0, .slice none 0 0] 28 (w.heap.size + 1) (by simp))
  have HSZ := hide (show w.heap.size ≤ w.heap.size + 1 by omega)
  have HXR := hide (show w.heap.size < w.heap.size + 1 by omega)
  have HM := hide (fun wx (hx : Below w.heap.size w wx) => specMapOK_any k v a ks S _ wx (hB.blw hx) hk hv)
  have HKY := hide (fun wx => l02Keyb_any key wx (by unfold maxLen; omega))
  have HPT := hide (fun (hkv : TrOK (.leaf key val)) o (h : mapV (.mk k v a ks) = some o) wx (hx : Below w.heap.size w wx) => show Calls Tryd.prog 33 #[.agg #[.string k, .string v, .int .i64 a, .slice sa ks.length cap], .string key, .string val] wx fun e w' => DrR w.heap.size (mpT o key val).toBr wx e w' by
    obtain ⟨h1, h2⟩ := mapV_br h
    have hx2 := hB.bound.blw hx
    have q := l07Put_any o h2 (mapV_rise h) (mapV_sep h) key val hkv w.heap.size (.slice sa ks.length cap) wx hx.size (by rw [← h1]; exact hx2)
    rw [← h1] at q
    exact q)
  by_cases h1 : 65536 < key.size
  · have HO : Hid (mpOut (.mk k v a ks) key val = (brOf none, 2)) := hide (mp_long1 h1)
    have HCD : True := trivial
    clear hB hk hv HM HPT HCD
    go_enter Tryd.func9, Tryd.ntmps9
    go_upto_region 1 with fail
    generalize (w.alloc (.cells #[.string k, .string v, .int .i64 a, .slice sa ks.length cap] 28)).alloc (.cells #[.string ⟨#[]⟩, .string ⟨#[]⟩, .int .i64 0, .slice none 0 0] 28) = w1 at *
    generalize w.heap.size + 1 = rb at *
    have r0 := (unhide R0).cell 0 rfl
    have r1 := (unhide R0).cell 1 rfl
    have r2 := (unhide R0).cell 2 rfl
    have r3 := (unhide R0).cell 3 rfl
    have f0 := (unhide R0).fro 0
    have f1 := (unhide R0).fro 1
    have f2 := (unhide R0).fro 2
    have f3 := (unhide R0).fro 3
    have hE := end4b (b := brOf none) (m := rb + 1) (unhide R0) (unhide B0) (BrO.nil (fun x => rb + 1 ≤ x ∧ x < _) none 0 (by unfold maxLen; omega)) (unhide HSZ) (Nat.lt_succ_self _)
    have z0 := hE.1.cell 0 rfl
    have z1 := hE.1.cell 1 rfl
    have z2 := hE.1.cell 2 rfl
    have z3 := hE.1.cell 3 rfl
    have HE := hide hE
    unfold set4 at z0 z1 z2 z3
    dsimp only [brOf, Br.key, Br.val, Br.at_] at z0 z1 z2 z3
    clear hE
    go_wp2_with fail
    refine bodyPost_ret (v := .tuple #[.agg #[.string ⟨#[]⟩, .string ⟨#[]⟩, .int .i64 0, .slice none 0 0], .int .i64 2]) (by simp [results, Tryd.results9, go_sem, z0, z1, z2, z3]) rfl ?_
    exact ⟨_, by rw [unhide HO], by rw [unhide HO]; exact (unhide HE).2.1, (unhide HE).2.2⟩
  by_cases h2 : 65536 < val.size
  · have HO : Hid (mpOut (.mk k v a ks) key val = (brOf none, 2)) := hide (mp_long2 h2)
    have HCD : True := trivial
    clear hB hk hv HM HPT HCD
    go_enter Tryd.func9, Tryd.ntmps9
    go_upto_region 1 with fail
    generalize (w.alloc (.cells #[.string k, .string v, .int .i64 a, .slice sa ks.length cap] 28)).alloc (.cells #[.string ⟨#[]⟩, .string ⟨#[]⟩, .int .i64 0, .slice none 0 0] 28) = w1 at *
    generalize w.heap.size + 1 = rb at *
    have r0 := (unhide R0).cell 0 rfl
    have r1 := (unhide R0).cell 1 rfl
    have r2 := (unhide R0).cell 2 rfl
    have r3 := (unhide R0).cell 3 rfl
    have f0 := (unhide R0).fro 0
    have f1 := (unhide R0).fro 1
    have f2 := (unhide R0).fro 2
    have f3 := (unhide R0).fro 3
    have hE := end4b (b := brOf none) (m := rb + 1) (unhide R0) (unhide B0) (BrO.nil (fun x => rb + 1 ≤ x ∧ x < _) none 0 (by unfold maxLen; omega)) (unhide HSZ) (Nat.lt_succ_self _)
    have z0 := hE.1.cell 0 rfl
    have z1 := hE.1.cell 1 rfl
    have z2 := hE.1.cell 2 rfl
    have z3 := hE.1.cell 3 rfl
    have HE := hide hE
    unfold set4 at z0 z1 z2 z3
    dsimp only [brOf, Br.key, Br.val, Br.at_] at z0 z1 z2 z3
    clear hE
    go_wp2_with fail
    refine bodyPost_ret (v := .tuple #[.agg #[.string ⟨#[]⟩, .string ⟨#[]⟩, .int .i64 0, .slice none 0 0], .int .i64 2]) (by simp [results, Tryd.results9, go_sem, z0, z1, z2, z3]) rfl ?_
    exact ⟨_, by rw [unhide HO], by rw [unhide HO]; exact (unhide HE).2.1, (unhide HE).2.2⟩
  have HSH := hide (mp_short (b := .mk k v a ks) h1 h2)
  have HBD : Hid (mpB (.mk k v a ks) key val = (mapB (.mk k v a ks) && okK key && decide (val.size ≤ 60))) := rfl
  have HMV := hide (mapB_V (.mk k v a ks))
  clear hB hk hv
  go_enter Tryd.func9, Tryd.ntmps9
  go_upto_region 3 with fail
  generalize (w.alloc (.cells #[.string k, .string v, .int .i64 a, .slice sa ks.length cap] 28)).alloc (.cells #[.string ⟨#[]⟩, .string ⟨#[]⟩, .int .i64 0, .slice none 0 0] 28) = w1 at *
  generalize w.heap.size + 1 = rb at *
  have HM1 := hide (unhide HM w1 (unhide B0))
  generalize mpB (.mk k v a ks) key val = mpb at *
  have x0 := (unhide X0).cell 0 rfl
  have x1 := (unhide X0).cell 1 rfl
  have x2 := (unhide X0).cell 2 rfl
  have x3 := (unhide X0).cell 3 rfl
  go_cut [30] (fun s wx => s = .bool (!mpb) ∧ Below w1.heap.size w1 wx)
  case first =>
    clear HSH HMV HM HPT
    generalize mapB (.mk k v a ks) = mb at *
    generalize okK key = ok at *
    go_wp2_with fail
    refine (unhide HM1).mono ?_
    rintro e w2 ⟨rfl, hb2⟩
    have HB2 := hide hb2
    clear hb2
    cases mb
    · go_wp2_with fail
      go_meet
      exact ⟨by rw [unhide HBD]; rfl, unhide HB2⟩
    · go_wp2_with fail
      refine (unhide HKY w2).mono ?_
      rintro e w9 ⟨rfl, hw9⟩
      subst w9
      cases ok
      · go_wp2_with fail
        go_meet
        exact ⟨by rw [unhide HBD]; rfl, unhide HB2⟩
      · by_cases h3 : val.size ≤ 60
        · have h4 : ¬ (60 : Int) < (val.size : Int) := by omega
          go_wp2_with fail
          go_meet
          exact ⟨by rw [unhide HBD]; simp [h3, h4], unhide HB2⟩
        · have h4 : (60 : Int) < (val.size : Int) := by omega
          go_wp2_with fail
          go_meet
          exact ⟨by rw [unhide HBD]; simp [h3, h4], unhide HB2⟩
  case rest =>
    obtain ⟨rfl, hbc⟩ := hcut
    obtain ⟨w2, hw2⟩ : ∃ w2, w2 = wc := ⟨_, rfl⟩
    subst hw2
    have B2 := hide ((unhide B0).trans (hbc.mono (unhide B0).size))
    have X2 := hide ((unhide X0).below hbc)
    have R2 := hide ((unhide R0).below hbc)
    clear hbc B0 X0 R0 HM HM1 HKY x0 x1 x2 x3
    cases mpb
    · have HO : Hid (mpOut (.mk k v a ks) key val = (brOf none, 1)) := hide (by rw [unhide HSH, if_neg (by simp)])
      clear HSH HBD HMV HPT
      rw [show (!false) = true from rfl]
      have r0 := (unhide R2).cell 0 rfl
      have r1 := (unhide R2).cell 1 rfl
      have r2 := (unhide R2).cell 2 rfl
      have r3 := (unhide R2).cell 3 rfl
      have f0 := (unhide R2).fro 0
      have f1 := (unhide R2).fro 1
      have f2 := (unhide R2).fro 2
      have f3 := (unhide R2).fro 3
      have hE := end4b (b := brOf none) (m := rb + 1) (unhide R2) (unhide B2) (BrO.nil (fun x => rb + 1 ≤ x ∧ x < _) none 0 (by unfold maxLen; omega)) (unhide HSZ) (Nat.lt_succ_self _)
      have z0 := hE.1.cell 0 rfl
      have z1 := hE.1.cell 1 rfl
      have z2 := hE.1.cell 2 rfl
      have z3 := hE.1.cell 3 rfl
      have HE := hide hE
      unfold set4 at z0 z1 z2 z3
      dsimp only [brOf, Br.key, Br.val, Br.at_] at z0 z1 z2 z3
      clear hE
      go_wp2_with fail
      refine bodyPost_ret (v := .tuple #[.agg #[.string ⟨#[]⟩, .string ⟨#[]⟩, .int .i64 0, .slice none 0 0], .int .i64 1]) (by simp [results, Tryd.results9, go_sem, z0, z1, z2, z3]) rfl ?_
      exact ⟨_, by rw [unhide HO], by rw [unhide HO]; exact (unhide HE).2.1, (unhide HE).2.2⟩
    · obtain ⟨⟨hm1, hm2⟩, hm3⟩ : (mapB (.mk k v a ks) = true ∧ okK key = true) ∧ val.size ≤ 60 := by
        have h := unhide HBD
        simpa using h.symm
      obtain ⟨o, hmo⟩ : ∃ o, mapV (.mk k v a ks) = some o := by
        have h := unhide HMV
        rw [hm1] at h
        cases hq : mapV (.mk k v a ks) with
        | none => rw [hq] at h; cases h
        | some o => exact ⟨o, rfl⟩
      have HO : Hid (mpOut (.mk k v a ks) key val = mpO o key val) := hide (by rw [unhide HSH, if_pos rfl, hmo])
      have hkv : TrOK (.leaf key val) := ⟨hm2, hm3⟩
      have HP2 := hide (unhide HPT hkv o hmo w2 (unhide B2))
      have HOK := hide (mpT_ok (mapV_br hmo).2 hkv)
      have HS40 : Hid ((mpT o key val).lvN ≤ 41 ∧ (40 < (mpT o key val).lvN → mpOut (.mk k v a ks) key val = (brOf none, 7)) ∧ (¬ 40 < (mpT o key val).lvN → mpOut (.mk k v a ks) key val = ((mpT o key val).toBr, 0))) := hide (by
        rw [unhide HO]
        have hsp := mapV_sep hmo
        have hbo := (mapV_br hmo).2
        cases o with
        | none => exact ⟨by show 1 ≤ 41; omega, fun h => by have h' : 40 < 1 := h; omega, fun _ => rfl⟩
        | some t =>
          have hn := putT_lvN (kh key) (putAt t key) key val (fd_le _ _) t hbo
          have h40 := hsp.2
          have e : (mpT (some t) key val).lvN = if putAt t key < 256 then t.lvN + 1 else t.lvN := hn
          rw [e]
          refine ⟨by split <;> omega, fun h => ?_, fun h => ?_⟩
          · unfold mpO
            dsimp only
            split at h
            · rename_i h5
              rw [if_pos ⟨h5, by omega⟩]
            · omega
          · unfold mpO
            dsimp only
            split at h
            · rename_i h5
              rw [if_neg (fun q => by omega)]
              rfl
            · rename_i h5
              rw [if_neg (fun q => h5 q.1)]
              rfl)
      have HCN := hide (show cntL (mpT o key val).toBr.kids ≤ 1048576 by have := tr_cntL (mpT o key val); have := (unhide HS40).1; omega)
      have HSZ2 := hide (fun S kv wx hb => l07Size_any (mpT o key val) (unhide HOK) (by have := (unhide HS40).1; omega) S kv wx hb)
      generalize mpT o key val = D at *
      clear HSH HBD HMV hm1 hm2 hm3 hmo HO hkv HPT
      rw [show (!true) = false from rfl]
      have x0 := (unhide X2).cell 0 rfl
      have x1 := (unhide X2).cell 1 rfl
      have x2 := (unhide X2).cell 2 rfl
      have x3 := (unhide X2).cell 3 rfl
      go_wp2_with fail
      refine (unhide HP2).mono ?_
      rintro e w3 ⟨s3, n3, c3, rfl, hBr3, hb3⟩
      have hsh := hBr3.shape
      have BB := (Below.refl w3.heap.size w3).alloc (Nat.le_refl _) (.cells #[.string D.toBr.key, .string D.toBr.val, .int .i64 D.toBr.at_, .slice s3 n3 c3] 28)
      have hb3b := hb3.trans (BB.mono hb3.size)
      have B3 := hide ((unhide B2).trans (hb3b.mono (unhide B2).size))
      have R3 := hide ((unhide R2).below hb3b)
      have Q3 := hide (Blk.new w3 #[.string D.toBr.key, .string D.toBr.val, .int .i64 D.toBr.at_, .slice s3 n3 c3] 28 w3.heap.size rfl)
      have K3 := hide (hBr3.blw BB)
      clear hb3 hb3b BB B2 X2 R2 x0 x1 x2 x3 hBr3 hsh HP2
      go_upto_region 6 with fail
      generalize w3.alloc (.cells #[.string D.toBr.key, .string D.toBr.val, .int .i64 D.toBr.at_, .slice s3 n3 c3] 28) = w4 at *
      generalize w3.heap.size = Q at *
      have q0 := (unhide Q3).cell 0 rfl
      have q1 := (unhide Q3).cell 1 rfl
      have q2 := (unhide Q3).cell 2 rfl
      have q3 := (unhide Q3).cell 3 rfl
      go_wp2_with fail
      refine (unhide HSZ2 _ _ w4 (unhide K3)).mono ?_
      rintro e w5 ⟨rfl, hb5⟩
      have B5 := hide ((unhide B3).trans (hb5.mono (unhide B3).size))
      have R5 := hide ((unhide R3).below hb5)
      have Q5 := hide ((unhide Q3).below hb5)
      have K5 := hide ((unhide K3).blw hb5)
      clear hb5 B3 R3 Q3 K3 q0 q1 q2 q3 HSZ2
      generalize hsn : D.lvN = sn at *
      by_cases hgt : 40 < sn
      · have HO7 := hide ((unhide HS40).2.1 hgt)
        have hgt2 : (40 : Int) < (sn : Int) := by omega
        clear HS40 hsn
        have r0 := (unhide R5).cell 0 rfl
        have r1 := (unhide R5).cell 1 rfl
        have r2 := (unhide R5).cell 2 rfl
        have r3 := (unhide R5).cell 3 rfl
        have f0 := (unhide R5).fro 0
        have f1 := (unhide R5).fro 1
        have f2 := (unhide R5).fro 2
        have f3 := (unhide R5).fro 3
        have hE := end4b (b := brOf none) (m := rb + 1) (unhide R5) (unhide B5) (BrO.nil (fun x => rb + 1 ≤ x ∧ x < _) none 0 (by unfold maxLen; omega)) (unhide HSZ) (Nat.lt_succ_self _)
        have z0 := hE.1.cell 0 rfl
        have z1 := hE.1.cell 1 rfl
        have z2 := hE.1.cell 2 rfl
        have z3 := hE.1.cell 3 rfl
        have HE := hide hE
        unfold set4 at z0 z1 z2 z3
        dsimp only [brOf, Br.key, Br.val, Br.at_] at z0 z1 z2 z3
        clear hE
        go_wp2_with fail
        refine bodyPost_ret (v := .tuple #[.agg #[.string ⟨#[]⟩, .string ⟨#[]⟩, .int .i64 0, .slice none 0 0], .int .i64 7]) (by simp [results, Tryd.results9, go_sem, z0, z1, z2, z3]) rfl ?_
        exact ⟨_, by rw [unhide HO7], by rw [unhide HO7]; exact (unhide HE).2.1, (unhide HE).2.2⟩
      · have HO0 := hide ((unhide HS40).2.2 hgt)
        have hgt2 : ¬ (40 : Int) < (sn : Int) := by omega
        have q0 := (unhide Q5).cell 0 rfl
        have q1 := (unhide Q5).cell 1 rfl
        have q2 := (unhide Q5).cell 2 rfl
        have q3 := (unhide Q5).cell 3 rfl
        have HOW := hide (l07Own_any (unhide K5) D.toBr.key D.toBr.val D.toBr.at_ w5 (unhide HCN) (Below.refl _ _))
        rw [br_eta] at HOW
        clear HS40 hsn
        go_wp2_with fail
        refine (unhide HOW).mono ?_
        rintro e w6 ⟨s6, n6, c6, rfl, hO6, hb6⟩
        have R6 := hide ((unhide R5).below hb6)
        have B6 := hide ((unhide B5).trans (hb6.mono (unhide B5).size))
        have hE := end4b (unhide R6) (unhide B6) hO6 (unhide HSZ) (unhide R5).1
        clear hb6 hO6 HOW B5 q0 q1 q2 q3
        have r0 := (unhide R6).cell 0 rfl
        have r1 := (unhide R6).cell 1 rfl
        have r2 := (unhide R6).cell 2 rfl
        have r3 := (unhide R6).cell 3 rfl
        have f0 := (unhide R6).fro 0
        have f1 := (unhide R6).fro 1
        have f2 := (unhide R6).fro 2
        have f3 := (unhide R6).fro 3
        have z0 := hE.1.cell 0 rfl
        have z1 := hE.1.cell 1 rfl
        have z2 := hE.1.cell 2 rfl
        have z3 := hE.1.cell 3 rfl
        have HE := hide hE
        unfold set4 at z0 z1 z2 z3
        clear hE
        go_wp2_with fail
        refine bodyPost_ret (v := .tuple #[.agg #[.string D.toBr.key, .string D.toBr.val, .int .i64 D.toBr.at_, .slice s6 n6 c6], .int .i64 0]) (by simp [results, Tryd.results9, go_sem, z0, z1, z2, z3]) rfl ?_
        exact ⟨_, by rw [unhide HO0], by rw [unhide HO0]; exact (unhide HE).2.1, (unhide HE).2.2⟩
end Go.Proofs.YtgmaappilopgbaaDoor.Sha
namespace Go.Proofs.YtgmaappilopgbaaDoor.Sha
open Go.ChangeShapes Go.WideShapes Go.ChangeAt Go.RowKit
set_option linter.unusedVariables false
set_option linter.unusedSimpArgs false

set_option maxRecDepth 100000 in
set_option maxHeartbeats 4000000 in
theorem heldBranchS_any {S : Nat → Prop} {w0 : World} {v : Value} {L : List Br} (h : Brs S w0 v L) : ∀ (k : Nat) (l : List Br) (w : World), L = markL k l → Below w0.heap.size w0 w → 0 < k → k + 3 * cntL l ≤ 8388608 →
    Calls Tryd.prog 47 #[v, .int .i64 k] w fun e w' => e = .returned (.int .i64 ((k + 3 * cntL l : Nat) : Int)) ∧ Below w.heap.size w w' := by
  induction h with
  | nil a cap hc =>
    intro k l w hl hb0 hk0 hk1
    obtain rfl : l = [] := List.eq_nil_of_length_eq_zero (by rw [← markL_len k l, ← hl]; rfl)
    have hc0 : k + 3 * cntL [] = k := by unfold cntL; omega
    rw [hc0]
    clear hb0 hc hl hk1 hc0
    go_enter Tryd.func47, Tryd.ntmps47
    go_wp2_with fail
    go_loopw [1, 5] (fun kk i wr => kk = .int .i64 (k : Int) ∧ i = .int .i64 0 ∧ wr = w) (fun _ _ _ => 0)
    case atStart => exact ⟨rfl, rfl, rfl⟩
    case round =>
      obtain ⟨rfl, rfl, hwr⟩ := hrel
      subst wr
      go_wp2_with fail
      go_ret
      exact ⟨rfl, Below.refl _ _⟩
  | row b off cap L kv p0 p1 p2 p3 p4 p5 p6 p7 ih =>
    intro k l w hl hb0 hk0 hk1
    have HC := hide (BrAt.mk p3 p4 p5 p6 p7 : BrAt S w0 b off L kv)
    have HI := hide ih
    have HB0 := hide hb0
    have hlen : L.length = l.length := by rw [hl, markL_len]
    have HMG := hide (fun i (hi : i < l.length) => show L.getD i default = markB (k + 3 * cntL (l.take i)) (l.getD i default) by rw [hl]; exact markL_get l k i hi)
    have hlm : l.length ≤ 9223372036854775807 := by unfold maxLen at p2; omega
    rw [hlen]
    have HCT := hide (fun i => cnt_take_le l i)
    clear p3 p4 p5 p6 p7 ih hb0 p1 p2 hl
    go_enter Tryd.func47, Tryd.ntmps47
    go_wp2_with fail
    go_loopw [1, 5] (fun kk i wr => ∃ j : Nat, j ≤ l.length ∧ kk = .int .i64 ((k + 3 * cntL (l.take j) : Nat) : Int) ∧ i = .int .i64 j ∧ Below w.heap.size w wr) (fun _ i _ => l.length - (intOf i).toNat)
    case atStart => exact ⟨0, Nat.zero_le _, by simp [cntL], rfl, Below.refl _ _⟩
    case round =>
      obtain ⟨j, hj, rfl, rfl, hb⟩ := hrel
      by_cases hlt : j < l.length
      · have hltL : j < L.length := by omega
        obtain ⟨s0, s1, s2, s3⟩ := (unhide HC).cells j hltL
        have hbl := (unhide HC).lt
        have hb00 := (unhide HB0).trans (hb.mono (unhide HB0).size)
        have hmb := markB_key (k + 3 * cntL (l.take j)) (l.getD j default)
        have hct := cnt_take l j hlt
        have hcl := unhide HCT (j + 1)
        have hce := Br.cnt_eq (l.getD j default)
        obtain ⟨ka, kc, hkv, _, _⟩ := ((unhide HC).kids j hltL).shape
        have HR := hide (fun wx (hx : Below w0.heap.size w0 wx) => unhide HI j hltL (k + 3 * cntL (l.take j) + 3) (l.getD j default).kids wx (by rw [unhide HMG j hlt]; exact hmb.2.2.2) hx (by omega) (by omega))
        rw [hkv] at HR s3
        rw [unhide HMG j hlt, hmb.2.2.2, markL_len] at s3 HR
        rw [unhide HMG j hlt, hmb.1] at s0
        rw [unhide HMG j hlt, hmb.2.1] at s1
        rw [unhide HMG j hlt, hmb.2.2.1] at s2
        have hnext : k + 3 * cntL (l.take j) + 3 + 3 * cntL (l.getD j default).kids = k + 3 * cntL (l.take (j + 1)) := by omega
        rw [hnext] at HR
        obtain ⟨q, hq⟩ : ∃ q, q = k + 3 * cntL (l.take j) := ⟨_, rfl⟩
        obtain ⟨nx, hnx⟩ : ∃ nx, nx = k + 3 * cntL (l.take (j + 1)) := ⟨_, rfl⟩
        rw [← hnx] at HR
        rw [← hq] at s0 s1 s2 HR ⊢
        have hq0 : 0 < q := by omega
        have hq1 : q + 3 ≤ 8388608 := by omega
        have HNX := hide hnx
        have c0 := (hb00.cell (p := ⟨b, off + j * 4, none⟩) hbl).trans s0
        have c1 := (hb00.cell (p := ⟨b, off + j * 4 + 1, none⟩) hbl).trans s1
        have c2 := (hb00.cell (p := ⟨b, off + j * 4 + 2, none⟩) hbl).trans s2
        have c3 := (hb00.cell (p := ⟨b, off + j * 4 + 3, none⟩) hbl).trans s3
        have hk0' : (0 : Int) ≤ (j : Int) := by omega
        have hk1' : (j : Int) < (l.length : Int) := by omega
        have hz1 : b < wr.heap.size := Nat.lt_of_lt_of_le hbl hb00.size
        have HB := hide hb
        have HB00 := hide hb00
        have w1a : IntKind.i64.wrap ((q : Int) + 1) = ((q + 1 : Nat) : Int) := by simp only [IntKind.wrap, IntKind.bits, IntKind.signed]; simp; omega
        have w2a : IntKind.i64.wrap (((q + 1 : Nat) : Int) + 1) = ((q + 2 : Nat) : Int) := by simp only [IntKind.wrap, IntKind.bits, IntKind.signed]; simp; omega
        have w3a : IntKind.i64.wrap (((q + 2 : Nat) : Int) + 1) = ((q + 3 : Nat) : Int) := by simp only [IntKind.wrap, IntKind.bits, IntKind.signed]; simp; omega
        clear hb00 s0 s1 s2 s3 hb hkv hbl hmb hct hcl hce hnext hnx hq hk1
        generalize hq1n : q + 1 = qa at *
        generalize hq2n : q + 2 = qb at *
        generalize hq3n : q + 3 = qc at *
        have HQN := hide (And.intro hq1n (And.intro hq2n hq3n))
        clear hq1n hq2n hq3n
        generalize (l.getD j default).kids.length = fn at *
        obtain ⟨m0, hm0⟩ : ∃ m0, m0 = mtx q := ⟨_, rfl⟩
        obtain ⟨m1, hm1⟩ : ∃ m1, m1 = mtx qa := ⟨_, rfl⟩
        have MT0 := hide (fun wx => markText_int (q : Int) q rfl wx (by omega) (by have := (unhide HQN).2.2; omega))
        have MT1 := hide (fun wx => markText_int (qa : Int) qa rfl wx (by have := (unhide HQN).1; omega) (by have := (unhide HQN).1; have := (unhide HQN).2.2; omega))
        rw [← hm0] at MT0 c0
        rw [← hm1] at MT1 c1
        clear hm0 hm1
        go_wp2_with fail
        go_region_held3 (fun wx => wx.cell? ⟨b, off + j * 4, none⟩ = some (.string m0)) (first | go_keep | exact (hb2.cell (p := ⟨b, off + j * 4, none⟩) hz1).trans c0) ((go_at_call 83; refine (unhide MT0 _).mono ?_; rintro e w2 ⟨rfl, hb2⟩))
        all_goals
          have hb2' : Below wr.heap.size wr w2 := (below_drewN (Below.refl _ wr) 1).trans hb2
          have d1 := (hb2'.cell (p := ⟨b, off + j * 4 + 1, none⟩) hz1).trans c1
          have d2 := (hb2'.cell (p := ⟨b, off + j * 4 + 2, none⟩) hz1).trans c2
          have d3 := (hb2'.cell (p := ⟨b, off + j * 4 + 3, none⟩) hz1).trans c3
          have hz2 : b < w2.heap.size := Nat.lt_of_lt_of_le hz1 hb2'.size
          have HB2 := hide ((unhide HB).trans (hb2'.mono (unhide HB).size))
          have HB02 := hide ((unhide HB00).trans (hb2'.mono (unhide HB00).size))
          clear hb2 hb2' c0 c1 c2 c3 HB HB00
          go_wp2_with fail
          go_region_held3 (fun wx => wx.cell? ⟨b, off + j * 4 + 1, none⟩ = some (.string m1)) (first | go_keep | exact (hb3.cell (p := ⟨b, off + j * 4 + 1, none⟩) hz2).trans d1) ((go_at_call 83; refine (unhide MT1 _).mono ?_; rintro e w3 ⟨rfl, hb3⟩))
          all_goals
            have hb3' : Below w2.heap.size w2 w3 := (below_drewN (Below.refl _ w2) 1).trans hb3
            have e2 := (hb3'.cell (p := ⟨b, off + j * 4 + 2, none⟩) hz2).trans d2
            have e3 := (hb3'.cell (p := ⟨b, off + j * 4 + 3, none⟩) hz2).trans d3
            have HB3 := hide ((unhide HB2).trans (hb3'.mono (unhide HB2).size))
            have HB03 := hide ((unhide HB02).trans (hb3'.mono (unhide HB02).size))
            clear hb3 hb3' d1 d2 d3 HB2 HB02
            go_wp2_with fail
            refine (unhide HR w3 (unhide HB03)).mono ?_
            rintro e w4 ⟨rfl, hb4⟩
            have HB4 := hide ((unhide HB3).trans (hb4.mono (unhide HB3).size))
            clear hb4 HB3 HB03 e2 e3
            have hnn : ¬ (nx : Int) < 0 := by omega
            go_wp2_with fail
            refine ⟨⟨j + 1, by omega, by rw [unhide HNX], by go_num, unhide HB4⟩, ?_⟩
            simp [intOf]; omega
      · obtain rfl : j = l.length := by omega
        have HB := hide hb
        clear hb
        rw [List.take_length]
        go_wp2_with fail
        go_ret
        exact ⟨rfl, unhide HB⟩
set_option maxRecDepth 100000 in
set_option maxHeartbeats 1000000 in
theorem heldBranch_any (k v : ByteArray) (at_ : Int) (a : Option Addr) (n cap : Nat) {S : Nat → Prop} {w : World} {l : List Br} (h : Brs S w (.slice a n cap) (markL 1 l)) (hc : 1 + 3 * cntL l ≤ 8388608) :
    Calls Tryd.prog 14 #[.agg #[.string k, .string v, .int .i64 at_, .slice a n cap], .int .i64 1] w fun e w' => e = .returned (.int .i64 ((1 + 3 * cntL l : Nat) : Int)) ∧ Below w.heap.size w w' := by
  have B1 := hide ((Below.refl w.heap.size w).alloc (Nat.le_refl _) (.cells #[.string k, .string v, .int .i64 at_, .slice a n cap] 28))
  have HE := hide (heldBranchS_any h 1 l _ rfl (unhide B1) (by omega) hc)
  clear h
  generalize 1 + 3 * cntL l = m at *
  go_enter Tryd.func14, Tryd.ntmps14
  go_wp2_with fail
  refine (unhide HE).mono ?_
  rintro e w2 ⟨rfl, hb2⟩
  have B2 := hide ((unhide B1).trans (hb2.mono (unhide B1).size))
  clear hb2 HE
  have hn : ¬ (m : Int) < 0 := by omega
  go_wp2_with fail
  go_ret
  exact ⟨rfl, unhide B2⟩
end Go.Proofs.YtgmaappilopgbaaDoor.Sha
namespace Go.Proofs.YtgmaappilopgbaaDoor.Sha
open Go.ChangeShapes Go.WideShapes Go.ChangeAt Go.RowKit
set_option linter.unusedVariables false

set_option maxRecDepth 100000 in
set_option maxHeartbeats 1000000 in
theorem markBranch_any (k v : ByteArray) (at_ : Int) (a : Option Addr) (n cap : Nat) {S : Nat → Prop} {w : World} {l : List Br} (h : BrO w S (.slice a n cap) l) (hc : 1 + 3 * cntL l ≤ 8388608) :
    Calls Tryd.prog 13 #[.agg #[.string k, .string v, .int .i64 at_, .slice a n cap], .int .i64 1] w fun e w' => e = .returned (.int .i64 ((1 + 3 * cntL l : Nat) : Int)) ∧ BrO w' S (.slice a n cap) (markL 1 l) ∧ Touch S w w' := by
  have T1 := hide ((Touch.refl (fun _ => False) w).alloc (.cells #[.string k, .string v, .int .i64 at_, .slice a n cap] 28))
  have HE := hide (markBranchS_any h _ (fun _ => False) 1 (unhide T1) (fun _ _ h => h) (by omega) hc)
  have TS := hide ((Touch.refl S w).alloc (.cells #[.string k, .string v, .int .i64 at_, .slice a n cap] 28))
  clear h
  generalize 1 + 3 * cntL l = m at *
  go_enter Tryd.func13, Tryd.ntmps13
  go_wp2_with fail
  refine (unhide HE).mono ?_
  rintro e w2 ⟨rfl, hO2, hT2⟩
  have R := hide (And.intro hO2 ((unhide TS).trans hT2 (fun _ _ h => h)))
  clear hO2 hT2 HE
  go_wp2_with fail
  go_ret
  exact ⟨rfl, (unhide R).1, (unhide R).2⟩
end Go.Proofs.YtgmaappilopgbaaDoor.Sha
namespace Go.Proofs.YtgmaappilopgbaaDoor.Sha
open Go.ChangeShapes Go.WideShapes Go.ChangeAt Go.RowKit Go.Deep
set_option linter.unusedVariables false

set_option maxRecDepth 100000 in
set_option maxHeartbeats 1000000 in
theorem eqBranch_of (k v : ByteArray) (at_ : Int) (a a2 : Option Addr) (n n2 cap cap2 : Nat) (w : World)
    (HK : ∀ wx, Below w.heap.size w wx → Calls Tryd.prog 45 #[.slice a n cap, .slice a2 n2 cap2] wx fun e w' => e = .returned (.bool true) ∧ Below wx.heap.size wx w') :
    Calls Tryd.prog 12 #[.agg #[.string k, .string v, .int .i64 at_, .slice a n cap], .agg #[.string k, .string v, .int .i64 at_, .slice a2 n2 cap2]] w fun e w' => e = .returned (.bool true) ∧ Below w.heap.size w w' := by
  have HKK := hide HK
  have B0 := hide (((Below.refl w.heap.size w).alloc (Nat.le_refl _) (.cells #[.string k, .string v, .int .i64 at_, .slice a n cap] 28)).alloc (by simp) (.cells #[.string k, .string v, .int .i64 at_, .slice a2 n2 cap2] 28))
  clear HK
  go_enter Tryd.func12, Tryd.ntmps12
  go_wp2_with fail
  refine (unhide HKK _ (unhide B0)).mono ?_
  rintro e w1 ⟨rfl, hb1⟩
  have B1 := hide ((unhide B0).trans (hb1.mono (unhide B0).size))
  clear hb1
  go_wp2_with fail
  go_ret
  exact ⟨rfl, unhide B1⟩
set_option maxRecDepth 100000 in
set_option maxHeartbeats 2000000 in
theorem eqBranchS_any {S : Nat → Prop} {w0 : World} {v : Value} {l : List Br} (h : Brs S w0 v l) : ∀ (S2 : Nat → Prop) (v2 : Value) (w : World), Below w0.heap.size w0 w → Brs S2 w v2 l →
    Calls Tryd.prog 45 #[v, v2] w fun e w' => e = .returned (.bool true) ∧ Below w.heap.size w w' := by
  induction h with
  | nil a cap hc =>
    intro S2 v2 w hb0 h2
    obtain ⟨a2, cap2, rfl, _, _⟩ := h2.shape
    clear hb0 hc h2
    go_enter Tryd.func45, Tryd.ntmps45
    go_wp2_with fail
    go_loopw [5] (fun i wr => i = .int .i64 0 ∧ wr = w) (fun i _ => 0)
    case atStart => exact ⟨rfl, rfl⟩
    case round =>
      obtain ⟨rfl, hwr⟩ := hrel
      subst wr
      go_wp2_with fail
      go_ret
      exact ⟨rfl, Below.refl _ _⟩
  | row b off cap l kv p0 p1 p2 p3 p4 p5 p6 p7 ih =>
    intro S2 v2 w hb0 h2
    have HC := hide (BrAt.mk p3 p4 p5 p6 p7 : BrAt S w0 b off l kv)
    have HI := hide ih
    have HB0 := hide hb0
    have hlm : l.length ≤ 9223372036854775807 := by unfold maxLen at p2; omega
    obtain ⟨a2, cap2, rfl, _, _⟩ := h2.shape
    obtain ⟨b2, off2, kv2, rfl, _, hat2⟩ := h2.at p0
    have HC2 := hide hat2
    clear p3 p4 p5 p6 p7 ih hb0 p1 p2 h2 hat2
    go_enter Tryd.func45, Tryd.ntmps45
    go_wp2_with fail
    go_loopw [5] (fun i wr => ∃ k : Nat, k ≤ l.length ∧ i = .int .i64 k ∧ Below w.heap.size w wr) (fun i _ => l.length - (intOf i).toNat)
    case atStart => exact ⟨0, Nat.zero_le _, rfl, Below.refl _ _⟩
    case round =>
      obtain ⟨k, hk, rfl, hb⟩ := hrel
      by_cases hlt : k < l.length
      · obtain ⟨s0, s1, s2, s3⟩ := (unhide HC).cells k hlt
        obtain ⟨t0, t1, t2, t3⟩ := (unhide HC2).cells k hlt
        have hbl := (unhide HC).lt
        have hbl2 := (unhide HC2).lt
        have hb00 := (unhide HB0).trans (hb.mono (unhide HB0).size)
        have c0 := (hb00.cell (p := ⟨b, off + k * 4, none⟩) hbl).trans s0
        have c1 := (hb00.cell (p := ⟨b, off + k * 4 + 1, none⟩) hbl).trans s1
        have c2 := (hb00.cell (p := ⟨b, off + k * 4 + 2, none⟩) hbl).trans s2
        have c3 := (hb00.cell (p := ⟨b, off + k * 4 + 3, none⟩) hbl).trans s3
        have d0 := (hb.cell (p := ⟨b2, off2 + k * 4, none⟩) hbl2).trans t0
        have d1 := (hb.cell (p := ⟨b2, off2 + k * 4 + 1, none⟩) hbl2).trans t1
        have d2 := (hb.cell (p := ⟨b2, off2 + k * 4 + 2, none⟩) hbl2).trans t2
        have d3 := (hb.cell (p := ⟨b2, off2 + k * 4 + 3, none⟩) hbl2).trans t3
        obtain ⟨ka, kc, hkv, _, _⟩ := ((unhide HC).kids k hlt).shape
        obtain ⟨ka2, kc2, hkv2, _, _⟩ := ((unhide HC2).kids k hlt).shape
        have hk0 : (0 : Int) ≤ (k : Int) := by omega
        have hk1 : (k : Int) < (l.length : Int) := by omega
        have hbs := hb.size
        have hz1 : b < wr.heap.size := Nat.lt_of_lt_of_le hbl hb00.size
        have hz2 : b2 < wr.heap.size := Nat.lt_of_lt_of_le hbl2 hbs
        have HB := hide hb
        have HT := hide (fun wx (hbx : Below w.heap.size w wx) => eqBranch_of (l.getD k default).key (l.getD k default).val (l.getD k default).at_ ka ka2 (l.getD k default).kids.length (l.getD k default).kids.length kc kc2 wx
          (fun wy q2 => by
            have hwy := hbx.trans (q2.mono hbx.size)
            have := unhide HI k hlt S2 (kv2 k) wy ((unhide HB0).trans (hwy.mono (unhide HB0).size)) (((unhide HC2).kids k hlt).blw hwy)
            rw [hkv, hkv2] at this
            exact this))
        rw [hkv] at c3
        rw [hkv2] at d3
        clear hb00 s0 s1 s2 s3 t0 t1 t2 t3 hb hkv hkv2 hbl hbl2
        generalize (l.getD k default).key = fk at *
        generalize (l.getD k default).val = fv at *
        generalize (l.getD k default).at_ = fa at *
        generalize (l.getD k default).kids.length = fn at *
        go_wp2_with fail
        go_region_held3 (fun wx => wx.cell? ⟨b, off + k * 4, none⟩ = some (.string fk) ∧ wx.cell? ⟨b, off + k * 4 + 1, none⟩ = some (.string fv) ∧ wx.cell? ⟨b, off + k * 4 + 2, none⟩ = some (.int .i64 fa) ∧ wx.cell? ⟨b, off + k * 4 + 3, none⟩ = some (.slice ka fn kc) ∧ wx.cell? ⟨b2, off2 + k * 4, none⟩ = some (.string fk) ∧ wx.cell? ⟨b2, off2 + k * 4 + 1, none⟩ = some (.string fv) ∧ wx.cell? ⟨b2, off2 + k * 4 + 2, none⟩ = some (.int .i64 fa) ∧ wx.cell? ⟨b2, off2 + k * 4 + 3, none⟩ = some (.slice ka2 fn kc2))
          (first | go_keep | exact ⟨(hb2.cell (p := ⟨b, off + k * 4, none⟩) hz1).trans c0, (hb2.cell (p := ⟨b, off + k * 4 + 1, none⟩) hz1).trans c1, (hb2.cell (p := ⟨b, off + k * 4 + 2, none⟩) hz1).trans c2, (hb2.cell (p := ⟨b, off + k * 4 + 3, none⟩) hz1).trans c3, (hb2.cell (p := ⟨b2, off2 + k * 4, none⟩) hz2).trans d0, (hb2.cell (p := ⟨b2, off2 + k * 4 + 1, none⟩) hz2).trans d1, (hb2.cell (p := ⟨b2, off2 + k * 4 + 2, none⟩) hz2).trans d2, (hb2.cell (p := ⟨b2, off2 + k * 4 + 3, none⟩) hz2).trans d3⟩)
          ((go_at_call 12; refine (unhide HT _ (below_drewN (unhide HB) 1)).mono ?_; rintro e w2 ⟨rfl, hb2⟩))
        all_goals
          have HBZ := hide ((unhide HB).trans (show Below w.heap.size wr w2 from (below_drewN (Below.refl _ wr) 1).trans (hb2.mono (by simpa using hbs))))
          clear hb2 HB HT
          go_wp2_with fail
          refine ⟨⟨k + 1, by omega, by go_num, unhide HBZ⟩, ?_⟩
          simp [intOf]; omega
      · have HB := hide hb
        clear hb
        go_wp2_with fail
        go_ret
        exact ⟨rfl, unhide HB⟩
theorem array4s {c : Array Value} (h : c.size = 4) : ∃ a b d e, c = #[a, b, d, e] := by
  match c, h with
  | ⟨[a, b, d, e]⟩, _ => exact ⟨a, b, d, e, rfl⟩
set_option maxRecDepth 100000 in
/-- Branches that came in, opened. -/
theorem open_branches {H : Type} {enc : TypeId × Value → H} {W : World} {base : Nat} {sp : Nat → Bool} {held : Bool} : ∀ (fuel : Nat) (c : Value) (x : DataW H × List MemPlace),
    DataW.trod enc Tryd.prog W base sp held fuel 22 [c] = some x → ∃ l : List Br, Brs (fun _ => True) W c l := by
  have i3 : Tryd.prog.cellsOf 3 = 1 := by kernel_rfl
  have i9 : Tryd.prog.cellsOf 9 = 1 := by kernel_rfl
  have iS : Tryd.prog.cellsOf 22 = 1 := by kernel_rfl
  have iF : Tryd.prog.cellsOf 24 = 4 := by kernel_rfl
  intro fuel
  induction fuel using Nat.strongRecOn with
  | ind fuel ih =>
    intro c x h
    rcases DataW.trod_slice Tryd.underlying22 h with ⟨hc, _⟩ | ⟨a, len, cap, elems, rest, n, hfu, hc, _, hb, hl, hm, hel, hx, _, _⟩
    · simp only [List.cons.injEq, and_true] at hc
      subst hc
      exact ⟨[], .nil none 0 (by unfold maxLen; omega)⟩
    · simp only [List.cons.injEq, and_true] at hc
      subst hc
      rw [iF] at hx
      by_cases h0 : len = 0
      · subst h0
        exact ⟨[], .nil (some a) cap hm⟩
      have each : ∀ i, i < len → ∃ f : Br × Value, W.cell? (a.add (i * 4)) = some (.string f.1.key) ∧ W.cell? (a.add (i * 4 + 1)) = some (.string f.1.val) ∧ W.cell? (a.add (i * 4 + 2)) = some (.int .i64 f.1.at_) ∧ W.cell? (a.add (i * 4 + 3)) = some f.2 ∧ (f.1.key.size ≤ maxLen ∧ f.1.val.size ≤ maxLen) ∧ Brs (fun _ => True) W f.2 f.1.kids := by
        intro i hi
        have hxi := hx i hi
        rw [List.getElem?_eq_getElem (by omega)] at hxi
        obtain ⟨cs', h1, h2⟩ := Option.bind_eq_some_iff.1 hxi
        obtain ⟨_, hlen, hcell⟩ := World.cells?_some h1
        obtain ⟨xs, k, hk, hxy, _, hxl, hf⟩ := DataW.trod_struct Tryd.underlying24 h2
        match cs', hlen with
        | [v0, v1, v2, v3], _ =>
          obtain ⟨y0, e0⟩ := get_some hxl (show 0 < 4 by omega)
          obtain ⟨y1, e1⟩ := get_some hxl (show 1 < 4 by omega)
          obtain ⟨y2, e2⟩ := get_some hxl (show 2 < 4 by omega)
          obtain ⟨y3, e3⟩ := get_some hxl (show 3 < 4 by omega)
          have g0 : DataW.trod enc Tryd.prog W base sp held k 9 [v0] = some y0 := by simpa [Value.cells, i9] using (hf 0 _ rfl).trans e0
          have g1 : DataW.trod enc Tryd.prog W base sp held k 9 [v1] = some y1 := by simpa [Value.cells, i9] using (hf 1 _ rfl).trans e1
          have g2 : DataW.trod enc Tryd.prog W base sp held k 3 [v2] = some y2 := by simpa [Value.cells, i3] using (hf 2 _ rfl).trans e2
          have g3 : DataW.trod enc Tryd.prog W base sp held k 22 [v3] = some y3 := by simpa [Value.cells, iS] using (hf 3 _ rfl).trans e3
          obtain ⟨a0, f0, _, q0⟩ := DataW.trod_string Tryd.underlying9 g0
          obtain ⟨a1, f1, _, q1⟩ := DataW.trod_string Tryd.underlying9 g1
          obtain ⟨a2, f2, _, q2⟩ := DataW.trod_int Tryd.underlying3 g2
          obtain ⟨ks, hks⟩ := ih k (by omega) v3 y3 g3
          simp only [List.cons.injEq, and_true] at f0 f1 f2
          subst f0 f1 f2
          have c0 := hcell 0 (by omega)
          have c1 := hcell 1 (by omega)
          have c2 := hcell 2 (by omega)
          have c3 := hcell 3 (by omega)
          rw [add_add] at c0 c1 c2 c3
          exact ⟨(.mk a0 a1 a2 ks, v3), by simpa [Br.key] using c0, by simpa [Br.val] using c1, by simpa [Br.at_] using c2, by simpa using c3, ⟨q0, q1⟩, hks⟩
      obtain ⟨F, hF⟩ := choose_lt each
      have hlen : ((List.range len).map (fun i => (F i).1)).length = len := by simp
      have hget : ∀ i, i < len → ((List.range len).map (fun i => (F i).1)).getD i default = (F i).1 := fun i hi => by simp [List.getD_eq_getElem?_getD, hi]
      obtain ⟨b, off, spot⟩ := a
      have hc := (hF 0 (by omega)).1
      have hspot : spot = none := by simpa [Addr.add] using World.cell?_spot hc
      subst hspot
      have hblk := World.block_lt_of_cell? W _ hc
      have e0 : ∀ i, (⟨b, off, none⟩ : Addr).add i = ⟨b, off + i, none⟩ := fun i => by unfold Addr.add; split <;> simp_all
      rw [e0] at hblk
      have hR := Brs.row (S := fun _ => True) (w := W) b off cap ((List.range len).map (fun i => (F i).1)) (fun i => (F i).2) (by omega) (by omega) hm hblk trivial
        (fun i hi => by
          rw [hlen] at hi
          obtain ⟨k0, k1, k2, k3, _⟩ := hF i hi
          rw [e0] at k0 k1 k2 k3
          rw [hget i hi]
          exact ⟨k0, by rw [Nat.add_assoc]; exact k1, by rw [Nat.add_assoc]; exact k2, by rw [Nat.add_assoc]; exact k3⟩)
        (fun i hi => by
          rw [hlen] at hi
          rw [hget i hi]
          exact (hF i hi).2.2.2.2.1)
        (fun i hi => by
          rw [hlen] at hi
          rw [hget i hi]
          exact (hF i hi).2.2.2.2.2)
      rw [hlen] at hR
      exact ⟨_, hR⟩
set_option maxRecDepth 100000 in
theorem open_branch {H : Type} {enc : TypeId × Value → H} {W : World} {base b0 : Nat} {r : Reach} {sp : Nat → Bool} {held : Bool} {v : Value} {d : DataW H} {p : List MemPlace}
    (hv : Value.okWide Tryd.prog W r b0 24 v) (h : DataW.Trod enc Tryd.prog W base sp held 24 v d p) :
    ∃ (k va : ByteArray) (at_ : Int) (u : Value) (l : List Br), v = .agg #[.string k, .string va, .int .i64 at_, u] ∧ Brs (fun _ => True) W u l ∧ k.size ≤ maxLen ∧ va.size ≤ maxLen := by
  obtain ⟨cs, rfl, hsz⟩ := okWide_struct Tryd.underlying24 hv
  have hC : Tryd.prog.cellsOf 24 = 4 := by kernel_rfl
  obtain ⟨c0, c1, c2, c3, rfl⟩ := array4s (hsz.trans hC)
  obtain ⟨fuel, hf⟩ := h
  obtain ⟨xs, n, _, _, _, hlen, hfl⟩ := DataW.trod_struct Tryd.underlying24 hf
  have i3 : Tryd.prog.cellsOf 3 = 1 := by kernel_rfl
  have i9 : Tryd.prog.cellsOf 9 = 1 := by kernel_rfl
  have iS : Tryd.prog.cellsOf 22 = 1 := by kernel_rfl
  obtain ⟨y0, e0⟩ := get_some hlen (show 0 < 4 by omega)
  obtain ⟨y1, e1⟩ := get_some hlen (show 1 < 4 by omega)
  obtain ⟨y2, e2⟩ := get_some hlen (show 2 < 4 by omega)
  obtain ⟨y3, e3⟩ := get_some hlen (show 3 < 4 by omega)
  have g0 : DataW.trod enc Tryd.prog W base sp held n 9 [c0] = some y0 := by simpa [Value.cells, i9] using (hfl 0 _ rfl).trans e0
  have g1 : DataW.trod enc Tryd.prog W base sp held n 9 [c1] = some y1 := by simpa [Value.cells, i9] using (hfl 1 _ rfl).trans e1
  have g2 : DataW.trod enc Tryd.prog W base sp held n 3 [c2] = some y2 := by simpa [Value.cells, i3] using (hfl 2 _ rfl).trans e2
  have g3 : DataW.trod enc Tryd.prog W base sp held n 22 [c3] = some y3 := by simpa [Value.cells, iS] using (hfl 3 _ rfl).trans e3
  obtain ⟨a0, f0, _, q0⟩ := DataW.trod_string Tryd.underlying9 g0
  obtain ⟨a1, f1, _, q1⟩ := DataW.trod_string Tryd.underlying9 g1
  obtain ⟨a2, f2, _, q2⟩ := DataW.trod_int Tryd.underlying3 g2
  obtain ⟨ks, hks⟩ := open_branches n c3 y3 g3
  simp only [List.cons.injEq, and_true] at f0 f1 f2
  subst f0 f1 f2
  exact ⟨a0, a1, a2, c3, ks, rfl, hks, q0, q1⟩
end Go.Proofs.YtgmaappilopgbaaDoor.Sha
