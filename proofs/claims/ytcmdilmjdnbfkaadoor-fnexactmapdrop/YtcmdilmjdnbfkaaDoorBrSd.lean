/- spec.MapDrop. -/
import Derived.Test.YtcmdilmjdnbfkaaDoorBrDp
namespace Go.Proofs.YtcmdilmjdnbfkaaDoor.Sha
open Go.ChangeShapes Go.WideShapes Go.ChangeAt Go.RowKit
set_option linter.unusedVariables false
set_option linter.unusedSimpArgs false

theorem fork_cnt (a : Nat) (hv : ByteArray) (l r : Tr) : (Tr.fork a hv l r).toBr.cnt = 1 + (l.toBr.cnt + r.toBr.cnt) := by
  rw [Br.cnt_eq]
  show 1 + cntL [l.toBr, r.toBr] = _
  rw [cntL_cons, cntL_cons]
  unfold cntL
  omega
theorem drop_cnt (h : ByteArray) : ∀ (t t' : Tr), dropT h t = some t' → t'.toBr.cnt ≤ t.toBr.cnt
  | .leaf k v, t', e => by cases e
  | .fork a hv l r, t', e => by
    have h1 := drop_cnt h l
    have h2 := drop_cnt h r
    rw [fork_cnt]
    rcases bitN_01 h a with hb | hb
    · rw [drop_0 h a hv l r hb] at e
      cases hd : dropT h l with
      | none => rw [hd] at e; cases e; show r.toBr.cnt ≤ _; omega
      | some l' => rw [hd] at e; cases e; have := h1 l' hd; show (Tr.fork a hv l' r).toBr.cnt ≤ _; rw [fork_cnt]; omega
    · rw [drop_1 h a hv l r hb] at e
      cases hd : dropT h r with
      | none => rw [hd] at e; cases e; show l.toBr.cnt ≤ _; omega
      | some r' => rw [hd] at e; cases e; have := h2 r' hd; show (Tr.fork a hv l r').toBr.cnt ≤ _; rw [fork_cnt]; omega
theorem drop_cntL (h : ByteArray) (t : Tr) : cntL (brOf (dropT h t)).kids ≤ cntL t.toBr.kids := by
  cases hd : dropT h t with
  | none => show cntL [] ≤ _; unfold cntL; omega
  | some t' =>
    have q := drop_cnt h t t' hd
    rw [Br.cnt_eq, Br.cnt_eq t.toBr] at q
    show cntL t'.toBr.kids ≤ _
    omega
set_option maxRecDepth 100000 in
set_option maxHeartbeats 2000000 in
theorem specMapDrop_any (k v : ByteArray) (a : Int) (ks : List Br) (key : ByteArray) (S : Nat → Prop) (kv : Value) (w : World) (hB : Brs S w kv ks) (hk : k.size ≤ maxLen) (hv : v.size ≤ maxLen) (hky : key.size ≤ 1048576) (hcn : cntL ks ≤ 1048576) :
    Calls Tryd.prog 19 #[.agg #[.string k, .string v, .int .i64 a, kv], .string key] w fun e w' => ∃ u, e = .returned (.tuple #[u, .int .i64 (mdOut (.mk k v a ks) key).2]) ∧ BrV w.heap.size w' u (mdOut (.mk k v a ks) key).1 ∧ Below w.heap.size w w' := by
  obtain ⟨sa, cap, rfl, hcap, hcm⟩ := hB.shape
  have B0 := hide (((Below.refl w.heap.size w).alloc (Nat.le_refl _) (.cells #[.string k, .string v, .int .i64 a, .slice sa ks.length cap] 37)).alloc (by simp) (.cells #[.string ⟨#[]⟩, .string ⟨#[]⟩, .int .i64 0, .slice none 0 0] 37))
  have X0 := hide ((Blk.new w #[.string k, .string v, .int .i64 a, .slice sa ks.length cap] 37 w.heap.size rfl).alloc (.cells #[.string ⟨#[]⟩, .string ⟨#[]⟩, .int .i64 0, .slice none 0 0] 37))
  have R0 := hide (Blk.new (w.alloc (.cells #[.string k, .string v, .int .i64 a, .slice sa ks.length cap] 37)) #[.string ⟨#[]⟩, .string ⟨#[]⟩, .int .i64 0, .slice none 0 0] 37 (w.heap.size + 1) (by simp))
  have HSZ := hide (show w.heap.size ≤ w.heap.size + 1 by omega)
  have HXR := hide (show w.heap.size < w.heap.size + 1 by omega)
  have HM := hide (fun wx (hx : Below w.heap.size w wx) => specMapOK_any k v a ks S _ wx (hB.blw hx) hk hv)
  have HMB := hide (mapB_V (.mk k v a ks))
  have HKY := hide (fun wx => l02Keyb_any key wx (by unfold maxLen; omega))
  have HOK := hide (okK_iff (k := key))
  have HGT := hide (fun (h24 : key.size ≤ 24) o (h : mapV (.mk k v a ks) = some o) wx (hx : Below w.heap.size w wx) => show Calls Tryd.prog 47 #[.agg #[.string k, .string v, .int .i64 a, .slice sa ks.length cap], .string key] wx fun e w' => GetR o key wx e w' by
    obtain ⟨h1, h2⟩ := mapV_br h
    have h3 := mapV_rise h
    have hx2 := hB.blw hx
    have q := l07Get_any o h2 h3 key h24 S (.slice sa ks.length cap) wx (by rw [← h1]; exact hx2)
    rw [← h1] at q
    exact q)
  have HDP := hide (fun (h24 : key.size ≤ 24) t (h : mapV (.mk k v a ks) = some (some t)) (hl : (leadL (kh key) t).1 = key) wx (hx : Below w.heap.size w wx) => show Calls Tryd.prog 49 #[.agg #[.string k, .string v, .int .i64 a, .slice sa ks.length cap], .string (kh key), .string key] wx fun e w' => DrR w.heap.size (brOf (dropT (kh key) t)) wx e w' by
    obtain ⟨h1, h2⟩ := mapV_br h
    have h3 := mapV_rise h
    have h1' : Br.mk k v a ks = t.toBr := h1
    have hx2 := hB.bound.blw hx
    have q := l07Drop_any (kh key) key (kh_size (by omega)) t h2 0 h3 hl w.heap.size (.slice sa ks.length cap) wx hx.size (by rw [← h1']; exact hx2)
    rw [← h1'] at q
    exact q)
  have HCD := hide (fun t (h : mapV (.mk k v a ks) = some (some t)) => show cntL (brOf (dropT (kh key) t)).kids ≤ 1048576 by
    have h1 : Br.mk k v a ks = t.toBr := (mapV_br h).1
    have h2 := drop_cntL (kh key) t
    rw [← h1] at h2
    exact Nat.le_trans h2 hcn)
  have HHS := hide (fun (h24 : key.size ≤ 24) wx => l07Hash_any key wx (by omega))
  by_cases h1 : 65536 < key.size
  · have HO : Hid (mdOut (.mk k v a ks) key = (brOf none, 2)) := hide (by
      have e : txC key.size 1 24 = 2 := by unfold txC; rw [if_pos h1]
      unfold mdOut; rw [e, if_neg (by omega)])
    clear hB hk hv HGT HM HDP HCD HHS
    go_enter Tryd.func19, Tryd.ntmps19
    have r0 := (unhide R0).cell 0 rfl
    have r1 := (unhide R0).cell 1 rfl
    have r2 := (unhide R0).cell 2 rfl
    have r3 := (unhide R0).cell 3 rfl
    go_wp2_with fail
    refine bodyPost_ret (v := .tuple #[.agg #[.string ⟨#[]⟩, .string ⟨#[]⟩, .int .i64 0, .slice none 0 0], .int .i64 2]) (by simp [results, Tryd.results19, go_sem, r0, r1, r2, r3]) rfl ?_
    exact ⟨_, by rw [unhide HO], by rw [unhide HO]; exact brV_nil _ _, unhide B0⟩
  have HTX : Hid (txC key.size 1 24 = if okK key = true then 0 else 1) := hide (by unfold txC; rw [if_neg h1, okK_in])
  clear hB hk hv
  go_enter Tryd.func19, Tryd.ntmps19
  go_wp2_with fail
  generalize (w.alloc (.cells #[.string k, .string v, .int .i64 a, .slice sa ks.length cap] 37)).alloc (.cells #[.string ⟨#[]⟩, .string ⟨#[]⟩, .int .i64 0, .slice none 0 0] 37) = w1 at *
  generalize w.heap.size + 1 = rb at *
  refine (unhide HM w1 (unhide B0)).mono ?_
  rintro e w2 ⟨rfl, hb2⟩
  have B2 := hide ((unhide B0).trans (hb2.mono (unhide B0).size))
  have X2 := hide ((unhide X0).below hb2)
  have R2 := hide ((unhide R0).below hb2)
  clear hb2 X0 R0 B0
  have x0 := (unhide X2).cell 0 rfl
  have x1 := (unhide X2).cell 1 rfl
  have x2 := (unhide X2).cell 2 rfl
  have x3 := (unhide X2).cell 3 rfl
  rw [unhide HMB]
  cases hmv : mapV (.mk k v a ks) with
  | none =>
    have HO : Hid (mdOut (.mk k v a ks) key = (brOf none, 1)) := hide (by
      unfold mdOut
      rw [hmv, unhide HTX]
      cases okK key <;> rfl)
    clear hmv HGT HTX HM HDP HCD HHS
    rw [show (none : Option (Option Tr)).isSome = false from rfl]
    have r0 := (unhide R2).cell 0 rfl
    have r1 := (unhide R2).cell 1 rfl
    have r2 := (unhide R2).cell 2 rfl
    have r3 := (unhide R2).cell 3 rfl
    have f0 := (unhide R2).fro 0
    have f1 := (unhide R2).fro 1
    have f2 := (unhide R2).fro 2
    have f3 := (unhide R2).fro 3
    have hE := end4b (b := brOf none) (m := rb + 1) (unhide R2) (unhide B2) (BrO.nil (fun x => rb + 1 ≤ x ∧ x < _) none 0 (by unfold maxLen; omega)) (unhide HSZ) (Nat.lt_succ_self _)
    have z0 := hE.1.cell 0 rfl
    have z1 := hE.1.cell 1 rfl
    have z2 := hE.1.cell 2 rfl
    have z3 := hE.1.cell 3 rfl
    have HE := hide hE
    unfold set4 at z0 z1 z2 z3
    dsimp only [brOf, Br.key, Br.val, Br.at_] at z0 z1 z2 z3
    clear hE
    go_wp2_with fail
    refine bodyPost_ret (v := .tuple #[.agg #[.string ⟨#[]⟩, .string ⟨#[]⟩, .int .i64 0, .slice none 0 0], .int .i64 1]) (by simp [results, Tryd.results19, go_sem, z0, z1, z2, z3]) rfl ?_
    exact ⟨_, by rw [unhide HO], by rw [unhide HO]; exact (unhide HE).2.1, (unhide HE).2.2⟩
  | some o =>
    rw [show (some o).isSome = true from rfl]
    have HO : Hid (mdOut (.mk k v a ks) key = if okK key = true then mdO o key else (brOf none, 1)) := hide (by
      unfold mdOut
      rw [hmv, unhide HTX]
      cases okK key <;> rfl)
    have HG2 := hide (fun h24 => unhide HGT h24 o hmv w2 (unhide B2))
    have HMV := hide hmv
    clear hmv HGT HTX HM
    generalize okK key = ok at *
    go_wp2_with fail
    refine (unhide HKY w2).mono ?_
    rintro e w9 ⟨rfl, hw9⟩
    subst w9
    cases ok
    · rw [if_neg (by simp)] at HO
      clear HG2 HDP HCD HHS
      have r0 := (unhide R2).cell 0 rfl
      have r1 := (unhide R2).cell 1 rfl
      have r2 := (unhide R2).cell 2 rfl
      have r3 := (unhide R2).cell 3 rfl
      have f0 := (unhide R2).fro 0
      have f1 := (unhide R2).fro 1
      have f2 := (unhide R2).fro 2
      have f3 := (unhide R2).fro 3
      have hE := end4b (b := brOf none) (m := rb + 1) (unhide R2) (unhide B2) (BrO.nil (fun x => rb + 1 ≤ x ∧ x < _) none 0 (by unfold maxLen; omega)) (unhide HSZ) (Nat.lt_succ_self _)
      have z0 := hE.1.cell 0 rfl
      have z1 := hE.1.cell 1 rfl
      have z2 := hE.1.cell 2 rfl
      have z3 := hE.1.cell 3 rfl
      have HE := hide hE
      unfold set4 at z0 z1 z2 z3
      dsimp only [brOf, Br.key, Br.val, Br.at_] at z0 z1 z2 z3
      clear hE
      go_wp2_with fail
      refine bodyPost_ret (v := .tuple #[.agg #[.string ⟨#[]⟩, .string ⟨#[]⟩, .int .i64 0, .slice none 0 0], .int .i64 1]) (by simp [results, Tryd.results19, go_sem, z0, z1, z2, z3]) rfl ?_
      exact ⟨_, by rw [unhide HO], by rw [unhide HO]; exact (unhide HE).2.1, (unhide HE).2.2⟩
    rw [if_pos rfl] at HO
    have h24 := ((unhide HOK).1 rfl).2
    have HG3 := hide (unhide HG2 h24)
    have HHS2 := hide (unhide HHS h24)
    have HDP2 := hide (unhide HDP h24)
    clear HG2 HHS HDP
    go_wp2_with fail
    refine (unhide HG3).mono ?_
    rintro e w3 ⟨kk, vv, aa, ssa, nn, cc, fb, rfl, hb3, hm⟩
    have BB := (Below.refl w3.heap.size w3).alloc (Nat.le_refl _) (.cells #[.string kk, .string vv, .int .i64 aa, .slice ssa nn cc] 37)
    have hb3b := hb3.trans (BB.mono hb3.size)
    have B3 := hide ((unhide B2).trans (hb3b.mono (unhide B2).size))
    have X3 := hide ((unhide X2).below hb3b)
    have R3 := hide ((unhide R2).below hb3b)
    clear hb3 hb3b BB HG3 B2 X2 R2 x0 x1 x2 x3
    cases fb
    · have HO5 : Hid (mdOut (.mk k v a ks) key = (brOf none, 5)) := hide (by
        rw [unhide HO]
        cases o with
        | none => rfl
        | some t =>
          obtain ⟨_, h2⟩ := hm
          unfold mdO
          dsimp only
          rw [if_neg (of_decide_eq_false h2.symm)])
      clear hm HO HDP2 HCD HHS2
      have r0 := (unhide R3).cell 0 rfl
      have r1 := (unhide R3).cell 1 rfl
      have r2 := (unhide R3).cell 2 rfl
      have r3 := (unhide R3).cell 3 rfl
      have f0 := (unhide R3).fro 0
      have f1 := (unhide R3).fro 1
      have f2 := (unhide R3).fro 2
      have f3 := (unhide R3).fro 3
      have hE := end4b (b := brOf none) (m := rb + 1) (unhide R3) (unhide B3) (BrO.nil (fun x => rb + 1 ≤ x ∧ x < _) none 0 (by unfold maxLen; omega)) (unhide HSZ) (Nat.lt_succ_self _)
      have z0 := hE.1.cell 0 rfl
      have z1 := hE.1.cell 1 rfl
      have z2 := hE.1.cell 2 rfl
      have z3 := hE.1.cell 3 rfl
      have HE := hide hE
      unfold set4 at z0 z1 z2 z3
      dsimp only [brOf, Br.key, Br.val, Br.at_] at z0 z1 z2 z3
      clear hE
      go_wp2_with fail
      refine bodyPost_ret (v := .tuple #[.agg #[.string ⟨#[]⟩, .string ⟨#[]⟩, .int .i64 0, .slice none 0 0], .int .i64 5]) (by simp [results, Tryd.results19, go_sem, z0, z1, z2, z3]) rfl ?_
      exact ⟨_, by rw [unhide HO5], by rw [unhide HO5]; exact (unhide HE).2.1, (unhide HE).2.2⟩
    · cases o with
      | none => cases hm
      | some t =>
        obtain ⟨hvv, h2⟩ := hm
        clear hvv
        have hl := of_decide_eq_true h2.symm
        have HO0 : Hid (mdOut (.mk k v a ks) key = (brOf (dropT (kh key) t), 0)) := hide (by
          rw [unhide HO]
          unfold mdO
          dsimp only
          rw [if_pos hl])
        have HD3 := hide (unhide HDP2 t (unhide HMV) hl)
        have HC3 := hide (unhide HCD t (unhide HMV))
        clear hl h2 HO HDP2 HCD HMV
        generalize brOf (dropT (kh key) t) = D at *
        generalize kh key = h at *
        go_upto_region 8 with fail
        generalize w3.alloc (.cells #[.string kk, .string vv, .int .i64 aa, .slice ssa nn cc] 37) = w3b at *
        have x0 := (unhide X3).cell 0 rfl
        have x1 := (unhide X3).cell 1 rfl
        have x2 := (unhide X3).cell 2 rfl
        have x3 := (unhide X3).cell 3 rfl
        have hX3 := (unhide X3).1
        have hR3 := (unhide R3).1
        have HBX := hide (unhide B3).size
        have HSX := hide (fun wx (hx : Touch (fun q => rb ≤ q) w3b wx) => show ((fun wx => wx.cell? ⟨w.heap.size, 0, none⟩ = some (.string k) ∧ wx.cell? ⟨w.heap.size, 1, none⟩ = some (.string v) ∧ wx.cell? ⟨w.heap.size, 2, none⟩ = some (.int .i64 a) ∧ wx.cell? ⟨w.heap.size, 3, none⟩ = some (.slice sa ks.length cap)) wx) from by
          have X := (unhide X3).kept hx (fun e => by have e' : rb ≤ w.heap.size := e; have := unhide HXR; omega)
          exact ⟨X.cell 0 rfl, X.cell 1 rfl, X.cell 2 rfl, X.cell 3 rfl⟩)
        have HB4 := hide (below_drewN (unhide B3) 1)
        go_wp2_with fail
        go_region_held3 (fun wx => wx.cell? ⟨w.heap.size, 0, none⟩ = some (.string k) ∧ wx.cell? ⟨w.heap.size, 1, none⟩ = some (.string v) ∧ wx.cell? ⟨w.heap.size, 2, none⟩ = some (.int .i64 a) ∧ wx.cell? ⟨w.heap.size, 3, none⟩ = some (.slice sa ks.length cap))
          (first | exact unhide HSX _ T8 | exact unhide HSX _ T7 | exact unhide HSX _ T6 | exact unhide HSX _ T5 | go_keep)
          (first
            | (go_at_call 48; refine (l07Own_any hBr6 D.key D.val D.at_ w6 (unhide HC3) (Below.refl _ _)).mono ?_; rw [br_eta]; rintro e w7 ⟨s7, n7, c7, rfl, hO7, hb7⟩; have T7 : Touch (fun q => rb ≤ q) w3b w7 := T6.trans (T' := fun q => rb ≤ q) (Touch.ofBelow hb7) (fun _ _ h => h); have B7 : Below w.heap.size w w7 := B6.trans (hb7.mono B6.size); have R7 := ((unhide R3).kept (T := fun _ => False) (Touch.ofBelow (((below_drewN (Below.refl _ w3b) 1).trans hb5).trans (hb6.mono hz5))) (fun h => h)).below hb7; have r0 := R7.cell 0 rfl; have r1 := R7.cell 1 rfl; have r2 := R7.cell 2 rfl; have r3 := R7.cell 3 rfl; have f0 := R7.fro 0; have f1 := R7.fro 1; have f2 := R7.fro 2; have f3 := R7.fro 3; have T8 := T7.trans (set4_touch w7 rb (.string D.key) (.string D.val) (.int .i64 D.at_) (.slice s7 n7 c7)) (fun q _ e => by have e' : q = rb := e; omega))
            | (go_at_call 49; refine (unhide HD3 w5 B5).mono ?_; rintro e w6 ⟨s6, n6, c6, rfl, hBr6, hb6⟩; have T6 : Touch (fun q => rb ≤ q) w3b w6 := T5.trans (T' := fun q => rb ≤ q) (Touch.ofBelow hb6) (fun _ _ h => h); have B6 : Below w.heap.size w w6 := B5.trans (hb6.mono B5.size))
            | (go_at_call 50; refine (unhide HHS2 w3b.drew).mono ?_; rintro e w5 ⟨rfl, hb5⟩; have T5 : Touch (fun q => rb ≤ q) w3b w5 := Touch.ofBelow ((below_drewN (Below.refl _ w3b) 1).trans hb5); have B5 : Below w.heap.size w w5 := (unhide HB4).trans (hb5.mono (unhide HB4).size); have hz5 : w3b.heap.size ≤ w5.heap.size := hb5.size))
        all_goals
          have hE := end4b R7 B7 hO7 (unhide HSZ) (by have := hb6.size; omega)
          have z0 := hE.1.cell 0 rfl
          have z1 := hE.1.cell 1 rfl
          have z2 := hE.1.cell 2 rfl
          have z3 := hE.1.cell 3 rfl
          have HE := hide hE
          unfold set4 at z0 z1 z2 z3
          clear hE r0 r1 r2 r3 f0 f1 f2 f3 R7 B7 B6 B5 T5 T6 T7 T8 hO7 hBr6 hb5 hb6 hb7 x0 x1 x2 x3
          go_wp2_with fail
          refine bodyPost_ret (v := .tuple #[.agg #[.string D.key, .string D.val, .int .i64 D.at_, .slice s7 n7 c7], .int .i64 0]) (by simp [results, Tryd.results19, go_sem, z0, z1, z2, z3]) rfl ?_
          exact ⟨_, by rw [unhide HO0], by rw [unhide HO0]; exact (unhide HE).2.1, (unhide HE).2.2⟩
end Go.Proofs.YtcmdilmjdnbfkaaDoor.Sha
