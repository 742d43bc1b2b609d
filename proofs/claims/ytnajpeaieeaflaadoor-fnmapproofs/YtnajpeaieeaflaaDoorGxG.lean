/- impl.checkEmpty, impl.CheckKey. Drawn hashes: spec.digest, spec.HashOf. -/
import Derived.Test.YtnajpeaieeaflaaDoorGxD
import Derived.Test.YtnajpeaieeaflaaDoorGxF
import Derived.Test.YtnajpeaieeaflaaDoorGxC
import Derived.Test.YtnajpeaieeaflaaDoorMkA
namespace Go.Proofs.YtnajpeaieeaflaaDoor.Sha
open Go.ChangeShapes Go.WideShapes Go.ChangeAt Go.RowKit
set_option linter.unusedVariables false
set_option linter.unusedSimpArgs false

set_option maxRecDepth 100000 in
set_option maxHeartbeats 2000000 in
theorem checkEmpty_any (root : ByteArray) (f : Bool) (k v : ByteArray) (a : Option Addr) (cap : Nat) (l : List Pk) (w : World) (hl : l.length ≤ 1000) (ht : Tab w) :
    Calls Tryd.prog 30 #[.string root, .agg #[.bool f, .string k, .string v, .slice a l.length cap]] w fun e w' => e = .returned (.int .i64 (if f = false ∧ v.size = 0 ∧ l.length = 0 ∧ root = hashV [2] then 0 else 10)) ∧ Below w.heap.size w w' := by
  have B0 := hide ((Below.refl w.heap.size w).alloc (Nat.le_refl _) (.cells #[.bool f, .string k, .string v, .slice a l.length cap] 32))
  have HE := hide (fun wx (hx : Below w.heap.size w wx) => emptyRoot_any wx (ht.below hx))
  clear ht
  cases f
  case true =>
    have HO : Hid ((if true = false ∧ v.size = 0 ∧ l.length = 0 ∧ root = hashV [2] then (0 : Int) else 10) = 10) := hide (if_neg (fun h => by cases h.1))
    rw [unhide HO]
    go_enter Tryd.func30, Tryd.ntmps30
    go_wp2_with fail
    go_ret
    exact ⟨rfl, unhide B0⟩
  by_cases hv : v.size = 0
  case neg =>
    have HO : Hid ((if false = false ∧ v.size = 0 ∧ l.length = 0 ∧ root = hashV [2] then (0 : Int) else 10) = 10) := hide (if_neg (fun h => hv h.2.1))
    rw [unhide HO]
    have hvb := isE hv
    have hv2 := lst0 hv
    go_enter Tryd.func30, Tryd.ntmps30
    go_wp2_with fail
    go_ret
    exact ⟨rfl, unhide B0⟩
  obtain rfl := txt0 hv
  by_cases hll : l.length = 0
  case neg =>
    have HO : Hid ((if false = false ∧ (⟨#[]⟩ : ByteArray).size = 0 ∧ l.length = 0 ∧ root = hashV [2] then (0 : Int) else 10) = 10) := hide (if_neg (fun h => hll h.2.2.1))
    rw [unhide HO]
    have h0 : (0 : Int) < (l.length : Int) := by omega
    go_enter Tryd.func30, Tryd.ntmps30
    go_wp2_with fail
    go_ret
    exact ⟨rfl, unhide B0⟩
  have hl0 : ¬ (0 : Int) < (l.length : Int) := by omega
  obtain rfl := List.eq_nil_of_length_eq_zero hll
  by_cases hr : root = hashV [2]
  · have HO : Hid ((if false = false ∧ (⟨#[]⟩ : ByteArray).size = 0 ∧ ([] : List Pk).length = 0 ∧ root = hashV [2] then (0 : Int) else 10) = 0) := hide (if_pos ⟨rfl, rfl, hll, hr⟩)
    rw [unhide HO]
    have hrb := textEq hr
    clear HO hll
    go_enter Tryd.func30, Tryd.ntmps30
    go_wp2_with fail
    refine (unhide HE _ (unhide B0)).mono ?_
    rintro e w2 ⟨rfl, hb2⟩
    have K := hide ((unhide B0).trans (hb2.mono (unhide B0).size))
    clear hb2 HE
    generalize hashV [2] = h2 at *
    subst hr
    go_wp2_with fail
    go_ret
    exact ⟨rfl, unhide K⟩
  · have HO : Hid ((if false = false ∧ (⟨#[]⟩ : ByteArray).size = 0 ∧ ([] : List Pk).length = 0 ∧ root = hashV [2] then (0 : Int) else 10) = 10) := hide (if_neg (fun h => hr h.2.2.2))
    rw [unhide HO]
    have hrb := textNe hr
    clear HO hll
    go_enter Tryd.func30, Tryd.ntmps30
    go_wp2_with fail
    refine (unhide HE _ (unhide B0)).mono ?_
    rintro e w2 ⟨rfl, hb2⟩
    have K := hide ((unhide B0).trans (hb2.mono (unhide B0).size))
    clear hb2 HE
    generalize hashV [2] = h2 at *
    go_wp2_with fail
    go_ret
    exact ⟨rfl, unhide K⟩
theorem tx_keyC {k : ByteArray} (h : okK k = true) : txC k.size 1 24 = 0 := by
  obtain ⟨h1, h2⟩ := okK_iff.1 h
  unfold txC
  rw [if_neg (by omega), if_pos (by rw [inB_iff]; omega)]
theorem worst0_any (b : Nat) (w : World) (k0 : w.cell? ⟨b, 0, none⟩ = some (.int .i64 0)) (k1 : w.cell? ⟨b, 1, none⟩ = some (.int .i64 0)) (k2 : w.cell? ⟨b, 2, none⟩ = some (.int .i64 0)) :
    Calls Tryd.prog 26 #[.slice (some ⟨b, 0, none⟩) 3 3] w fun e w' => e = .returned (.int .i64 0) ∧ w' = w := by
  have h := worstL_any [0, 0, 0] b 3 w (by simp) (fun i hi => by
    match i, hi with
    | 0, _ => exact k0
    | 1, _ => exact k1
    | 2, _ => exact k2)
  exact h
set_option maxRecDepth 100000 in
set_option maxHeartbeats 8000000 in
theorem implCheckKey_any (root key : ByteArray) (f : Bool) (k v : ByteArray) (a : Option Addr) (cap : Nat) (l : List Pk) (w : World) (hp : Pks w (.slice a l.length cap) l) (hs : stepsB 0 l) (hr : root.size = 32) (hk : okK key = true) (hkz : k.size ≤ 24) (hv : v.size ≤ 60) (ht : Tab w) :
    Calls Tryd.prog 11 #[.string root, .string key, .agg #[.bool f, .string k, .string v, .slice a l.length cap]] w fun e w' => e = .returned (.int .i64 (ckOut root key f k v l)) ∧ Below w.heap.size w w' := by
  have hkk := okK_iff.1 hk
  have hle := stepsB_len l 0 hs (by omega)
  have B0 := hide ((Below.refl w.heap.size w).alloc (Nat.le_refl _) (.cells #[.bool f, .string k, .string v, .slice a l.length cap] 32))
  have X0 := hide (Blk.new w #[.bool f, .string k, .string v, .slice a l.length cap] 32 w.heap.size rfl)
  have HO : Hid (ckOut root key f k v l = if k.size = 0 then (if f = false ∧ v.size = 0 ∧ l.length = 0 ∧ root = hashV [2] then 0 else 10)
    else if okK k = true ∧ f = decide (k = key) then (if wayB (kh key) (kh k) l = true then (if rootBy (kh key) (lfR k v) l = root then 0 else 11) else 10) else 10) := rfl
  have P0 := hide (fun wx (hx : Below w.heap.size w wx) => hp.below hx)
  have H1 := hide (fun wx => hashFault_any root wx (by unfold maxLen; omega))
  rw [hf0 hr] at H1
  have H2 := hide (fun wx => keyFault_any key wx (by unfold maxLen; omega))
  rw [tx_keyC hk] at H2
  have H3 := hide (fun wx (hx : Below w.heap.size w wx) => proofFault_any f k v a cap l wx (unhide P0 wx hx) hs hv)
  have H4 := hide (fun wx (hx : Below w.heap.size w wx) => checkEmpty_any root f k v a cap l wx (by omega) (ht.below hx))
  have H5 := hide (fun wx => keyOKb_any k wx (by unfold maxLen; omega))
  have hks : (kh key).size = 32 := kh_size (by omega)
  have hks2 : (kh k).size = 32 := kh_size (by omega)
  have H6 := hide (fun wx (hx : Below w.heap.size w wx) => onWay_any (kh key) (kh k) a cap l wx (unhide P0 wx hx) hs hks hks2)
  have H7 := hide (fun wx (hx : Below w.heap.size w wx) => rootByM_any (kh key) f k v a cap l wx (unhide P0 wx hx) hs hks hkz hv (ht.below hx))
  have HT := hide ht
  have hkm : key.size ≤ 1048576 := by omega
  have hkm2 : k.size ≤ 1048576 := by omega
  clear hp hs ht hk hks hks2
  generalize hO : ckOut root key f k v l = out at *
  clear hO
  go_enter Tryd.func11, Tryd.ntmps11
  go_upto_region 1 with fail
  generalize w.alloc (.cells #[.bool f, .string k, .string v, .slice a l.length cap] 32) = w0 at *
  have hP0 : w.heap.size < w0.heap.size := (unhide X0).1
  have x0 := (unhide X0).cell 0 rfl
  have x1 := (unhide X0).cell 1 rfl
  have x2 := (unhide X0).cell 2 rfl
  have x3 := (unhide X0).cell 3 rfl
  refine wp_region_noPanic ?_
  refine wp_region_held_drew (S := (fun wx => wx.cell? ⟨w.heap.size, 0, none⟩ = some (.bool f) ∧ wx.cell? ⟨w.heap.size, 1, none⟩ = some (.string k) ∧ wx.cell? ⟨w.heap.size, 2, none⟩ = some (.string v) ∧ wx.cell? ⟨w.heap.size, 3, none⟩ = some (.slice a l.length cap))) (by kernel_rfl) ?_ (fun hHeld => ?_)
  · exact ⟨x0, x1, x2, x3⟩
  refine tkH 0 rfl ?_
  refine tkH 2 rfl ?_
  refine tkH 4 rfl ?_
  refine wpAnyH_ready (rs := [1]) (by kernel_rfl) (by simp) ?_
  refine AllReadyH.cons (o := _) rfl (fun K hK => ?_) AllReadyH.nil
  go_simp
  refine (unhide H1 _).mono ?_
  rintro e w9 ⟨rfl, hw9⟩
  subst w9
  go_wp2_with fail
  refine hK.out _ _ ?_ (fun hHeld => ?_)
  · exact ⟨x0, x1, x2, x3⟩
  clear hK K
  (try simp only [Act.put, List.getElem_toArray, List.getElem_cons_succ, List.getElem_cons_zero, List.setIfInBounds_toArray, List.set_cons_zero, List.set_cons_succ])
  refine wpAnyH_ready (rs := [3]) (by kernel_rfl) (by simp) ?_
  refine AllReadyH.cons (o := _) rfl (fun K hK => ?_) AllReadyH.nil
  go_simp
  refine (unhide H2 _).mono ?_
  rintro e w9 ⟨rfl, hw9⟩
  subst w9
  go_wp2_with fail
  refine hK.out _ _ ?_ (fun hHeld => ?_)
  · exact ⟨x0, x1, x2, x3⟩
  clear hK K
  (try simp only [Act.put, List.getElem_toArray, List.getElem_cons_succ, List.getElem_cons_zero, List.setIfInBounds_toArray, List.set_cons_zero, List.set_cons_succ])
  refine wpAnyH_ready (rs := [5]) (by kernel_rfl) (by simp) ?_
  refine AllReadyH.cons (o := _) rfl (fun K hK => ?_) AllReadyH.nil
  go_simp
  refine (unhide H3 _ (below_drewN (unhide B0) 1)).mono ?_
  rintro e w2 ⟨rfl, hb2⟩
  replace hb2 : Below w0.heap.size w0 w2 := (below_drewN (Below.refl _ w0) 1).trans hb2
  have B2 := hide ((unhide B0).trans (hb2.mono (unhide B0).size))
  go_wp2_with fail
  refine hK.out _ _ ?_ (fun hHeld => ?_)
  · exact ⟨(hb2.cell (p := ⟨w.heap.size, 0, none⟩) hP0).trans x0, (hb2.cell (p := ⟨w.heap.size, 1, none⟩) hP0).trans x1, (hb2.cell (p := ⟨w.heap.size, 2, none⟩) hP0).trans x2, (hb2.cell (p := ⟨w.heap.size, 3, none⟩) hP0).trans x3⟩
  clear hK K
  (try simp only [Act.put, List.getElem_toArray, List.getElem_cons_succ, List.getElem_cons_zero, List.setIfInBounds_toArray, List.set_cons_zero, List.set_cons_succ])
  refine wpAnyH_ready (rs := [6]) (by kernel_rfl) (by simp) ?_
  refine AllReadyH.cons (o := _) rfl (fun K hK => ?_) AllReadyH.nil
  go_simp
  have hb3 : Below w0.heap.size w0 (w2.alloc (.cells #[.int .i64 0, .int .i64 0, .int .i64 0] 3)) := hb2.trans (((Below.refl _ w2).alloc (Nat.le_refl _) _).mono hb2.size)
  refine hK.out _ _ ?_ (fun hHeld => ?_)
  · exact ⟨(hb3.cell (p := ⟨w.heap.size, 0, none⟩) hP0).trans x0, (hb3.cell (p := ⟨w.heap.size, 1, none⟩) hP0).trans x1, (hb3.cell (p := ⟨w.heap.size, 2, none⟩) hP0).trans x2, (hb3.cell (p := ⟨w.heap.size, 3, none⟩) hP0).trans x3⟩
  clear hK K
  (try simp only [Act.put, List.getElem_toArray, List.getElem_cons_succ, List.getElem_cons_zero, List.setIfInBounds_toArray, List.set_cons_zero, List.set_cons_succ])
  refine wpAnyH_ready (rs := [7]) (by kernel_rfl) (by simp) ?_
  refine AllReadyH.cons (o := _) rfl (fun K hK => ?_) AllReadyH.nil
  go_simp
  refine (worst0_any _ _ (by rw [World.cell?_alloc_at _ _ _ _ rfl]; rfl) (by rw [World.cell?_alloc_at _ _ _ _ rfl]; rfl) (by rw [World.cell?_alloc_at _ _ _ _ rfl]; rfl)).mono ?_
  rintro e w9 ⟨rfl, hw9⟩
  subst w9
  go_wp2_with fail
  refine hK.out _ _ ?_ (fun hHeld => ?_)
  · exact ⟨(hb3.cell (p := ⟨w.heap.size, 0, none⟩) hP0).trans x0, (hb3.cell (p := ⟨w.heap.size, 1, none⟩) hP0).trans x1, (hb3.cell (p := ⟨w.heap.size, 2, none⟩) hP0).trans x2, (hb3.cell (p := ⟨w.heap.size, 3, none⟩) hP0).trans x3⟩
  clear hK K
  (try simp only [Act.put, List.getElem_toArray, List.getElem_cons_succ, List.getElem_cons_zero, List.setIfInBounds_toArray, List.set_cons_zero, List.set_cons_succ])
  refine tkH 8 rfl ?_
  refine wpAnyH_done (by kernel_rfl) (NoPanic.normal ?_) _
  have X3 := hide ((unhide X0).below hb3)
  have B3 := hide ((unhide B0).trans (hb3.mono (unhide B0).size))
  clear x0 x1 x2 x3 hHeld hb2 hb3 B0 X0 B2 H1 H2 H3
  generalize w2.alloc (.cells #[.int .i64 0, .int .i64 0, .int .i64 0] 3) = w3 at *
  have hP3 : w.heap.size < w3.heap.size := (unhide X3).1
  have x0 := (unhide X3).cell 0 rfl
  have x1 := (unhide X3).cell 1 rfl
  have x2 := (unhide X3).cell 2 rfl
  have x3 := (unhide X3).cell 3 rfl
  by_cases hk0 : k.size = 0
  · obtain rfl := txt0 hk0
    rw [if_pos (show (⟨#[]⟩ : ByteArray).size = 0 from rfl)] at HO
    go_wp2_with fail
    refine (unhide H4 w3 (unhide B3)).mono ?_
    rintro e w4 ⟨rfl, hb4⟩
    rw [← unhide HO]
    have B4 := hide ((unhide B3).trans (hb4.mono (unhide B3).size))
    clear hb4
    go_wp2_with fail
    go_ret
    exact ⟨rfl, unhide B4⟩
  rw [if_neg hk0] at HO
  have hkb := isE hk0
  have hkn := lst0 hk0
  go_wp2_with fail
  refine (unhide H5 w3).mono ?_
  rintro e w9 ⟨rfl, hw9⟩
  subst w9
  clear H5 H4
  cases hok : okK k
  case false =>
    rw [if_neg (fun h => by rw [hok] at h; cases h.1)] at HO
    clear hok hkb hkn
    go_wp2_with fail
    go_ret
    exact ⟨ret_int (unhide HO).symm, unhide B3⟩
  by_cases hff : f = decide (k = key)
  case neg =>
    rw [if_neg (fun h => hff h.2)] at HO
    clear hok
    by_cases hkk2 : k = key
    · have he := textEq hkk2
      have hf0 : f = false := by rw [decide_eq_true hkk2] at hff; cases f; rfl; exact absurd rfl hff
      subst hf0
      go_wp2_with fail
      go_ret
      exact ⟨ret_int (unhide HO).symm, unhide B3⟩
    · have he := textNe hkk2
      have hf0 : f = true := by rw [decide_eq_false hkk2] at hff; cases f; exact absurd rfl hff; rfl
      subst hf0
      go_wp2_with fail
      go_ret
      exact ⟨ret_int (unhide HO).symm, unhide B3⟩
  rw [if_pos ⟨hok, hff⟩] at HO
  clear hok hk0
  have hcs : (f = true ∧ (k.toList == key.toList) = true) ∨ (f = false ∧ (k.toList == key.toList) = false) := by
    by_cases hkk2 : k = key
    · exact .inl ⟨by rw [hff, decide_eq_true hkk2], textEq hkk2⟩
    · exact .inr ⟨by rw [hff, decide_eq_false hkk2], textNe hkk2⟩
  clear hff
  have HV1 : Hid (kh key = hashV (bytesI key)) := rfl
  have HV2 : Hid (kh k = hashV (bytesI k)) := rfl
  obtain ⟨cap1, w4, hcv, hB, hb4⟩ := str_bytesB key w3 (by unfold maxLen; omega)
  have HH := hide (implHash_any _ _ w4 hB ((unhide HT).below ((unhide B3).trans (hb4.mono (unhide B3).size))).2 ((unhide HT).below ((unhide B3).trans (hb4.mono (unhide B3).size))).1)
  have HB4 := hide hb4
  clear hB hb4
  rw [← unhide HV1] at HH
  rcases hcs with ⟨rfl, he⟩ | ⟨rfl, he⟩
  all_goals
    go_wp2_with fail
    refine (unhide HH).mono ?_
    rintro e w5 ⟨rfl, hb5⟩
    have hb5' := (unhide HB4).trans (hb5.mono (unhide HB4).size)
    have B5 := hide ((unhide B3).trans (hb5'.mono (unhide B3).size))
    have X5 := hide ((unhide X3).below hb5')
    clear hb5 hb5' hcv HH HB4 x0 x1 x2 x3 he
    generalize kh key = hx at *
    have hP5 : w.heap.size < w5.heap.size := (unhide X5).1
    have x0 := (unhide X5).cell 0 rfl
    have x1 := (unhide X5).cell 1 rfl
    have x2 := (unhide X5).cell 2 rfl
    have x3 := (unhide X5).cell 3 rfl
    go_upto_region 9 with fail
    refine wp_region_noPanic ?_
    refine wp_region_held_drew (S := (fun wx => wx.cell? ⟨w.heap.size, 1, none⟩ = some (.string k) ∧ wx.cell? ⟨w.heap.size, 2, none⟩ = some (.string v) ∧ wx.cell? ⟨w.heap.size, 3, none⟩ = some (.slice a l.length cap))) (by kernel_rfl) ?_ (fun hHeld => ?_)
    · exact ⟨x1, x2, x3⟩
    refine tkH 0 rfl ?_
    refine tkH 1 rfl ?_
    refine tkH 2 rfl ?_
    refine tkH 3 rfl ?_
    refine tkH 4 rfl ?_
    obtain ⟨cap2, w6, hcv, hB, hb6⟩ := str_bytesB k w5.drew (by unfold maxLen; omega)
    replace hb6 : Below w5.heap.size w5 w6 := (below_drewN (Below.refl _ w5) 1).trans hb6
    have hT6 := (unhide HT).below ((unhide B5).trans (hb6.mono (unhide B5).size))
    have HH := hide (implHash_any _ _ w6 hB hT6.2 hT6.1)
    rw [← unhide HV2] at HH
    clear hB hT6
    refine wpAnyH_ready (rs := [5]) (by kernel_rfl) (by simp) ?_
    refine AllReadyH.cons (o := _) rfl (fun K hK => ?_) AllReadyH.nil
    go_simp
    refine hK.out _ _ ?_ (fun hHeld => ?_)
    · exact ⟨(hb6.cell (p := ⟨w.heap.size, 1, none⟩) hP5).trans x1, (hb6.cell (p := ⟨w.heap.size, 2, none⟩) hP5).trans x2, (hb6.cell (p := ⟨w.heap.size, 3, none⟩) hP5).trans x3⟩
    clear hK K
    (try simp only [Act.put, List.getElem_toArray, List.getElem_cons_succ, List.getElem_cons_zero, List.setIfInBounds_toArray, List.set_cons_zero, List.set_cons_succ])
    refine wpAnyH_ready (rs := [6]) (by kernel_rfl) (by simp) ?_
    refine AllReadyH.cons (o := _) rfl (fun K hK => ?_) AllReadyH.nil
    go_simp
    refine (unhide HH).mono ?_
    rintro e w7 ⟨rfl, hb7⟩
    replace hb7 := hb6.trans (hb7.mono hb6.size)
    go_wp2_with fail
    refine hK.out _ _ ?_ (fun hHeld => ?_)
    · exact ⟨(hb7.cell (p := ⟨w.heap.size, 1, none⟩) hP5).trans x1, (hb7.cell (p := ⟨w.heap.size, 2, none⟩) hP5).trans x2, (hb7.cell (p := ⟨w.heap.size, 3, none⟩) hP5).trans x3⟩
    clear hK K
    (try simp only [Act.put, List.getElem_toArray, List.getElem_cons_succ, List.getElem_cons_zero, List.setIfInBounds_toArray, List.set_cons_zero, List.set_cons_succ])
    refine wpAnyH_ready (rs := [7]) (by kernel_rfl) (by simp) ?_
    refine AllReadyH.cons (o := _) rfl (fun K hK => ?_) AllReadyH.nil
    go_simp
    refine (unhide H6 w7 ((unhide B5).trans (hb7.mono (unhide B5).size))).mono ?_
    rintro e w8 ⟨rfl, hb8⟩
    replace hb8 := hb7.trans (hb8.mono hb7.size)
    go_wp2_with fail
    refine hK.out _ _ ?_ (fun hHeld => ?_)
    · exact ⟨(hb8.cell (p := ⟨w.heap.size, 1, none⟩) hP5).trans x1, (hb8.cell (p := ⟨w.heap.size, 2, none⟩) hP5).trans x2, (hb8.cell (p := ⟨w.heap.size, 3, none⟩) hP5).trans x3⟩
    clear hK K
    (try simp only [Act.put, List.getElem_toArray, List.getElem_cons_succ, List.getElem_cons_zero, List.setIfInBounds_toArray, List.set_cons_zero, List.set_cons_succ])
    refine tkH 8 rfl ?_
    refine wpAnyH_done (by kernel_rfl) (NoPanic.normal ?_) _
    have B8 := hide ((unhide B5).trans (hb8.mono (unhide B5).size))
    have X8 := hide ((unhide X5).below hb8)
    clear hb6 hb7 hb8 hHeld hcv HH H6 B5 X5 x0 x1 x2 x3
    have x0 := (unhide X8).cell 0 rfl
    have x1 := (unhide X8).cell 1 rfl
    have x2 := (unhide X8).cell 2 rfl
    have x3 := (unhide X8).cell 3 rfl
    rcases hw : wayB hx (kh k) l with _ | _
    · rw [hw, if_neg (by decide)] at HO
      go_wp2_with fail
      go_ret
      exact ⟨ret_int (unhide HO).symm, unhide B8⟩
    · rw [hw, if_pos rfl] at HO
      clear hw
      go_wp2_with fail
      refine (unhide H7 w8 (unhide B8)).mono ?_
      rintro e w10 ⟨rfl, hb10⟩
      have B10 := hide ((unhide B8).trans (hb10.mono (unhide B8).size))
      clear hb10 H7
      by_cases hro : rootBy hx (lfR k v) l = root
      · have hrb := textEq hro
        rw [if_pos hro] at HO
        clear hrb
        generalize rootBy hx (lfR k v) l = rr at *
        subst hro
        go_wp2_with fail
        go_ret
        exact ⟨ret_int (unhide HO).symm, unhide B10⟩
      · have hrb := textNe hro
        rw [if_neg hro] at HO
        clear hro
        generalize rootBy hx (lfR k v) l = rr at *
        go_wp2_with fail
        go_ret
        exact ⟨ret_int (unhide HO).symm, unhide B10⟩
end Go.Proofs.YtnajpeaieeaflaaDoor.Sha
namespace Go.Proofs.YtnajpeaieeaflaaDoor
open Go.ChangeShapes Go.WideShapes Go.ChangeAt Go.RowKit Sha
set_option linter.unusedVariables false
set_option linter.unusedSimpArgs false

theorem two_bytes (w : World) (x y : Int) (h0 : 0 ≤ x) (h1 : x ≤ 255) (h2 : 0 ≤ y) (h3 : y ≤ 255) : Bytes (w.alloc (.cells #[.int .u8 x, .int .u8 y] 5)) (.slice (some ⟨w.heap.size, 0, none⟩) ([x, y] : List Int).length 2) [x, y] := by
  refine ⟨_, _, rfl, by unfold maxLen; simp, .inr ⟨w.heap.size, 0, rfl, by simp, fun i hi => ?_⟩, fun i => ?_⟩
  · rw [World.cell?_alloc_at _ _ _ _ rfl]
    match i, hi with
    | 0, _ => rfl
    | 1, _ => rfl
  · match i with
    | 0 => exact ⟨h0, h1⟩
    | 1 => exact ⟨h2, h3⟩
    | i + 2 => simp
set_option maxRecDepth 100000 in
set_option maxHeartbeats 1000000 in
theorem digest_any (w : World) (b : Nat) (a : Option Addr) (cap : Nat) (l : List Int) (M : Int) (h : Src w b a cap l M) (hM : M ≤ 100000000) :
    Calls Tryd.prog 34 #[.pointer (some ⟨b, 0, none⟩)] w fun e w' => ∃ s : ByteArray, e = .returned (.string s) ∧ s.size = 32 ∧ Below b w w' := by
  have hbl : b < w.heap.size := h.lt
  have H := hide h
  clear h
  go_enter Tryd.func34, Tryd.ntmps34
  go_wp2_with fail
  refine (srcNext_any 256 w b a cap l M (unhide H) (by omega) (by omega) (by omega)).mono ?_
  rintro e w1 ⟨x, rfl, hx0, hx1, hS1, hO1⟩
  have R1 := hide (And.intro hS1 (And.intro (hO1.below (Below.refl b w) (Nat.le_refl _) (Nat.le_of_lt hbl)) hO1.1))
  clear hS1 hO1 H
  go_wp2_with fail
  refine (srcNext_any 4 w1 b a cap l _ (unhide R1).1 (by omega) (by omega) (by omega)).mono ?_
  rintro e w2 ⟨y, rfl, hy0, hy1, hS2, hO2⟩
  have hb1 : b ≤ w1.heap.size := Nat.le_of_lt (unhide R1).1.lt
  have B2 := hide (hO2.below (unhide R1).2.1 (Nat.le_refl _) hb1)
  have hb2 : b ≤ w2.heap.size := Nat.le_of_lt hS2.lt
  have B3 := hide ((unhide B2).alloc hb2 (.cells #[.int .u8 x, .int .u8 y] 5))
  have HH := hide (l01Hash_any _ _ _ _ (two_bytes w2 x y hx0 (by omega) hy0 (by omega)) (by simp))
  have HV := hide (hash_size (l := [x, y]) (by simp))
  have hV := hide (hashV_yes (l := [x, y]) (by simp))
  have hbs : b ≤ (w2.alloc (.cells #[.int .u8 x, .int .u8 y] 5)).heap.size := by simp; omega
  clear hS2 hO2 R1 B2
  go_wp2_with fail
  refine (unhide HH).mono ?_
  rintro e w4 ⟨rfl, hb4⟩
  have B4 := hide ((unhide B3).trans (hb4.mono hbs))
  clear hb4
  rw [← unhide hV]
  go_wp2_with fail
  go_ret
  exact ⟨_, rfl, unhide HV, unhide B4⟩
set_option maxRecDepth 100000 in
theorem hashOf_any (a : Option Addr) (cap : Nat) (l : List Int) (w : World) (h : Bytes w (.slice a l.length cap) l) (hl : l.length ≤ 2097152) :
    Calls Tryd.prog 12 #[.slice a l.length cap] w fun e w' => ∃ s : ByteArray, e = .returned (.string s) ∧ s.size = 32 ∧ Below w.heap.size w w' := by
  have HS := hide (l00Source_any a cap l w h hl)
  clear h
  go_enter Tryd.func12, Tryd.ntmps12
  go_wp2_with fail
  refine (unhide HS).mono ?_
  rintro e w1 ⟨rfl, hS1, hb1⟩
  have HD := hide (digest_any w1 w.heap.size a cap l 0 hS1 (by omega))
  have B1 := hide hb1
  clear hS1 hb1 HS
  go_wp2_with fail
  refine (unhide HD).mono ?_
  rintro e w2 ⟨s, rfl, hs, hb2⟩
  have R := hide (And.intro hs ((unhide B1).trans hb2))
  clear hs hb2
  go_wp2_with fail
  go_ret
  exact ⟨s, rfl, (unhide R).1, (unhide R).2⟩
end Go.Proofs.YtnajpeaieeaflaaDoor
