/- spec.l05Records, spec.StateRecords, walked. -/
import Derived.Test.YtafbdjcoimopfaaRecS
import Derived.Test.YtafbdjcoimopfaaSpT
import Derived.Test.YtafbdjcoimopfaaStP
import Derived.Deep.DeepCutAuto
import Derived.Deep.RegionHeld3
namespace Go.Proofs.Ytafbdjcoimopfaa
open Go.ChangeShapes Go.WideShapes Go.ChangeAt Go.RowKit
set_option linter.unusedVariables false
set_option linter.unusedSimpArgs false

def eqK (x y : List En) (k : Nat) : Bool := decide (k < x.length) && (decide (k < y.length) && enEq (x.getD k default) (y.getD k default))
theorem eqK_true {x y : List En} {k : Nat} (h : eqK x y k = true) : k < x.length ∧ k < y.length ∧ enEq (x.getD k default) (y.getD k default) = true := by
  unfold eqK at h
  simp only [Bool.and_eq_true, decide_eq_true_eq] at h
  exact h
theorem eqK_false {x y : List En} {k : Nat} (hx : k ≤ x.length) (hy : k ≤ y.length) (h : eqK x y k = false) : k = x.length ∨ k = y.length ∨ enEq (x.getD k default) (y.getD k default) = false := by
  by_cases h1 : k < x.length
  · by_cases h2 : k < y.length
    · right; right
      unfold eqK at h
      simpa [h1, h2] using h
    · right; left; omega
  · left; omega
theorem drewN_twoQ (w : World) (n m : Nat) : (w.drewN n).drewN m = w.drewN (n + m) := by simp [World.drewN, Nat.add_assoc]
theorem four_own (n : Int) (w : World) (h0 : 0 ≤ n) (h1 : n < 4294967296) :
    Calls Try.prog 107 #[.int .i64 n] w fun e w' => ∃ g, e = .returned (.slice (some ⟨g, 0, none⟩) 4 4) ∧ OwnB w.heap.size w' (.slice (some ⟨g, 0, none⟩) 4 4) (encN n 4) ∧ Below w.heap.size w w' :=
  (l02Four_any n w h0 h1).mono fun e w' ⟨h1, h2⟩ => by
    subst h2
    refine ⟨_, h1, ⟨?_, encN_range n 4⟩, (Below.refl _ w).alloc (Nat.le_refl _) _⟩
    have e : (encN n 4).map (Value.int .u8) = [.int .u8 (n / 16777216 % 256), .int .u8 (n / 65536 % 256), .int .u8 (n / 256 % 256), .int .u8 (n % 256)] := by simp [encN]
    rw [e, encN_len]
    exact own_lit (heap_alloc_new w _) (Nat.le_refl _) rfl (by unfold maxLen; omega)
theorem one_own (w : World) (n : Int) (h0 : 0 ≤ n) (h1 : n ≤ 255) : OwnB w.heap.size (w.alloc (.cells #[.int .u8 n] 5)) (.slice (some ⟨w.heap.size, 0, none⟩) 1 1) [n] :=
  ⟨own_lit (heap_alloc_new w _) (Nat.le_refl _) rfl (by unfold maxLen; omega), fun i => by
    cases i with
    | zero => simpa using And.intro h0 h1
    | succ i => simp⟩
theorem OwnB.bel {B : Nat} {w w' : World} {v : Value} {l : List Int} (h : OwnB B w v l) (hb : Below w.heap.size w w') : OwnB B w' v l := h.kept (T := fun _ => False) (Touch.ofBelow hb) (fun _ _ h => h)
theorem strs_app (l l2 : List Int) : strOfNums l ++ strOfNums l2 = strOfNums (l ++ l2) := by
  apply ByteArray.ext
  simp [strOfNums]
theorem entS_len (t k : Int) (d : ByteArray) (h : d.size ≤ 100) : (strOfNums (entBytes t k d)).size ≤ 300 := by
  have e : (strOfNums (entBytes t k d)).size = (entBytes t k d).length := by simp [strOfNums, ByteArray.size]
  rw [e]
  simp [entBytes, encN, textsL, bytesI_len]; omega
theorem textC (a : Int) : ByteArray.mk #[67] ++ strOfNums (encN a 4) = strOfNums (recT (.C a)) := by
  rw [show ByteArray.mk #[67] = strOfNums [67] from rfl, strs_app]
  rfl
theorem textE (t k : Int) (d : ByteArray) : ByteArray.mk #[69] ++ strOfNums (entBytes t k d) = strOfNums (recT (.E ⟨t, k, d⟩)) := by
  rw [show ByteArray.mk #[69] = strOfNums [69] from rfl, strs_app]
  rfl
theorem textT (a b : Int) (h0 : 0 ≤ b + 1) (h1 : b + 1 ≤ 255) : ByteArray.mk #[84] ++ strOfNums (encN a 4) ++ strOfNums [b + 1] = strOfNums (recT (.T a b)) := by
  rw [show ByteArray.mk #[84] = strOfNums [84] from rfl, strs_app, strs_app]
  congr 1
  simp [recT, encN]
  omega
set_option maxRecDepth 100000 in
set_option maxHeartbeats 1000000 in
theorem l05Records_any (tm vo tm2 vo2 : Int) (a a2 : Option Addr) (c c2 : Nat) (x y : List En) (w : World) (hx : Ens w (.slice a x.length c) x) (hy : Ens w (.slice a2 y.length c2) y) (g1 : stateB tm vo x = true) (g2 : stateB tm2 vo2 y = true) (hdy : ∀ i, (y.getD i default).d.size ≤ 1048576) :
    Calls Try.prog 74 #[.agg #[.int .i64 tm, .int .i64 vo, .slice a x.length c], .agg #[.int .i64 tm2, .int .i64 vo2, .slice a2 y.length c2]] w fun e w' => ∃ v, e = .returned v ∧ OwnS w.heap.size w' v ((recsP tm vo x tm2 vo2 y).map (fun r => strOfNums (recT r))) ∧ Below w.heap.size w w' := by
  obtain ⟨i0, hi, hz0, hz1, hz2⟩ := info_parts infoTx
  have BB := ((Below.refl w.heap.size w).alloc (Nat.le_refl _) (.cells #[.int .i64 tm, .int .i64 vo, .slice a x.length c] 63)).alloc (by simp) (.cells #[.int .i64 tm2, .int .i64 vo2, .slice a2 y.length c2] 63)
  have B0 := hide BB
  have X1 := hide ((Blk.new w #[.int .i64 tm, .int .i64 vo, .slice a x.length c] 63 w.heap.size rfl).alloc (.cells #[.int .i64 tm2, .int .i64 vo2, .slice a2 y.length c2] 63))
  have X2 := hide (Blk.new (w.alloc (.cells #[.int .i64 tm, .int .i64 vo, .slice a x.length c] 63)) #[.int .i64 tm2, .int .i64 vo2, .slice a2 y.length c2] 63 (w.heap.size + 1) (by simp))
  have HX := hide (fun wx (h : Below w.heap.size w wx) => hx.below h)
  have HY := hide (fun wx (h : Below w.heap.size w wx) => hy.below h)
  obtain ⟨n1, n2, n3, n4, n5⟩ := state_nums g1
  obtain ⟨m1, m2, m3, m4, m5⟩ := state_nums g2
  have HT1 := hide (fun h : bb0 tm vo tm2 vo2 = true => recsT_yes h)
  have HT0 := hide (fun h : bb0 tm vo tm2 vo2 = false => recsT_no h)
  have HlT := hide (show (recsT tm vo tm2 vo2).length ≤ 1 by unfold recsT; split <;> simp)
  have HLe := hide (And.intro (sameN_le1 x y) (sameN_le2 x y))
  have HSA := hide (sameN_at x y)
  have HEG := hide (fun i (hi : i < y.length) => state_ent g2 i hi)
  have HCd : Hid (recsC x y = if sameN x y < x.length then [.C (sameN x y)] else []) := hide rfl
  have HPd : Hid (recsP tm vo x tm2 vo2 y = recsT tm vo tm2 vo2 ++ (recsC x y ++ (y.drop (sameN x y)).map .E)) := hide rfl
  clear hx hy BB g1 g2 hdy
  generalize recsP tm vo x tm2 vo2 y = RP at *
  generalize recsT tm vo tm2 vo2 = RT at *
  generalize recsC x y = RC at *
  go_enter Try.func74, Try.ntmps74
  go_upto_region 2 with fail
  have HSZ := hide (show ((w.alloc (.cells #[.int .i64 tm, .int .i64 vo, .slice a x.length c] 63)).alloc (.cells #[.int .i64 tm2, .int .i64 vo2, .slice a2 y.length c2] 63)).heap.size = w.heap.size + 1 + 1 by simp)
  generalize (w.alloc (.cells #[.int .i64 tm, .int .i64 vo, .slice a x.length c] 63)).alloc (.cells #[.int .i64 tm2, .int .i64 vo2, .slice a2 y.length c2] 63) = w0 at *
  obtain ⟨D, hD⟩ : ∃ D, D = w0.heap.size := ⟨_, rfl⟩
  have hx2 : w.heap.size + 1 < D := by have := (unhide X2).1; omega
  have X1' := (unhide X1).alloc (.cells #[] 9)
  have X2' := (unhide X2).alloc (.cells #[] 9)
  have e0 := X1'.cell 0 rfl
  have e1 := X1'.cell 1 rfl
  have F0 := hide (X2'.cell 0 rfl)
  have F1 := hide (X2'.cell 1 rfl)
  have F2 := hide (X2'.cell 2 rfl)
  have E2 := hide (X1'.cell 2 rfl)
  have f0 := unhide F0
  have f1 := unhide F1
  have HO0 := hide (show OwnS D (w0.alloc (.cells #[] 9)) (.slice (some ⟨w.heap.size + 1 + 1, 0, none⟩) 0 0) [] by rw [← unhide HSZ]; exact World.ownsRow_made w0 #[] 0 (by omega) (by unfold maxLen; omega) rfl)
  have HBd := hide (show Below D w0 (w0.alloc (.cells #[] 9)) from (Below.refl D w0).alloc (by omega) _)
  have HBW0 := hide (unhide B0)
  have hww : w.heap.size ≤ D := by omega
  clear X1' X2' X1 X2 B0
  generalize hgw : w0.alloc (.cells #[] 9) = wa at *
  have hws : D ≤ wa.heap.size := (unhide HBd).size |> fun h => by omega
  go_cut [20] (fun s wx => s = .bool (bb0 tm vo tm2 vo2) ∧ wx = wa)
  case first =>
    by_cases h1 : tm = tm2
    · have h1n : (tm != tm2) = false := by simp [h1]
      by_cases h2 : vo = vo2
      · have h2n : (vo != vo2) = false := by simp [h2]
        have HB : Hid (bb0 tm vo tm2 vo2 = false) := hide (by simp [bb0, h1, h2])
        clear h1 h2
        go_wp2_with fail
        go_meet
        exact ⟨by rw [unhide HB], rfl⟩
      · have h2n : (vo != vo2) = true := by simp [h2]
        have HB : Hid (bb0 tm vo tm2 vo2 = true) := hide (by simp [bb0, h2])
        clear h1 h2
        go_wp2_with fail
        go_meet
        exact ⟨by rw [unhide HB], rfl⟩
    · have h1n : (tm != tm2) = true := by simp [h1]
      have HB : Hid (bb0 tm vo tm2 vo2 = true) := hide (by simp [bb0, h1])
      clear h1
      go_wp2_with fail
      go_meet
      exact ⟨by rw [unhide HB], rfl⟩
  case rest =>
    obtain ⟨rfl, hw⟩ := hcut
    have hw' := hw.symm
    clear hw
    subst hw'
    generalize bb0 tm vo tm2 vo2 = bb at *
    go_upto_if 20 with fail
    go_cut [5] (fun s wx => ∃ a5 c5, s = .slice a5 (RT.map (fun r => strOfNums (recT r))).length c5 ∧ OwnS D wx (.slice a5 (RT.map (fun r => strOfNums (recT r))).length c5) (RT.map (fun r => strOfNums (recT r))) ∧ Below D w0 wx)
    case first =>
      cases bb
      · have HT := hide (unhide HT0 rfl)
        go_wp2_with fail
        go_meet
        rw [unhide HT]
        exact ⟨_, _, rfl, unhide HO0, unhide HBd⟩
      · have HT := hide (unhide HT1 rfl)
        have HTX := hide (textT tm2 vo2 (by omega) (by omega))
        have q1 : IntKind.i64.wrap (vo2 + 1) = vo2 + 1 := wrapSg2 _ (by omega) (by omega)
        have q2 : IntKind.u8.wrap (vo2 + 1) = vo2 + 1 := by rw [wrapU]; omega
        go_upto_region 3 with fail
--REGION3
        refine wp_region_noPanic ?_
        refine wp_region_held_drew (S := (fun wx => wx.cell? ⟨w.heap.size + 1, 0, none⟩ = some (.int .i64 tm2) ∧ wx.cell? ⟨w.heap.size + 1, 1, none⟩ = some (.int .i64 vo2))) (by kernel_rfl) ?_ (fun hHeld => ?_)
        · exact ⟨f0, f1⟩
        refine wpAnyH_take (i := 0) (oi := _) (v := ?_) rfl (by kernel_rfl) (by kernel_rfl) (by kernel_rfl) (fun _ _ _ h => h) (Or.inl ⟨by rfl, ?_⟩) (by assumption) ?_
        rotate_left 1
        · (intro wq hSw; (try dsimp only at hSw); (try simp only [List.getElem_toArray, List.getElem_cons_succ, List.getElem_cons_zero]); go_simp; try with_reducible rfl)
        (try simp only [Act.put, List.getElem_toArray, List.getElem_cons_succ, List.getElem_cons_zero, List.setIfInBounds_toArray, List.set_cons_zero, List.set_cons_succ])
        refine wpAnyH_take (i := 1) (oi := _) (v := ?_) rfl (by kernel_rfl) (by kernel_rfl) (by kernel_rfl) (fun _ _ _ h => h) (Or.inl ⟨by rfl, ?_⟩) (by assumption) ?_
        rotate_left 1
        · (intro wq hSw; (try dsimp only at hSw); (try simp only [List.getElem_toArray, List.getElem_cons_succ, List.getElem_cons_zero]); go_simp; try with_reducible rfl)
        (try simp only [Act.put, List.getElem_toArray, List.getElem_cons_succ, List.getElem_cons_zero, List.setIfInBounds_toArray, List.set_cons_zero, List.set_cons_succ])
        refine wpAnyH_take (i := 2) (oi := _) (v := ?_) rfl (by kernel_rfl) (by kernel_rfl) (by kernel_rfl) (fun _ _ _ h => h) (Or.inl ⟨by rfl, ?_⟩) (by assumption) ?_
        rotate_left 1
        · (intro wq hSw; (try dsimp only at hSw); (try simp only [List.getElem_toArray, List.getElem_cons_succ, List.getElem_cons_zero]); go_simp; try with_reducible rfl)
        (try simp only [Act.put, List.getElem_toArray, List.getElem_cons_succ, List.getElem_cons_zero, List.setIfInBounds_toArray, List.set_cons_zero, List.set_cons_succ])
        refine wpAnyH_take (i := 6) (oi := _) (v := ?_) rfl (by kernel_rfl) (by kernel_rfl) (by kernel_rfl) (fun _ _ _ h => h) (Or.inl ⟨by rfl, ?_⟩) (by assumption) ?_
        rotate_left 1
        · (intro wq hSw; (try dsimp only at hSw); (try simp only [List.getElem_toArray, List.getElem_cons_succ, List.getElem_cons_zero]); go_simp; try with_reducible rfl)
        (try simp only [Act.put, List.getElem_toArray, List.getElem_cons_succ, List.getElem_cons_zero, List.setIfInBounds_toArray, List.set_cons_zero, List.set_cons_succ])
        refine wpAnyH_take (i := 7) (oi := _) (v := ?_) rfl (by kernel_rfl) (by kernel_rfl) (by kernel_rfl) (fun _ _ _ h => h) (Or.inl ⟨by rfl, ?_⟩) (by assumption) ?_
        rotate_left 1
        · (intro wq hSw; (try dsimp only at hSw); (try simp only [List.getElem_toArray, List.getElem_cons_succ, List.getElem_cons_zero]); go_simp; try with_reducible rfl)
        (try simp only [Act.put, List.getElem_toArray, List.getElem_cons_succ, List.getElem_cons_zero, List.setIfInBounds_toArray, List.set_cons_zero, List.set_cons_succ])
        refine wpAnyH_take (i := 8) (oi := _) (v := ?_) rfl (by kernel_rfl) (by kernel_rfl) (by kernel_rfl) (fun _ _ _ h => h) (Or.inl ⟨by rfl, ?_⟩) (by assumption) ?_
        rotate_left 1
        · (intro wq hSw; (try dsimp only at hSw); (try simp only [List.getElem_toArray, List.getElem_cons_succ, List.getElem_cons_zero]); go_simp; try with_reducible rfl)
        (try simp only [Act.put, List.getElem_toArray, List.getElem_cons_succ, List.getElem_cons_zero, List.setIfInBounds_toArray, List.set_cons_zero, List.set_cons_succ])
        refine wpAnyH_take (i := 9) (oi := _) (v := ?_) rfl (by kernel_rfl) (by kernel_rfl) (by kernel_rfl) (fun _ _ _ h => h) (Or.inl ⟨by rfl, ?_⟩) (by assumption) ?_
        rotate_left 1
        · (intro wq hSw; (try dsimp only at hSw); (try simp only [List.getElem_toArray, List.getElem_cons_succ, List.getElem_cons_zero]); go_simp; try with_reducible rfl)
        (try simp only [Act.put, List.getElem_toArray, List.getElem_cons_succ, List.getElem_cons_zero, List.setIfInBounds_toArray, List.set_cons_zero, List.set_cons_succ])
        have HBq := hide (below_drewN (unhide HBd) 1)
        have HOq := hide ((unhide HO0).drewN 1)
        obtain ⟨wq, hwq⟩ : ∃ wq, wq = wa.drew := ⟨_, rfl⟩
        change Hid (Below D w0 wa.drew) at HBq
        change Hid (OwnS D wa.drew _ []) at HOq
        rw [← hwq] at HBq HOq hHeld ⊢
        clear hwq
        have hs1 : (strOfNums (encN tm2 4)).size = 4 := by simp [strOfNums, ByteArray.size, encN]
        have hs2 : (strOfNums [vo2 + 1]).size = 1 := by simp [strOfNums, ByteArray.size]
        have F0w : w0.cell? ⟨w.heap.size + 1, 0, none⟩ = _ := ((unhide HBd).cell (p := ⟨w.heap.size + 1, 0, none⟩) hx2).symm.trans f0
        have F1w : w0.cell? ⟨w.heap.size + 1, 1, none⟩ = _ := ((unhide HBd).cell (p := ⟨w.heap.size + 1, 1, none⟩) hx2).symm.trans f1
        clear f0 f1
        refine wpAnyH_ready (rs := [3, 10]) (by kernel_rfl) (by simp) ?_
        refine AllReadyH.cons (o := _) rfl (fun K hK => ?_) (AllReadyH.cons (o := _) rfl (fun K hK => ?_) AllReadyH.nil)
        · skip
          go_simp
          refine (four_own tm2 wq (by omega) (by omega)).mono ?_
          rintro e v1 ⟨gv1, rfl, hOw, hb⟩
          have hbX := (unhide HBq).trans (hb.mono (by have := (unhide HBq).size; omega))
          have HBv1 := hide hbX
          have HOv1 := hide ((unhide HOq).below hb)
          have OAv1 := hide hOw
          clear hb hOw
          go_wp2_with fail
          refine hK.out _ _ ?_ (fun hHeld => ?_)
          · exact ⟨(hbX.cell (p := ⟨w.heap.size + 1, 0, none⟩) hx2).trans F0w, (hbX.cell (p := ⟨w.heap.size + 1, 1, none⟩) hx2).trans F1w⟩
          clear hK K hbX
          (try simp only [Act.put, List.getElem_toArray, List.getElem_cons_succ, List.getElem_cons_zero, List.setIfInBounds_toArray, List.set_cons_zero, List.set_cons_succ])
          refine wpAnyH_ready (rs := [4, 10]) (by kernel_rfl) (by simp) ?_
          refine AllReadyH.cons (o := _) rfl (fun K hK => ?_) (AllReadyH.cons (o := _) rfl (fun K hK => ?_) AllReadyH.nil)
          · skip
            have hcv := conv_own (P := Try.prog) 143 9 5 Try.underlying143 Try.underlying5 Try.underlying9 (unhide OAv1).1
            go_simp
            have hbX := unhide HBv1
            refine hK.out _ _ ?_ (fun hHeld => ?_)
            · exact ⟨(hbX.cell (p := ⟨w.heap.size + 1, 0, none⟩) hx2).trans F0w, (hbX.cell (p := ⟨w.heap.size + 1, 1, none⟩) hx2).trans F1w⟩
            clear hK K hbX hcv
            (try simp only [Act.put, List.getElem_toArray, List.getElem_cons_succ, List.getElem_cons_zero, List.setIfInBounds_toArray, List.set_cons_zero, List.set_cons_succ])
            refine wpAnyH_take (i := 5) (oi := _) (v := ?_) rfl (by kernel_rfl) (by kernel_rfl) (by kernel_rfl) (fun _ _ _ h => h) (Or.inl ⟨by rfl, ?_⟩) (by assumption) ?_
            rotate_left 1
            · (intro wq hSw; (try dsimp only at hSw); (try simp only [List.getElem_toArray, List.getElem_cons_succ, List.getElem_cons_zero]); go_simp; try with_reducible rfl)
            (try simp only [Act.put, List.getElem_toArray, List.getElem_cons_succ, List.getElem_cons_zero, List.setIfInBounds_toArray, List.set_cons_zero, List.set_cons_succ])
            refine wpAnyH_ready (rs := [10]) (by kernel_rfl) (by simp) ?_
            refine AllReadyH.cons (o := _) rfl (fun K hK => ?_) AllReadyH.nil
            go_simp
            have hb := (Below.refl v1.heap.size v1).alloc (Nat.le_refl _) (.cells #[.int .u8 (vo2 + 1)] 5)
            have hbX := (unhide HBv1).trans (hb.mono (by have := (unhide HBv1).size; omega))
            have HBv3 := hide hbX
            have HOv3 := hide ((unhide HOv1).below hb)
            have OBv3 := hide (one_own v1 (vo2 + 1) (by omega) (by omega))
            refine hK.out _ _ ?_ (fun hHeld => ?_)
            · exact ⟨(hbX.cell (p := ⟨w.heap.size + 1, 0, none⟩) hx2).trans F0w, (hbX.cell (p := ⟨w.heap.size + 1, 1, none⟩) hx2).trans F1w⟩
            clear hK K hbX hb
            (try simp only [Act.put, List.getElem_toArray, List.getElem_cons_succ, List.getElem_cons_zero, List.setIfInBounds_toArray, List.set_cons_zero, List.set_cons_succ])
            generalize v1.alloc (.cells #[.int .u8 (vo2 + 1)] 5) = v3 at *
            generalize hgb : v1.heap.size = gv3 at *
            clear hgb
            refine wpAnyH_ready (rs := [11]) (by kernel_rfl) (by simp) ?_
            refine AllReadyH.cons (o := _) rfl (fun K hK => ?_) AllReadyH.nil
            have hcv := conv_own (P := Try.prog) 143 9 5 Try.underlying143 Try.underlying5 Try.underlying9 (unhide OBv3).1
            go_simp
            have hbX := unhide HBv3
            refine hK.out _ _ ?_ (fun hHeld => ?_)
            · exact ⟨(hbX.cell (p := ⟨w.heap.size + 1, 0, none⟩) hx2).trans F0w, (hbX.cell (p := ⟨w.heap.size + 1, 1, none⟩) hx2).trans F1w⟩
            clear hK K hbX hcv
            (try simp only [Act.put, List.getElem_toArray, List.getElem_cons_succ, List.getElem_cons_zero, List.setIfInBounds_toArray, List.set_cons_zero, List.set_cons_succ])
            refine wpAnyH_take (i := 12) (oi := _) (v := ?_) rfl (by kernel_rfl) (by kernel_rfl) (by kernel_rfl) (fun _ _ _ h => h) (Or.inl ⟨by rfl, ?_⟩) (by assumption) ?_
            rotate_left 1
            · (intro wq hSw; (try dsimp only at hSw); (try simp only [List.getElem_toArray, List.getElem_cons_succ, List.getElem_cons_zero]); go_simp; try with_reducible rfl)
            (try simp only [Act.put, List.getElem_toArray, List.getElem_cons_succ, List.getElem_cons_zero, List.setIfInBounds_toArray, List.set_cons_zero, List.set_cons_succ])
            refine wpAnyH_ready (rs := [13]) (by kernel_rfl) (by simp) ?_
            refine AllReadyH.cons (o := _) rfl (fun K hK => ?_) AllReadyH.nil
            go_simp
            have hbX := (unhide HBv3).alloc (show D ≤ v3.heap.size from (unhide HBv3).size |> fun h => by omega) (.cells #[.string (ByteArray.mk #[84] ++ strOfNums (encN tm2 4) ++ strOfNums [vo2 + 1])] 9)
            refine hK.out _ _ ?_ (fun hHeld => ?_)
            · exact ⟨(hbX.cell (p := ⟨w.heap.size + 1, 0, none⟩) hx2).trans F0w, (hbX.cell (p := ⟨w.heap.size + 1, 1, none⟩) hx2).trans F1w⟩
            clear hK K
            (try simp only [Act.put, List.getElem_toArray, List.getElem_cons_succ, List.getElem_cons_zero, List.setIfInBounds_toArray, List.set_cons_zero, List.set_cons_succ])
            refine wpAnyH_ready (rs := [14]) (by kernel_rfl) (by simp) ?_
            refine AllReadyH.cons (o := _) rfl (fun K hK => ?_) AllReadyH.nil
            refine step_append_lies _ rfl _ _ _ rfl D 9 i0 _ 1 16 Try.underlying59 hi hz0 hz1 hz2 rfl (by omega) (.slice (some ⟨w.heap.size + 1 + 1, 0, none⟩) 0 0) 0 [] rfl (World.ownsRow.alloc (unhide HOv3) _) ⟨v3.heap.size, 0, none⟩ 1 1 [.string (ByteArray.mk #[84] ++ strOfNums (encN tm2 4) ++ strOfNums [vo2 + 1])] rfl rfl (World.news_of_block (cs := #[.string (ByteArray.mk #[84] ++ strOfNums (encN tm2 4) ++ strOfNums [vo2 + 1])]) (t := 9) (fr := (0, 0)) (heap_alloc_new v3 _)) (by simp [Value.oneCell']) (by omega) (by unfold maxLen; omega) (by omega) (by have := (unhide HBv3).size; simp; omega) _ rfl ?_
            intro g5 cap5 w5 hown5 hgrow5 hat5 hlt5
            have R5 := hide (And.intro hown5 (hbX.grown hgrow5 (by have := (unhide HBv3).size; simp; omega) (fun r hr => (World.ownsRow.lt (unhide HOv3) r hr).1)))
            clear hown5 hgrow5 hat5 hlt5 hbX
            have hbX := (unhide R5).2
            refine hK.out _ _ ?_ (fun hHeld => ?_)
            · exact ⟨(hbX.cell (p := ⟨w.heap.size + 1, 0, none⟩) hx2).trans F0w, (hbX.cell (p := ⟨w.heap.size + 1, 1, none⟩) hx2).trans F1w⟩
            clear hK K
            (try simp only [Act.put, List.getElem_toArray, List.getElem_cons_succ, List.getElem_cons_zero, List.setIfInBounds_toArray, List.set_cons_zero, List.set_cons_succ])
            refine wpAnyH_take (i := 15) (oi := _) (v := ?_) rfl (by kernel_rfl) (by kernel_rfl) (by kernel_rfl) (fun _ _ _ h => h) (Or.inl ⟨by rfl, ?_⟩) (by assumption) ?_
            rotate_left 1
            · (intro wq hSw; (try dsimp only at hSw); (try simp only [List.getElem_toArray, List.getElem_cons_succ, List.getElem_cons_zero]); go_simp; try with_reducible rfl)
            (try simp only [Act.put, List.getElem_toArray, List.getElem_cons_succ, List.getElem_cons_zero, List.setIfInBounds_toArray, List.set_cons_zero, List.set_cons_succ])
            refine wpAnyH_done (by kernel_rfl) (NoPanic.normal ?_) _
            go_wp2_with fail
            go_meet
            rw [unhide HT]
            exact ⟨some ⟨g5, 0, none⟩, cap5, rfl, by have h := (unhide R5).1; rw [unhide HTX] at h; exact h, (unhide R5).2⟩
          · skip
            go_simp
            have hb := (Below.refl v1.heap.size v1).alloc (Nat.le_refl _) (.cells #[.int .u8 (vo2 + 1)] 5)
            have hbX := (unhide HBv1).trans (hb.mono (by have := (unhide HBv1).size; omega))
            have HBv6 := hide hbX
            have HOv6 := hide ((unhide HOv1).below hb)
            have OBv6 := hide (one_own v1 (vo2 + 1) (by omega) (by omega))
            have OAv6 := hide (OwnB.bel (unhide OAv1) hb)
            refine hK.out _ _ ?_ (fun hHeld => ?_)
            · exact ⟨(hbX.cell (p := ⟨w.heap.size + 1, 0, none⟩) hx2).trans F0w, (hbX.cell (p := ⟨w.heap.size + 1, 1, none⟩) hx2).trans F1w⟩
            clear hK K hbX hb
            (try simp only [Act.put, List.getElem_toArray, List.getElem_cons_succ, List.getElem_cons_zero, List.setIfInBounds_toArray, List.set_cons_zero, List.set_cons_succ])
            generalize v1.alloc (.cells #[.int .u8 (vo2 + 1)] 5) = v6 at *
            generalize hgb : v1.heap.size = gv6 at *
            clear hgb
            refine wpAnyH_ready (rs := [4, 11]) (by kernel_rfl) (by simp) ?_
            refine AllReadyH.cons (o := _) rfl (fun K hK => ?_) (AllReadyH.cons (o := _) rfl (fun K hK => ?_) AllReadyH.nil)
            · skip
              have hcv := conv_own (P := Try.prog) 143 9 5 Try.underlying143 Try.underlying5 Try.underlying9 (unhide OAv6).1
              go_simp
              have hbX := unhide HBv6
              refine hK.out _ _ ?_ (fun hHeld => ?_)
              · exact ⟨(hbX.cell (p := ⟨w.heap.size + 1, 0, none⟩) hx2).trans F0w, (hbX.cell (p := ⟨w.heap.size + 1, 1, none⟩) hx2).trans F1w⟩
              clear hK K hbX hcv
              (try simp only [Act.put, List.getElem_toArray, List.getElem_cons_succ, List.getElem_cons_zero, List.setIfInBounds_toArray, List.set_cons_zero, List.set_cons_succ])
              refine wpAnyH_take (i := 5) (oi := _) (v := ?_) rfl (by kernel_rfl) (by kernel_rfl) (by kernel_rfl) (fun _ _ _ h => h) (Or.inl ⟨by rfl, ?_⟩) (by assumption) ?_
              rotate_left 1
              · (intro wq hSw; (try dsimp only at hSw); (try simp only [List.getElem_toArray, List.getElem_cons_succ, List.getElem_cons_zero]); go_simp; try with_reducible rfl)
              (try simp only [Act.put, List.getElem_toArray, List.getElem_cons_succ, List.getElem_cons_zero, List.setIfInBounds_toArray, List.set_cons_zero, List.set_cons_succ])
              refine wpAnyH_ready (rs := [11]) (by kernel_rfl) (by simp) ?_
              refine AllReadyH.cons (o := _) rfl (fun K hK => ?_) AllReadyH.nil
              have hcv := conv_own (P := Try.prog) 143 9 5 Try.underlying143 Try.underlying5 Try.underlying9 (unhide OBv6).1
              go_simp
              have hbX := unhide HBv6
              refine hK.out _ _ ?_ (fun hHeld => ?_)
              · exact ⟨(hbX.cell (p := ⟨w.heap.size + 1, 0, none⟩) hx2).trans F0w, (hbX.cell (p := ⟨w.heap.size + 1, 1, none⟩) hx2).trans F1w⟩
              clear hK K hbX hcv
              (try simp only [Act.put, List.getElem_toArray, List.getElem_cons_succ, List.getElem_cons_zero, List.setIfInBounds_toArray, List.set_cons_zero, List.set_cons_succ])
              refine wpAnyH_take (i := 12) (oi := _) (v := ?_) rfl (by kernel_rfl) (by kernel_rfl) (by kernel_rfl) (fun _ _ _ h => h) (Or.inl ⟨by rfl, ?_⟩) (by assumption) ?_
              rotate_left 1
              · (intro wq hSw; (try dsimp only at hSw); (try simp only [List.getElem_toArray, List.getElem_cons_succ, List.getElem_cons_zero]); go_simp; try with_reducible rfl)
              (try simp only [Act.put, List.getElem_toArray, List.getElem_cons_succ, List.getElem_cons_zero, List.setIfInBounds_toArray, List.set_cons_zero, List.set_cons_succ])
              refine wpAnyH_ready (rs := [13]) (by kernel_rfl) (by simp) ?_
              refine AllReadyH.cons (o := _) rfl (fun K hK => ?_) AllReadyH.nil
              go_simp
              have hbX := (unhide HBv6).alloc (show D ≤ v6.heap.size from (unhide HBv6).size |> fun h => by omega) (.cells #[.string (ByteArray.mk #[84] ++ strOfNums (encN tm2 4) ++ strOfNums [vo2 + 1])] 9)
              refine hK.out _ _ ?_ (fun hHeld => ?_)
              · exact ⟨(hbX.cell (p := ⟨w.heap.size + 1, 0, none⟩) hx2).trans F0w, (hbX.cell (p := ⟨w.heap.size + 1, 1, none⟩) hx2).trans F1w⟩
              clear hK K
              (try simp only [Act.put, List.getElem_toArray, List.getElem_cons_succ, List.getElem_cons_zero, List.setIfInBounds_toArray, List.set_cons_zero, List.set_cons_succ])
              refine wpAnyH_ready (rs := [14]) (by kernel_rfl) (by simp) ?_
              refine AllReadyH.cons (o := _) rfl (fun K hK => ?_) AllReadyH.nil
              refine step_append_lies _ rfl _ _ _ rfl D 9 i0 _ 1 16 Try.underlying59 hi hz0 hz1 hz2 rfl (by omega) (.slice (some ⟨w.heap.size + 1 + 1, 0, none⟩) 0 0) 0 [] rfl (World.ownsRow.alloc (unhide HOv6) _) ⟨v6.heap.size, 0, none⟩ 1 1 [.string (ByteArray.mk #[84] ++ strOfNums (encN tm2 4) ++ strOfNums [vo2 + 1])] rfl rfl (World.news_of_block (cs := #[.string (ByteArray.mk #[84] ++ strOfNums (encN tm2 4) ++ strOfNums [vo2 + 1])]) (t := 9) (fr := (0, 0)) (heap_alloc_new v6 _)) (by simp [Value.oneCell']) (by omega) (by unfold maxLen; omega) (by omega) (by have := (unhide HBv6).size; simp; omega) _ rfl ?_
              intro g5 cap5 w5 hown5 hgrow5 hat5 hlt5
              have R5 := hide (And.intro hown5 (hbX.grown hgrow5 (by have := (unhide HBv6).size; simp; omega) (fun r hr => (World.ownsRow.lt (unhide HOv6) r hr).1)))
              clear hown5 hgrow5 hat5 hlt5 hbX
              have hbX := (unhide R5).2
              refine hK.out _ _ ?_ (fun hHeld => ?_)
              · exact ⟨(hbX.cell (p := ⟨w.heap.size + 1, 0, none⟩) hx2).trans F0w, (hbX.cell (p := ⟨w.heap.size + 1, 1, none⟩) hx2).trans F1w⟩
              clear hK K
              (try simp only [Act.put, List.getElem_toArray, List.getElem_cons_succ, List.getElem_cons_zero, List.setIfInBounds_toArray, List.set_cons_zero, List.set_cons_succ])
              refine wpAnyH_take (i := 15) (oi := _) (v := ?_) rfl (by kernel_rfl) (by kernel_rfl) (by kernel_rfl) (fun _ _ _ h => h) (Or.inl ⟨by rfl, ?_⟩) (by assumption) ?_
              rotate_left 1
              · (intro wq hSw; (try dsimp only at hSw); (try simp only [List.getElem_toArray, List.getElem_cons_succ, List.getElem_cons_zero]); go_simp; try with_reducible rfl)
              (try simp only [Act.put, List.getElem_toArray, List.getElem_cons_succ, List.getElem_cons_zero, List.setIfInBounds_toArray, List.set_cons_zero, List.set_cons_succ])
              refine wpAnyH_done (by kernel_rfl) (NoPanic.normal ?_) _
              go_wp2_with fail
              go_meet
              rw [unhide HT]
              exact ⟨some ⟨g5, 0, none⟩, cap5, rfl, by have h := (unhide R5).1; rw [unhide HTX] at h; exact h, (unhide R5).2⟩
            · skip
              have hcv := conv_own (P := Try.prog) 143 9 5 Try.underlying143 Try.underlying5 Try.underlying9 (unhide OBv6).1
              go_simp
              have hbX := unhide HBv6
              refine hK.out _ _ ?_ (fun hHeld => ?_)
              · exact ⟨(hbX.cell (p := ⟨w.heap.size + 1, 0, none⟩) hx2).trans F0w, (hbX.cell (p := ⟨w.heap.size + 1, 1, none⟩) hx2).trans F1w⟩
              clear hK K hbX hcv
              (try simp only [Act.put, List.getElem_toArray, List.getElem_cons_succ, List.getElem_cons_zero, List.setIfInBounds_toArray, List.set_cons_zero, List.set_cons_succ])
              refine wpAnyH_ready (rs := [4]) (by kernel_rfl) (by simp) ?_
              refine AllReadyH.cons (o := _) rfl (fun K hK => ?_) AllReadyH.nil
              have hcv := conv_own (P := Try.prog) 143 9 5 Try.underlying143 Try.underlying5 Try.underlying9 (unhide OAv6).1
              go_simp
              have hbX := unhide HBv6
              refine hK.out _ _ ?_ (fun hHeld => ?_)
              · exact ⟨(hbX.cell (p := ⟨w.heap.size + 1, 0, none⟩) hx2).trans F0w, (hbX.cell (p := ⟨w.heap.size + 1, 1, none⟩) hx2).trans F1w⟩
              clear hK K hbX hcv
              (try simp only [Act.put, List.getElem_toArray, List.getElem_cons_succ, List.getElem_cons_zero, List.setIfInBounds_toArray, List.set_cons_zero, List.set_cons_succ])
              refine wpAnyH_take (i := 5) (oi := _) (v := ?_) rfl (by kernel_rfl) (by kernel_rfl) (by kernel_rfl) (fun _ _ _ h => h) (Or.inl ⟨by rfl, ?_⟩) (by assumption) ?_
              rotate_left 1
              · (intro wq hSw; (try dsimp only at hSw); (try simp only [List.getElem_toArray, List.getElem_cons_succ, List.getElem_cons_zero]); go_simp; try with_reducible rfl)
              (try simp only [Act.put, List.getElem_toArray, List.getElem_cons_succ, List.getElem_cons_zero, List.setIfInBounds_toArray, List.set_cons_zero, List.set_cons_succ])
              refine wpAnyH_take (i := 12) (oi := _) (v := ?_) rfl (by kernel_rfl) (by kernel_rfl) (by kernel_rfl) (fun _ _ _ h => h) (Or.inl ⟨by rfl, ?_⟩) (by assumption) ?_
              rotate_left 1
              · (intro wq hSw; (try dsimp only at hSw); (try simp only [List.getElem_toArray, List.getElem_cons_succ, List.getElem_cons_zero]); go_simp; try with_reducible rfl)
              (try simp only [Act.put, List.getElem_toArray, List.getElem_cons_succ, List.getElem_cons_zero, List.setIfInBounds_toArray, List.set_cons_zero, List.set_cons_succ])
              refine wpAnyH_ready (rs := [13]) (by kernel_rfl) (by simp) ?_
              refine AllReadyH.cons (o := _) rfl (fun K hK => ?_) AllReadyH.nil
              go_simp
              have hbX := (unhide HBv6).alloc (show D ≤ v6.heap.size from (unhide HBv6).size |> fun h => by omega) (.cells #[.string (ByteArray.mk #[84] ++ strOfNums (encN tm2 4) ++ strOfNums [vo2 + 1])] 9)
              refine hK.out _ _ ?_ (fun hHeld => ?_)
              · exact ⟨(hbX.cell (p := ⟨w.heap.size + 1, 0, none⟩) hx2).trans F0w, (hbX.cell (p := ⟨w.heap.size + 1, 1, none⟩) hx2).trans F1w⟩
              clear hK K
              (try simp only [Act.put, List.getElem_toArray, List.getElem_cons_succ, List.getElem_cons_zero, List.setIfInBounds_toArray, List.set_cons_zero, List.set_cons_succ])
              refine wpAnyH_ready (rs := [14]) (by kernel_rfl) (by simp) ?_
              refine AllReadyH.cons (o := _) rfl (fun K hK => ?_) AllReadyH.nil
              refine step_append_lies _ rfl _ _ _ rfl D 9 i0 _ 1 16 Try.underlying59 hi hz0 hz1 hz2 rfl (by omega) (.slice (some ⟨w.heap.size + 1 + 1, 0, none⟩) 0 0) 0 [] rfl (World.ownsRow.alloc (unhide HOv6) _) ⟨v6.heap.size, 0, none⟩ 1 1 [.string (ByteArray.mk #[84] ++ strOfNums (encN tm2 4) ++ strOfNums [vo2 + 1])] rfl rfl (World.news_of_block (cs := #[.string (ByteArray.mk #[84] ++ strOfNums (encN tm2 4) ++ strOfNums [vo2 + 1])]) (t := 9) (fr := (0, 0)) (heap_alloc_new v6 _)) (by simp [Value.oneCell']) (by omega) (by unfold maxLen; omega) (by omega) (by have := (unhide HBv6).size; simp; omega) _ rfl ?_
              intro g5 cap5 w5 hown5 hgrow5 hat5 hlt5
              have R5 := hide (And.intro hown5 (hbX.grown hgrow5 (by have := (unhide HBv6).size; simp; omega) (fun r hr => (World.ownsRow.lt (unhide HOv6) r hr).1)))
              clear hown5 hgrow5 hat5 hlt5 hbX
              have hbX := (unhide R5).2
              refine hK.out _ _ ?_ (fun hHeld => ?_)
              · exact ⟨(hbX.cell (p := ⟨w.heap.size + 1, 0, none⟩) hx2).trans F0w, (hbX.cell (p := ⟨w.heap.size + 1, 1, none⟩) hx2).trans F1w⟩
              clear hK K
              (try simp only [Act.put, List.getElem_toArray, List.getElem_cons_succ, List.getElem_cons_zero, List.setIfInBounds_toArray, List.set_cons_zero, List.set_cons_succ])
              refine wpAnyH_take (i := 15) (oi := _) (v := ?_) rfl (by kernel_rfl) (by kernel_rfl) (by kernel_rfl) (fun _ _ _ h => h) (Or.inl ⟨by rfl, ?_⟩) (by assumption) ?_
              rotate_left 1
              · (intro wq hSw; (try dsimp only at hSw); (try simp only [List.getElem_toArray, List.getElem_cons_succ, List.getElem_cons_zero]); go_simp; try with_reducible rfl)
              (try simp only [Act.put, List.getElem_toArray, List.getElem_cons_succ, List.getElem_cons_zero, List.setIfInBounds_toArray, List.set_cons_zero, List.set_cons_succ])
              refine wpAnyH_done (by kernel_rfl) (NoPanic.normal ?_) _
              go_wp2_with fail
              go_meet
              rw [unhide HT]
              exact ⟨some ⟨g5, 0, none⟩, cap5, rfl, by have h := (unhide R5).1; rw [unhide HTX] at h; exact h, (unhide R5).2⟩
        · skip
          go_simp
          have hb := (Below.refl wq.heap.size wq).alloc (Nat.le_refl _) (.cells #[.int .u8 (vo2 + 1)] 5)
          have hbX := (unhide HBq).trans (hb.mono (by have := (unhide HBq).size; omega))
          have HBv13 := hide hbX
          have HOv13 := hide ((unhide HOq).below hb)
          have OBv13 := hide (one_own wq (vo2 + 1) (by omega) (by omega))
          refine hK.out _ _ ?_ (fun hHeld => ?_)
          · exact ⟨(hbX.cell (p := ⟨w.heap.size + 1, 0, none⟩) hx2).trans F0w, (hbX.cell (p := ⟨w.heap.size + 1, 1, none⟩) hx2).trans F1w⟩
          clear hK K hbX hb
          (try simp only [Act.put, List.getElem_toArray, List.getElem_cons_succ, List.getElem_cons_zero, List.setIfInBounds_toArray, List.set_cons_zero, List.set_cons_succ])
          generalize wq.alloc (.cells #[.int .u8 (vo2 + 1)] 5) = v13 at *
          generalize hgb : wq.heap.size = gv13 at *
          clear hgb
          refine wpAnyH_ready (rs := [3, 11]) (by kernel_rfl) (by simp) ?_
          refine AllReadyH.cons (o := _) rfl (fun K hK => ?_) (AllReadyH.cons (o := _) rfl (fun K hK => ?_) AllReadyH.nil)
          · skip
            go_simp
            refine (four_own tm2 v13 (by omega) (by omega)).mono ?_
            rintro e v14 ⟨gv14, rfl, hOw, hb⟩
            have hbX := (unhide HBv13).trans (hb.mono (by have := (unhide HBv13).size; omega))
            have HBv14 := hide hbX
            have HOv14 := hide ((unhide HOv13).below hb)
            have OAv14 := hide hOw
            have OBv14 := hide (OwnB.bel (unhide OBv13) hb)
            clear hb hOw
            go_wp2_with fail
            refine hK.out _ _ ?_ (fun hHeld => ?_)
            · exact ⟨(hbX.cell (p := ⟨w.heap.size + 1, 0, none⟩) hx2).trans F0w, (hbX.cell (p := ⟨w.heap.size + 1, 1, none⟩) hx2).trans F1w⟩
            clear hK K hbX
            (try simp only [Act.put, List.getElem_toArray, List.getElem_cons_succ, List.getElem_cons_zero, List.setIfInBounds_toArray, List.set_cons_zero, List.set_cons_succ])
            refine wpAnyH_ready (rs := [4, 11]) (by kernel_rfl) (by simp) ?_
            refine AllReadyH.cons (o := _) rfl (fun K hK => ?_) (AllReadyH.cons (o := _) rfl (fun K hK => ?_) AllReadyH.nil)
            · skip
              have hcv := conv_own (P := Try.prog) 143 9 5 Try.underlying143 Try.underlying5 Try.underlying9 (unhide OAv14).1
              go_simp
              have hbX := unhide HBv14
              refine hK.out _ _ ?_ (fun hHeld => ?_)
              · exact ⟨(hbX.cell (p := ⟨w.heap.size + 1, 0, none⟩) hx2).trans F0w, (hbX.cell (p := ⟨w.heap.size + 1, 1, none⟩) hx2).trans F1w⟩
              clear hK K hbX hcv
              (try simp only [Act.put, List.getElem_toArray, List.getElem_cons_succ, List.getElem_cons_zero, List.setIfInBounds_toArray, List.set_cons_zero, List.set_cons_succ])
              refine wpAnyH_take (i := 5) (oi := _) (v := ?_) rfl (by kernel_rfl) (by kernel_rfl) (by kernel_rfl) (fun _ _ _ h => h) (Or.inl ⟨by rfl, ?_⟩) (by assumption) ?_
              rotate_left 1
              · (intro wq hSw; (try dsimp only at hSw); (try simp only [List.getElem_toArray, List.getElem_cons_succ, List.getElem_cons_zero]); go_simp; try with_reducible rfl)
              (try simp only [Act.put, List.getElem_toArray, List.getElem_cons_succ, List.getElem_cons_zero, List.setIfInBounds_toArray, List.set_cons_zero, List.set_cons_succ])
              refine wpAnyH_ready (rs := [11]) (by kernel_rfl) (by simp) ?_
              refine AllReadyH.cons (o := _) rfl (fun K hK => ?_) AllReadyH.nil
              have hcv := conv_own (P := Try.prog) 143 9 5 Try.underlying143 Try.underlying5 Try.underlying9 (unhide OBv14).1
              go_simp
              have hbX := unhide HBv14
              refine hK.out _ _ ?_ (fun hHeld => ?_)
              · exact ⟨(hbX.cell (p := ⟨w.heap.size + 1, 0, none⟩) hx2).trans F0w, (hbX.cell (p := ⟨w.heap.size + 1, 1, none⟩) hx2).trans F1w⟩
              clear hK K hbX hcv
              (try simp only [Act.put, List.getElem_toArray, List.getElem_cons_succ, List.getElem_cons_zero, List.setIfInBounds_toArray, List.set_cons_zero, List.set_cons_succ])
              refine wpAnyH_take (i := 12) (oi := _) (v := ?_) rfl (by kernel_rfl) (by kernel_rfl) (by kernel_rfl) (fun _ _ _ h => h) (Or.inl ⟨by rfl, ?_⟩) (by assumption) ?_
              rotate_left 1
              · (intro wq hSw; (try dsimp only at hSw); (try simp only [List.getElem_toArray, List.getElem_cons_succ, List.getElem_cons_zero]); go_simp; try with_reducible rfl)
              (try simp only [Act.put, List.getElem_toArray, List.getElem_cons_succ, List.getElem_cons_zero, List.setIfInBounds_toArray, List.set_cons_zero, List.set_cons_succ])
              refine wpAnyH_ready (rs := [13]) (by kernel_rfl) (by simp) ?_
              refine AllReadyH.cons (o := _) rfl (fun K hK => ?_) AllReadyH.nil
              go_simp
              have hbX := (unhide HBv14).alloc (show D ≤ v14.heap.size from (unhide HBv14).size |> fun h => by omega) (.cells #[.string (ByteArray.mk #[84] ++ strOfNums (encN tm2 4) ++ strOfNums [vo2 + 1])] 9)
              refine hK.out _ _ ?_ (fun hHeld => ?_)
              · exact ⟨(hbX.cell (p := ⟨w.heap.size + 1, 0, none⟩) hx2).trans F0w, (hbX.cell (p := ⟨w.heap.size + 1, 1, none⟩) hx2).trans F1w⟩
              clear hK K
              (try simp only [Act.put, List.getElem_toArray, List.getElem_cons_succ, List.getElem_cons_zero, List.setIfInBounds_toArray, List.set_cons_zero, List.set_cons_succ])
              refine wpAnyH_ready (rs := [14]) (by kernel_rfl) (by simp) ?_
              refine AllReadyH.cons (o := _) rfl (fun K hK => ?_) AllReadyH.nil
              refine step_append_lies _ rfl _ _ _ rfl D 9 i0 _ 1 16 Try.underlying59 hi hz0 hz1 hz2 rfl (by omega) (.slice (some ⟨w.heap.size + 1 + 1, 0, none⟩) 0 0) 0 [] rfl (World.ownsRow.alloc (unhide HOv14) _) ⟨v14.heap.size, 0, none⟩ 1 1 [.string (ByteArray.mk #[84] ++ strOfNums (encN tm2 4) ++ strOfNums [vo2 + 1])] rfl rfl (World.news_of_block (cs := #[.string (ByteArray.mk #[84] ++ strOfNums (encN tm2 4) ++ strOfNums [vo2 + 1])]) (t := 9) (fr := (0, 0)) (heap_alloc_new v14 _)) (by simp [Value.oneCell']) (by omega) (by unfold maxLen; omega) (by omega) (by have := (unhide HBv14).size; simp; omega) _ rfl ?_
              intro g5 cap5 w5 hown5 hgrow5 hat5 hlt5
              have R5 := hide (And.intro hown5 (hbX.grown hgrow5 (by have := (unhide HBv14).size; simp; omega) (fun r hr => (World.ownsRow.lt (unhide HOv14) r hr).1)))
              clear hown5 hgrow5 hat5 hlt5 hbX
              have hbX := (unhide R5).2
              refine hK.out _ _ ?_ (fun hHeld => ?_)
              · exact ⟨(hbX.cell (p := ⟨w.heap.size + 1, 0, none⟩) hx2).trans F0w, (hbX.cell (p := ⟨w.heap.size + 1, 1, none⟩) hx2).trans F1w⟩
              clear hK K
              (try simp only [Act.put, List.getElem_toArray, List.getElem_cons_succ, List.getElem_cons_zero, List.setIfInBounds_toArray, List.set_cons_zero, List.set_cons_succ])
              refine wpAnyH_take (i := 15) (oi := _) (v := ?_) rfl (by kernel_rfl) (by kernel_rfl) (by kernel_rfl) (fun _ _ _ h => h) (Or.inl ⟨by rfl, ?_⟩) (by assumption) ?_
              rotate_left 1
              · (intro wq hSw; (try dsimp only at hSw); (try simp only [List.getElem_toArray, List.getElem_cons_succ, List.getElem_cons_zero]); go_simp; try with_reducible rfl)
              (try simp only [Act.put, List.getElem_toArray, List.getElem_cons_succ, List.getElem_cons_zero, List.setIfInBounds_toArray, List.set_cons_zero, List.set_cons_succ])
              refine wpAnyH_done (by kernel_rfl) (NoPanic.normal ?_) _
              go_wp2_with fail
              go_meet
              rw [unhide HT]
              exact ⟨some ⟨g5, 0, none⟩, cap5, rfl, by have h := (unhide R5).1; rw [unhide HTX] at h; exact h, (unhide R5).2⟩
            · skip
              have hcv := conv_own (P := Try.prog) 143 9 5 Try.underlying143 Try.underlying5 Try.underlying9 (unhide OBv14).1
              go_simp
              have hbX := unhide HBv14
              refine hK.out _ _ ?_ (fun hHeld => ?_)
              · exact ⟨(hbX.cell (p := ⟨w.heap.size + 1, 0, none⟩) hx2).trans F0w, (hbX.cell (p := ⟨w.heap.size + 1, 1, none⟩) hx2).trans F1w⟩
              clear hK K hbX hcv
              (try simp only [Act.put, List.getElem_toArray, List.getElem_cons_succ, List.getElem_cons_zero, List.setIfInBounds_toArray, List.set_cons_zero, List.set_cons_succ])
              refine wpAnyH_ready (rs := [4]) (by kernel_rfl) (by simp) ?_
              refine AllReadyH.cons (o := _) rfl (fun K hK => ?_) AllReadyH.nil
              have hcv := conv_own (P := Try.prog) 143 9 5 Try.underlying143 Try.underlying5 Try.underlying9 (unhide OAv14).1
              go_simp
              have hbX := unhide HBv14
              refine hK.out _ _ ?_ (fun hHeld => ?_)
              · exact ⟨(hbX.cell (p := ⟨w.heap.size + 1, 0, none⟩) hx2).trans F0w, (hbX.cell (p := ⟨w.heap.size + 1, 1, none⟩) hx2).trans F1w⟩
              clear hK K hbX hcv
              (try simp only [Act.put, List.getElem_toArray, List.getElem_cons_succ, List.getElem_cons_zero, List.setIfInBounds_toArray, List.set_cons_zero, List.set_cons_succ])
              refine wpAnyH_take (i := 5) (oi := _) (v := ?_) rfl (by kernel_rfl) (by kernel_rfl) (by kernel_rfl) (fun _ _ _ h => h) (Or.inl ⟨by rfl, ?_⟩) (by assumption) ?_
              rotate_left 1
              · (intro wq hSw; (try dsimp only at hSw); (try simp only [List.getElem_toArray, List.getElem_cons_succ, List.getElem_cons_zero]); go_simp; try with_reducible rfl)
              (try simp only [Act.put, List.getElem_toArray, List.getElem_cons_succ, List.getElem_cons_zero, List.setIfInBounds_toArray, List.set_cons_zero, List.set_cons_succ])
              refine wpAnyH_take (i := 12) (oi := _) (v := ?_) rfl (by kernel_rfl) (by kernel_rfl) (by kernel_rfl) (fun _ _ _ h => h) (Or.inl ⟨by rfl, ?_⟩) (by assumption) ?_
              rotate_left 1
              · (intro wq hSw; (try dsimp only at hSw); (try simp only [List.getElem_toArray, List.getElem_cons_succ, List.getElem_cons_zero]); go_simp; try with_reducible rfl)
              (try simp only [Act.put, List.getElem_toArray, List.getElem_cons_succ, List.getElem_cons_zero, List.setIfInBounds_toArray, List.set_cons_zero, List.set_cons_succ])
              refine wpAnyH_ready (rs := [13]) (by kernel_rfl) (by simp) ?_
              refine AllReadyH.cons (o := _) rfl (fun K hK => ?_) AllReadyH.nil
              go_simp
              have hbX := (unhide HBv14).alloc (show D ≤ v14.heap.size from (unhide HBv14).size |> fun h => by omega) (.cells #[.string (ByteArray.mk #[84] ++ strOfNums (encN tm2 4) ++ strOfNums [vo2 + 1])] 9)
              refine hK.out _ _ ?_ (fun hHeld => ?_)
              · exact ⟨(hbX.cell (p := ⟨w.heap.size + 1, 0, none⟩) hx2).trans F0w, (hbX.cell (p := ⟨w.heap.size + 1, 1, none⟩) hx2).trans F1w⟩
              clear hK K
              (try simp only [Act.put, List.getElem_toArray, List.getElem_cons_succ, List.getElem_cons_zero, List.setIfInBounds_toArray, List.set_cons_zero, List.set_cons_succ])
              refine wpAnyH_ready (rs := [14]) (by kernel_rfl) (by simp) ?_
              refine AllReadyH.cons (o := _) rfl (fun K hK => ?_) AllReadyH.nil
              refine step_append_lies _ rfl _ _ _ rfl D 9 i0 _ 1 16 Try.underlying59 hi hz0 hz1 hz2 rfl (by omega) (.slice (some ⟨w.heap.size + 1 + 1, 0, none⟩) 0 0) 0 [] rfl (World.ownsRow.alloc (unhide HOv14) _) ⟨v14.heap.size, 0, none⟩ 1 1 [.string (ByteArray.mk #[84] ++ strOfNums (encN tm2 4) ++ strOfNums [vo2 + 1])] rfl rfl (World.news_of_block (cs := #[.string (ByteArray.mk #[84] ++ strOfNums (encN tm2 4) ++ strOfNums [vo2 + 1])]) (t := 9) (fr := (0, 0)) (heap_alloc_new v14 _)) (by simp [Value.oneCell']) (by omega) (by unfold maxLen; omega) (by omega) (by have := (unhide HBv14).size; simp; omega) _ rfl ?_
              intro g5 cap5 w5 hown5 hgrow5 hat5 hlt5
              have R5 := hide (And.intro hown5 (hbX.grown hgrow5 (by have := (unhide HBv14).size; simp; omega) (fun r hr => (World.ownsRow.lt (unhide HOv14) r hr).1)))
              clear hown5 hgrow5 hat5 hlt5 hbX
              have hbX := (unhide R5).2
              refine hK.out _ _ ?_ (fun hHeld => ?_)
              · exact ⟨(hbX.cell (p := ⟨w.heap.size + 1, 0, none⟩) hx2).trans F0w, (hbX.cell (p := ⟨w.heap.size + 1, 1, none⟩) hx2).trans F1w⟩
              clear hK K
              (try simp only [Act.put, List.getElem_toArray, List.getElem_cons_succ, List.getElem_cons_zero, List.setIfInBounds_toArray, List.set_cons_zero, List.set_cons_succ])
              refine wpAnyH_take (i := 15) (oi := _) (v := ?_) rfl (by kernel_rfl) (by kernel_rfl) (by kernel_rfl) (fun _ _ _ h => h) (Or.inl ⟨by rfl, ?_⟩) (by assumption) ?_
              rotate_left 1
              · (intro wq hSw; (try dsimp only at hSw); (try simp only [List.getElem_toArray, List.getElem_cons_succ, List.getElem_cons_zero]); go_simp; try with_reducible rfl)
              (try simp only [Act.put, List.getElem_toArray, List.getElem_cons_succ, List.getElem_cons_zero, List.setIfInBounds_toArray, List.set_cons_zero, List.set_cons_succ])
              refine wpAnyH_done (by kernel_rfl) (NoPanic.normal ?_) _
              go_wp2_with fail
              go_meet
              rw [unhide HT]
              exact ⟨some ⟨g5, 0, none⟩, cap5, rfl, by have h := (unhide R5).1; rw [unhide HTX] at h; exact h, (unhide R5).2⟩
          · skip
            have hcv := conv_own (P := Try.prog) 143 9 5 Try.underlying143 Try.underlying5 Try.underlying9 (unhide OBv13).1
            go_simp
            have hbX := unhide HBv13
            refine hK.out _ _ ?_ (fun hHeld => ?_)
            · exact ⟨(hbX.cell (p := ⟨w.heap.size + 1, 0, none⟩) hx2).trans F0w, (hbX.cell (p := ⟨w.heap.size + 1, 1, none⟩) hx2).trans F1w⟩
            clear hK K hbX hcv
            (try simp only [Act.put, List.getElem_toArray, List.getElem_cons_succ, List.getElem_cons_zero, List.setIfInBounds_toArray, List.set_cons_zero, List.set_cons_succ])
            refine wpAnyH_ready (rs := [3]) (by kernel_rfl) (by simp) ?_
            refine AllReadyH.cons (o := _) rfl (fun K hK => ?_) AllReadyH.nil
            go_simp
            refine (four_own tm2 v13 (by omega) (by omega)).mono ?_
            rintro e v22 ⟨gv22, rfl, hOw, hb⟩
            have hbX := (unhide HBv13).trans (hb.mono (by have := (unhide HBv13).size; omega))
            have HBv22 := hide hbX
            have HOv22 := hide ((unhide HOv13).below hb)
            have OAv22 := hide hOw
            clear hb hOw
            go_wp2_with fail
            refine hK.out _ _ ?_ (fun hHeld => ?_)
            · exact ⟨(hbX.cell (p := ⟨w.heap.size + 1, 0, none⟩) hx2).trans F0w, (hbX.cell (p := ⟨w.heap.size + 1, 1, none⟩) hx2).trans F1w⟩
            clear hK K hbX
            (try simp only [Act.put, List.getElem_toArray, List.getElem_cons_succ, List.getElem_cons_zero, List.setIfInBounds_toArray, List.set_cons_zero, List.set_cons_succ])
            refine wpAnyH_ready (rs := [4]) (by kernel_rfl) (by simp) ?_
            refine AllReadyH.cons (o := _) rfl (fun K hK => ?_) AllReadyH.nil
            have hcv := conv_own (P := Try.prog) 143 9 5 Try.underlying143 Try.underlying5 Try.underlying9 (unhide OAv22).1
            go_simp
            have hbX := unhide HBv22
            refine hK.out _ _ ?_ (fun hHeld => ?_)
            · exact ⟨(hbX.cell (p := ⟨w.heap.size + 1, 0, none⟩) hx2).trans F0w, (hbX.cell (p := ⟨w.heap.size + 1, 1, none⟩) hx2).trans F1w⟩
            clear hK K hbX hcv
            (try simp only [Act.put, List.getElem_toArray, List.getElem_cons_succ, List.getElem_cons_zero, List.setIfInBounds_toArray, List.set_cons_zero, List.set_cons_succ])
            refine wpAnyH_take (i := 5) (oi := _) (v := ?_) rfl (by kernel_rfl) (by kernel_rfl) (by kernel_rfl) (fun _ _ _ h => h) (Or.inl ⟨by rfl, ?_⟩) (by assumption) ?_
            rotate_left 1
            · (intro wq hSw; (try dsimp only at hSw); (try simp only [List.getElem_toArray, List.getElem_cons_succ, List.getElem_cons_zero]); go_simp; try with_reducible rfl)
            (try simp only [Act.put, List.getElem_toArray, List.getElem_cons_succ, List.getElem_cons_zero, List.setIfInBounds_toArray, List.set_cons_zero, List.set_cons_succ])
            refine wpAnyH_take (i := 12) (oi := _) (v := ?_) rfl (by kernel_rfl) (by kernel_rfl) (by kernel_rfl) (fun _ _ _ h => h) (Or.inl ⟨by rfl, ?_⟩) (by assumption) ?_
            rotate_left 1
            · (intro wq hSw; (try dsimp only at hSw); (try simp only [List.getElem_toArray, List.getElem_cons_succ, List.getElem_cons_zero]); go_simp; try with_reducible rfl)
            (try simp only [Act.put, List.getElem_toArray, List.getElem_cons_succ, List.getElem_cons_zero, List.setIfInBounds_toArray, List.set_cons_zero, List.set_cons_succ])
            refine wpAnyH_ready (rs := [13]) (by kernel_rfl) (by simp) ?_
            refine AllReadyH.cons (o := _) rfl (fun K hK => ?_) AllReadyH.nil
            go_simp
            have hbX := (unhide HBv22).alloc (show D ≤ v22.heap.size from (unhide HBv22).size |> fun h => by omega) (.cells #[.string (ByteArray.mk #[84] ++ strOfNums (encN tm2 4) ++ strOfNums [vo2 + 1])] 9)
            refine hK.out _ _ ?_ (fun hHeld => ?_)
            · exact ⟨(hbX.cell (p := ⟨w.heap.size + 1, 0, none⟩) hx2).trans F0w, (hbX.cell (p := ⟨w.heap.size + 1, 1, none⟩) hx2).trans F1w⟩
            clear hK K
            (try simp only [Act.put, List.getElem_toArray, List.getElem_cons_succ, List.getElem_cons_zero, List.setIfInBounds_toArray, List.set_cons_zero, List.set_cons_succ])
            refine wpAnyH_ready (rs := [14]) (by kernel_rfl) (by simp) ?_
            refine AllReadyH.cons (o := _) rfl (fun K hK => ?_) AllReadyH.nil
            refine step_append_lies _ rfl _ _ _ rfl D 9 i0 _ 1 16 Try.underlying59 hi hz0 hz1 hz2 rfl (by omega) (.slice (some ⟨w.heap.size + 1 + 1, 0, none⟩) 0 0) 0 [] rfl (World.ownsRow.alloc (unhide HOv22) _) ⟨v22.heap.size, 0, none⟩ 1 1 [.string (ByteArray.mk #[84] ++ strOfNums (encN tm2 4) ++ strOfNums [vo2 + 1])] rfl rfl (World.news_of_block (cs := #[.string (ByteArray.mk #[84] ++ strOfNums (encN tm2 4) ++ strOfNums [vo2 + 1])]) (t := 9) (fr := (0, 0)) (heap_alloc_new v22 _)) (by simp [Value.oneCell']) (by omega) (by unfold maxLen; omega) (by omega) (by have := (unhide HBv22).size; simp; omega) _ rfl ?_
            intro g5 cap5 w5 hown5 hgrow5 hat5 hlt5
            have R5 := hide (And.intro hown5 (hbX.grown hgrow5 (by have := (unhide HBv22).size; simp; omega) (fun r hr => (World.ownsRow.lt (unhide HOv22) r hr).1)))
            clear hown5 hgrow5 hat5 hlt5 hbX
            have hbX := (unhide R5).2
            refine hK.out _ _ ?_ (fun hHeld => ?_)
            · exact ⟨(hbX.cell (p := ⟨w.heap.size + 1, 0, none⟩) hx2).trans F0w, (hbX.cell (p := ⟨w.heap.size + 1, 1, none⟩) hx2).trans F1w⟩
            clear hK K
            (try simp only [Act.put, List.getElem_toArray, List.getElem_cons_succ, List.getElem_cons_zero, List.setIfInBounds_toArray, List.set_cons_zero, List.set_cons_succ])
            refine wpAnyH_take (i := 15) (oi := _) (v := ?_) rfl (by kernel_rfl) (by kernel_rfl) (by kernel_rfl) (fun _ _ _ h => h) (Or.inl ⟨by rfl, ?_⟩) (by assumption) ?_
            rotate_left 1
            · (intro wq hSw; (try dsimp only at hSw); (try simp only [List.getElem_toArray, List.getElem_cons_succ, List.getElem_cons_zero]); go_simp; try with_reducible rfl)
            (try simp only [Act.put, List.getElem_toArray, List.getElem_cons_succ, List.getElem_cons_zero, List.setIfInBounds_toArray, List.set_cons_zero, List.set_cons_succ])
            refine wpAnyH_done (by kernel_rfl) (NoPanic.normal ?_) _
            go_wp2_with fail
            go_meet
            rw [unhide HT]
            exact ⟨some ⟨g5, 0, none⟩, cap5, rfl, by have h := (unhide R5).1; rw [unhide HTX] at h; exact h, (unhide R5).2⟩
--END3
    case rest =>
      obtain ⟨a5, c5, rfl, hO5, hb5⟩ := hcut
      obtain ⟨wd, hwd⟩ : ∃ wd, wd = wc := ⟨_, rfl⟩
      subst hwd
      have HO := hide hO5
      have HB := hide hb5
      have hlT := unhide HlT
      have HF2w := hide (((unhide HBd).cell (p := ⟨w.heap.size + 1, 2, none⟩) hx2).symm.trans (unhide F2))
      have HE2w := hide (((unhide HBd).cell (p := ⟨w.heap.size, 2, none⟩) (show w.heap.size < D by omega)).symm.trans (unhide E2))
      have hlM : (RT.map (fun r => strOfNums (recT r))).length ≤ 1 := by simpa using hlT
      clear hO5 hb5 HT1 HT0 HlT hlT e0 e1 f0 f1 F0 F1 F2 E2 HO0
      obtain ⟨LT, hLT⟩ : ∃ LT, LT = RT.map (fun r => strOfNums (recT r)) := ⟨_, rfl⟩
      rw [← hLT] at HO hlM ⊢
      have HLT := hide hLT
      clear hLT
      have HW := hide (show Below w.heap.size w wd from (unhide HBW0).trans ((unhide HB).mono hww))
      go_wp2_with fail
      go_loopw [6] (fun i wr => ∃ k n : Nat, k ≤ x.length ∧ k ≤ y.length ∧ i = .int .i64 k ∧ Hid (enTo x y k) ∧ wr = wd.drewN n) (fun i _ => x.length - (intOf i).toNat)
      case atStart => exact ⟨0, 0, Nat.zero_le _, Nat.zero_le _, rfl, fun i hi => absurd hi (Nat.not_lt_zero _), rfl⟩
      case round =>
        obtain ⟨k, n, hkx, hky, rfl, HE, hwr⟩ := hrel
        have hbn : Below wd.heap.size wd wr := by rw [hwr]; exact below_drewN (Below.refl _ _) n
        have HBr := hide (show Below D w0 wr by rw [hwr]; exact below_drewN (unhide HB) n)
        have HWr := hide (show Below w.heap.size w wr by rw [hwr]; exact below_drewN (unhide HW) n)
        have HWN := hide hwr
        have HOr := hide ((unhide HO).below hbn)
        clear hbn hwr
        have e2 := ((unhide HBr).cell (p := ⟨w.heap.size, 2, none⟩) (show w.heap.size < D by omega)).trans (unhide HE2w)
        have f2 := ((unhide HBr).cell (p := ⟨w.heap.size + 1, 2, none⟩) hx2).trans (unhide HF2w)
        go_upto_region 5 with fail
        go_cut [60] (fun s wx => s = .bool (eqK x y k) ∧ ∃ m, wx = wr.drewN m)
        case first =>
          by_cases h1 : k < x.length
          case neg =>
            have hq : Hid (eqK x y k = false) := hide (by simp [eqK, h1])
            have h1i : ¬ (k : Int) < (x.length : Int) := by omega
            go_quiet (fail)
            go_wp2_with fail
            go_meet
            exact ⟨by rw [unhide hq], _, rfl⟩
          by_cases h2 : k < y.length
          case neg =>
            have hq : Hid (eqK x y k = false) := hide (by simp [eqK, h2])
            have h1i : (k : Int) < (x.length : Int) := by omega
            have h2i : ¬ (k : Int) < (y.length : Int) := by omega
            go_quiet (fail)
            go_wp2_with fail
            go_meet
            exact ⟨by rw [unhide hq], _, rfl⟩
          have hq : Hid (eqK x y k = enEq (x.getD k default) (y.getD k default)) := hide (by simp [eqK, h1, h2])
          obtain ⟨b3, off3, rfl, _, s0, s1, s2⟩ := (unhide HX wr (unhide HWr)).termR k h1
          obtain ⟨b4, off4, rfl, _, t0, t1, t2⟩ := (unhide HY wr (unhide HWr)).termR k h2
          generalize x.getD k default = f at *
          generalize y.getD k default = g at *
          obtain ⟨ft, fk, fd⟩ := f
          obtain ⟨gt, gk, gd⟩ := g
          dsimp only at s0 s1 s2 t0 t1 t2
          have q1 := fun wx => eql_ent wx ft gt fk gk fd gd
          have q3 : Try.prog.eqGuardType Try.prog.depth 102 = false := by kernel_rfl
          have h0i : (0 : Int) ≤ (k : Int) := by omega
          have h1i : (k : Int) < (x.length : Int) := by omega
          have h2i : (k : Int) < (y.length : Int) := by omega
          cases he : enEq ⟨ft, fk, fd⟩ ⟨gt, gk, gd⟩
          all_goals
            go_quiet (fail)
            go_wp2_with fail
            go_meet
            exact ⟨by rw [unhide hq, he], _, rfl⟩
        case rest =>
          obtain ⟨rfl, m, hm⟩ := hcut
          cases hqk : eqK x y k
          case true =>
            have h3 := eqK_true hqk
            clear hqk
            have E2 := hide (enTo.next (unhide HE) h3.2.2)
            have h31 := h3.1
            have h32 := h3.2.1
            have HWN2 := hide (show wc = wd.drewN (n + m) by rw [hm, unhide HWN]; exact drewN_twoQ _ _ _)
            clear h3 hm e2 f2
            go_wp2_with fail
            refine ⟨⟨k + 1, n + m, by omega, by omega, by go_num, E2, unhide HWN2⟩, ?_⟩
            simp [intOf]; omega
          have hsame := unhide HSA k (unhide HE) hkx hky (eqK_false hkx hky hqk)
          clear hqk HE
          have hbm : Below wr.heap.size wr wc := by rw [hm]; exact below_drewN (Below.refl _ _) m
          have hrs := (unhide HBr).size
          have HBc := hide ((unhide HBr).trans (hbm.mono (by omega)))
          have HWc := hide ((unhide HWr).trans (hbm.mono (unhide HWr).size))
          have HOc := hide ((unhide HOr).below hbm)
          rw [hsame] at HCd HPd
          clear hbm hm HBr HWr HOr HWN HO HB HW HSA hsame HLe e2 f2
          obtain ⟨we, hwe⟩ : ∃ we, we = wc := ⟨_, rfl⟩
          subst hwe
          have hes := (unhide HBc).size
          have e2 := ((unhide HBc).cell (p := ⟨w.heap.size, 2, none⟩) (show w.heap.size < D by omega)).trans (unhide HE2w)
          go_upto_if 67 with fail
          go_cut [5] (fun s wx => ∃ a7 n7 c7, s = .slice a7 n7 c7 ∧ n7 ≤ 2 ∧ wx.ownsRow D 9 1 (.slice a7 n7 c7) n7 ((LT ++ RC.map (fun r => strOfNums (recT r))).map Value.string) ∧ Below D w0 wx)
          case first =>
            by_cases hk : k < x.length
            · have HC1 : Hid (RC = [.C k]) := hide (by rw [unhide HCd, if_pos hk])
              have hs1 : (strOfNums (encN (k : Int) 4)).size = 4 := by simp [strOfNums, ByteArray.size, encN]
              have HTX := hide (textC (k : Int))
              have hki : (k : Int) < (x.length : Int) := by omega
              have HF := hide (four_own (k : Int) we (by omega) (by omega))
              go_wp2_with fail
              refine (unhide HF).mono ?_
              rintro e wf ⟨gf, rfl, hOf, hbf⟩
              have HBf := hide ((unhide HBc).trans (hbf.mono (by omega)))
              have hfs := (unhide HBf).size
              have HOf := hide ((unhide HOc).below hbf)
              have hcv := conv_own (P := Try.prog) 143 9 5 Try.underlying143 Try.underlying5 Try.underlying9 hOf.1
              clear hbf HF hOf e2
              go_wp2_with (at_builtin; refine wpList_append_lies _ rfl _ _ _ rfl D 9 i0 _ 1 16 Try.underlying59 hi hz0 hz1 hz2 rfl (by omega) (.slice a5 LT.length c5) LT.length _ rfl (World.ownsRow.alloc (unhide HOf) _) ⟨wf.heap.size, 0, none⟩ 1 1 [_] rfl rfl (World.news_of_block (cs := #[_]) (t := 9) (fr := (0, 0)) (heap_alloc_new wf _)) (by simp [Value.oneCell']) (by omega) (by unfold maxLen; omega) (by omega) (by simp; omega) _ rfl ?_; intro g5 cap5 w5 hown5 hgrow5 hat5 hlt5; have R5 := hide (And.intro hown5 (((unhide HBf).alloc (by omega) _).grown hgrow5 (by simp; omega) (fun r hr => (World.ownsRow.lt (unhide HOf) r hr).1))); clear hown5 hgrow5 hat5 hlt5)
              go_meet
              rw [unhide HC1]
              exact ⟨some ⟨g5, 0, none⟩, _, cap5, rfl, by omega, by have h := (unhide R5).1; rw [unhide HTX] at h; rw [List.map_append]; exact h, (unhide R5).2⟩
            · have HC0 : Hid (RC = []) := hide (by rw [unhide HCd, if_neg hk])
              have hki : ¬ (k : Int) < (x.length : Int) := by omega
              go_wp2_with fail
              go_meet
              rw [unhide HC0, List.map_nil, List.append_nil]
              exact ⟨_, _, _, rfl, by omega, unhide HOc, unhide HBc⟩
          case rest =>
            obtain ⟨a7, n7, c7, rfl, hn7, hO7, hb7⟩ := hcut
            obtain ⟨w7, hw7⟩ : ∃ w7, w7 = wc := ⟨_, rfl⟩
            subst hw7
            have h7s := hb7.size
            have HO7 := hide hO7
            have HB7 := hide hb7
            have HPe : Hid (RP.map (fun r => strOfNums (recT r)) = (LT ++ RC.map (fun r => strOfNums (recT r))) ++ ((y.drop k).map .E).map (fun r => strOfNums (recT r))) := hide (by rw [unhide HPd, unhide HLT]; simp)
            clear hO7 hb7 HOc HBc HWc HCd HPd HLT e2
            generalize LT ++ RC.map (fun r => strOfNums (recT r)) = LA at *
            go_wp2_with fail
            go_loopw [5, 7] (fun l i wr => ∃ (j : Nat) (a8 : Option Addr) (n8 c8 : Nat), k ≤ j ∧ j ≤ y.length ∧ i = .int .i64 j ∧ l = .slice a8 n8 c8 ∧ n8 = n7 + (j - k) ∧ Hid (wr.ownsRow D 9 1 (.slice a8 n8 c8) n8 ((LA ++ (((y.drop k).take (j - k)).map .E).map (fun r => strOfNums (recT r))).map Value.string)) ∧ Hid (Below D w0 wr)) (fun _ i _ => y.length - (intOf i).toNat)
            case atStart => exact ⟨k, _, _, _, Nat.le_refl _, hky, rfl, rfl, by omega, by rw [Nat.sub_self]; exact hide (by simpa using unhide HO7), unhide HB7⟩
            case round =>
              obtain ⟨j, a8, n8, c8, hkj, hj, rfl, rfl, hn8, HO8, HB8⟩ := hrel
              have hbs := (unhide HB8).size
              have HW8 := hide (show Below w.heap.size w wr from (unhide HBW0).trans ((unhide HB8).mono hww))
              have f2 := ((unhide HB8).cell (p := ⟨w.heap.size + 1, 2, none⟩) hx2).trans (unhide HF2w)
              by_cases hlt : j < y.length
              · obtain ⟨b3, off3, rfl, _, s0, s1, s2⟩ := (unhide HY wr (unhide HW8)).termR j hlt
                have HTj : Hid ((LA ++ (((y.drop k).take (j + 1 - k)).map .E).map (fun r => strOfNums (recT r))).map Value.string = (LA ++ (((y.drop k).take (j - k)).map .E).map (fun r => strOfNums (recT r))).map Value.string ++ [.string (strOfNums (recT (.E (y.getD j default))))]) := hide (by
                  rw [show j + 1 - k = (j - k) + 1 by omega, recsE_succ y k (j - k) (by omega), show k + (j - k) = j by omega]
                  simp)
                have hent := unhide HEG j hlt
                generalize y.getD j default = f at *
                obtain ⟨ft, fk, fd⟩ := f
                dsimp only at s0 s1 s2 hent
                obtain ⟨b1, b2, b3', b4, b5⟩ := entOK_bounds hent
                have hs1 := entS_len ft fk fd b5
                have HTX := hide (textE ft fk fd)
                have p0 : (0 : Int) ≤ (j : Int) := by omega
                have p1 : (j : Int) < (y.length : Int) := by omega
                have hq : n8 ≤ 100 := by omega
                have hn8h := hide hn8
                have HF := hide (l02EntryBytes_any ft fk fd wr (by omega) (by omega) (by omega) (by omega) (by omega))
                clear hn8 hent
                go_wp2_with fail
                refine (unhide HF).mono ?_
                rintro e wf ⟨vf, rfl, hOf, hbf⟩
                have HBf := hide ((unhide HB8).trans (hbf.mono (by omega)))
                have hfs := (unhide HBf).size
                have HOf := hide (own_kept (T := fun _ => False) (unhide HO8) (Touch.ofBelow hbf) (fun _ _ h => h))
                have hcv := conv_own (P := Try.prog) 143 9 5 Try.underlying143 Try.underlying5 Try.underlying9 hOf.1
                have hss : ¬ 9223372036854775807 < 1 + (strOfNums (entBytes ft fk fd)).size := by omega
                clear hbf HF hOf HO8 HB8 s0 s1 s2 f2 hs1
                go_wp2_with (at_builtin; refine wpList_append_lies _ rfl _ _ _ rfl D 9 i0 _ 1 16 Try.underlying59 hi hz0 hz1 hz2 rfl (by omega) (.slice a8 n8 c8) n8 _ rfl (World.ownsRow.alloc (unhide HOf) _) ⟨wf.heap.size, 0, none⟩ 1 1 [_] rfl rfl (World.news_of_block (cs := #[_]) (t := 9) (fr := (0, 0)) (heap_alloc_new wf _)) (by simp [Value.oneCell']) (by omega) (by unfold maxLen; omega) (by omega) (by simp; omega) _ rfl ?_; intro g5 cap5 w5 hown5 hgrow5 hat5 hlt5; have R5 := hide (And.intro hown5 (((unhide HBf).alloc (by omega) _).grown hgrow5 (by simp; omega) (fun r hr => (World.ownsRow.lt (unhide HOf) r hr).1))); clear hown5 hgrow5 hat5 hlt5)
                refine ⟨⟨j + 1, some ⟨g5, 0, none⟩, n8 + 1, cap5, by omega, by omega, by go_num, rfl, by have := unhide hn8h; omega, ?_, (unhide R5).2⟩, ?_⟩
                · rw [unhide HTj, ← unhide HTX]; exact hide (unhide R5).1
                · simp [intOf]; omega
              · obtain rfl : j = y.length := by omega
                have HO9 := hide (World.ownsRow.mono (unhide HO8) hww)
                rw [List.take_of_length_le (by rw [List.length_drop]; omega), ← unhide HPe] at HO9
                have e8 : n8 = (RP.map (fun r => strOfNums (recT r))).length := by
                  have h := (unhide HO9).1
                  simpa using h.symm
                clear HO8 HB8 hn8
                go_wp2_with fail
                go_ret
                exact ⟨_, rfl, by have h := unhide HO9; rw [e8] at h; rw [e8]; exact h, unhide HW8⟩
set_option maxRecDepth 100000 in
set_option maxHeartbeats 1000000 in
theorem specStateRecords_any (tm vo tm2 vo2 : Int) (a a2 : Option Addr) (c c2 : Nat) (x y : List En) (w : World) (hx : Ens w (.slice a x.length c) x) (hy : Ens w (.slice a2 y.length c2) y) (hdx : ∀ i, (x.getD i default).d.size ≤ 1048576) (hdy : ∀ i, (y.getD i default).d.size ≤ 1048576) :
    Calls Try.prog 30 #[.agg #[.int .i64 tm, .int .i64 vo, .slice a x.length c], .agg #[.int .i64 tm2, .int .i64 vo2, .slice a2 y.length c2]] w fun e w' => ∃ v, e = .returned (.tuple #[v, .int .i64 (srOut (stateB tm vo x && stateB tm2 vo2 y) (recsP tm vo x tm2 vo2 y)).2]) ∧ OwnS w.heap.size w' v (srOut (stateB tm vo x && stateB tm2 vo2 y) (recsP tm vo x tm2 vo2 y)).1 ∧ Below w.heap.size w w' := by
  have BB := ((Below.refl w.heap.size w).alloc (Nat.le_refl _) (.cells #[.int .i64 tm, .int .i64 vo, .slice a x.length c] 63)).alloc (by simp) (.cells #[.int .i64 tm2, .int .i64 vo2, .slice a2 y.length c2] 63)
  have B0 := hide BB
  have X1 := hide ((Blk.new w #[.int .i64 tm, .int .i64 vo, .slice a x.length c] 63 w.heap.size rfl).alloc (.cells #[.int .i64 tm2, .int .i64 vo2, .slice a2 y.length c2] 63))
  have X2 := hide (Blk.new (w.alloc (.cells #[.int .i64 tm, .int .i64 vo, .slice a x.length c] 63)) #[.int .i64 tm2, .int .i64 vo2, .slice a2 y.length c2] 63 (w.heap.size + 1) (by simp))
  have H1 := hide (fun wx (h : Below w.heap.size w wx) => specStateOK_any tm vo _ x wx (hx.below h) hdx)
  have H2 := hide (fun wx (h : Below w.heap.size w wx) => specStateOK_any tm2 vo2 _ y wx (hy.below h) hdy)
  have HR := hide (fun (g1 : stateB tm vo x = true) (g2 : stateB tm2 vo2 y = true) wx (h : Below w.heap.size w wx) => l05Records_any tm vo tm2 vo2 a a2 c c2 x y wx (hx.below h) (hy.below h) g1 g2 hdy)
  have HU : Hid (∀ ok l, srOut ok l = if ok then (l.map (fun r => strOfNums (recT r)), 0) else ([], 1)) := hide (fun _ _ => rfl)
  clear hx hy hdx hdy BB
  generalize recsP tm vo x tm2 vo2 y = RP at *
  generalize stateB tm vo x = s1 at *
  generalize stateB tm2 vo2 y = s2 at *
  have HE0 : Hid (∀ wx : World, Below w.heap.size w wx → OwnS w.heap.size (wx.alloc (.cells #[] 9)) (.slice (some ⟨wx.heap.size, 0, none⟩) 0 0) []) := hide (fun wx h => World.ownsRow_made wx #[] 0 h.size (by unfold maxLen; omega) rfl)
  go_enter Try.func30, Try.ntmps30
  have e0 := (unhide X1).cell 0 rfl
  have e1 := (unhide X1).cell 1 rfl
  have e2 := (unhide X1).cell 2 rfl
  go_wp2_with fail
  generalize (w.alloc (.cells #[.int .i64 tm, .int .i64 vo, .slice a x.length c] 63)).alloc (.cells #[.int .i64 tm2, .int .i64 vo2, .slice a2 y.length c2] 63) = w0 at *
  refine (unhide H1 w0 (unhide B0)).mono ?_
  rintro e w1 ⟨rfl, hb⟩
  have B1 := hide ((unhide B0).trans (hb.mono (unhide B0).size))
  have Y1 := hide ((unhide X1).below hb)
  have Y2 := hide ((unhide X2).below hb)
  clear hb B0 X1 X2 H1 e0 e1 e2
  cases s1
  · have HF := hide (And.intro (unhide HE0 w1 (unhide B1)) ((unhide B1).alloc (unhide B1).size (.cells #[] 9)))
    go_wp2_with fail
    go_ret2
    exact ⟨_, by rw [unhide HU]; rfl, by rw [unhide HU]; exact (unhide HF).1, (unhide HF).2⟩
  have f0 := (unhide Y2).cell 0 rfl
  have f1 := (unhide Y2).cell 1 rfl
  have f2 := (unhide Y2).cell 2 rfl
  go_wp2_with fail
  refine (unhide H2 w1 (unhide B1)).mono ?_
  rintro e w2 ⟨rfl, hb⟩
  have B2 := hide ((unhide B1).trans (hb.mono (unhide B1).size))
  have Z1 := (unhide Y1).below hb
  have Z2 := (unhide Y2).below hb
  clear hb B1 Y1 Y2 H2 f0 f1 f2
  cases s2
  · have HF := hide (And.intro (unhide HE0 w2 (unhide B2)) ((unhide B2).alloc (unhide B2).size (.cells #[] 9)))
    go_wp2_with fail
    go_ret2
    exact ⟨_, by rw [unhide HU]; rfl, by rw [unhide HU]; exact (unhide HF).1, (unhide HF).2⟩
  have e0 := Z1.cell 0 rfl
  have e1 := Z1.cell 1 rfl
  have e2 := Z1.cell 2 rfl
  have f0 := Z2.cell 0 rfl
  have f1 := Z2.cell 1 rfl
  have f2 := Z2.cell 2 rfl
  clear Z1 Z2
  have HRr := hide (unhide HR (by first | trivial | rfl) (by first | trivial | rfl) w2 (unhide B2))
  have hk2 := (unhide B2).size
  clear HR
  go_wp2_with fail
  refine (unhide HRr).mono ?_
  rintro e w3 ⟨v3, rfl, hO3, hb⟩
  have B3 := hide ((unhide B2).trans (hb.mono hk2))
  have HO3 := hide (World.ownsRow.mono hO3 hk2)
  clear hb hO3 B2 HRr e0 e1 e2 f0 f1 f2
  go_wp2_with fail
  go_ret2
  exact ⟨_, by rw [unhide HU]; rfl, by rw [unhide HU]; exact unhide HO3, unhide B3⟩
end Go.Proofs.Ytafbdjcoimopfaa
