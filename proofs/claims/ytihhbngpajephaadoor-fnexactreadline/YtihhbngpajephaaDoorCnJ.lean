/- A console's line: put and add: a reader whose region draws. (Written by py/cnh.py.) -/
import Derived.Test.YtihhbngpajephaaDoorCnH
import Derived.Test.YtihhbngpajephaaDoorTk
namespace Go.Proofs.YtihhbngpajephaaDoor.Sha
open Go.ChangeShapes Go.WideShapes Go.ChangeAt Go.RowKit
set_option linter.unusedVariables false
set_option linter.unusedSimpArgs false

def chgO (k : Int) (l : List ByteArray) : Option Rq := if l.length = 5 then (if ((numT (l.getD 1 ByteArray.empty)).2 && (numT (l.getD 2 ByteArray.empty)).2) = true then doO k ((numT (l.getD 1 ByteArray.empty)).1) ((numT (l.getD 2 ByteArray.empty)).1) (l.getD 3 ByteArray.empty) (l.getD 4 ByteArray.empty) else none) else none
set_option maxRecDepth 100000 in
set_option maxHeartbeats 8000000 in
theorem chg_any (b off cap : Nat) (k : Int) (l : List ByteArray) (w : World) (h0 : 0 < l.length) (hW : Wds w b off l) (hC : Cns w) :
    Calls Tryd.prog 33 #[.slice (some ⟨b, off, none⟩) l.length cap, .int .i64 k] w fun e w' => RqA (chgO k l) w e w' := by
  have hm : l.length ≤ 9223372036854775807 := by have := hW.lm; unfold maxLen at this; omega
  have HO := hide (show chgO k l = if l.length = 5 then (if ((numT (l.getD 1 ByteArray.empty)).2 && (numT (l.getD 2 ByteArray.empty)).2) = true then doO k ((numT (l.getD 1 ByteArray.empty)).1) ((numT (l.getD 2 ByteArray.empty)).1) (l.getD 3 ByteArray.empty) (l.getD 4 ByteArray.empty) else none) else none from rfl)
  have HM1 := hide (fun wx => mustBe_ok (some ⟨b, off, none⟩) l.length cap wx hm)
  have HM2 := hide (fun (hne : (l.length : Int) ≠ 5) wx => mustBe_no (some ⟨b, off, none⟩) l.length cap 5 wx hm hne)
  have HN0 := hide (fun (hi : 1 < l.length) wx (hx : Below w.heap.size w wx) => number_any b off cap l 1 wx hi hW.lm (hW.below hx).lb ((hW.below hx).lc 1 hi) (hW.lz 1) (hC.below hx))
  have HN1 := hide (fun (hi : 2 < l.length) wx (hx : Below w.heap.size w wx) => number_any b off cap l 2 wx hi hW.lm (hW.below hx).lb ((hW.below hx).lc 2 hi) (hW.lz 2) (hC.below hx))
  have HT0 := hide (fun (hi : 3 < l.length) => hW.lc 3 hi)
  have HT1 := hide (fun (hi : 4 < l.length) => hW.lc 4 hi)
  have HD := hide (fun wx => doing_any k ((numT (l.getD 1 ByteArray.empty)).1) ((numT (l.getD 2 ByteArray.empty)).1) (l.getD 3 ByteArray.empty) (l.getD 4 ByteArray.empty) wx (by have := hW.lz 3; unfold maxLen; omega) (by have := hW.lz 4; unfold maxLen; omega))
  have hb0 := hW.lb
  clear hW hC h0
  generalize chgO k l = ro at *
  have HP0 := hide (fun wx e w' (h : NumE (l.getD 1 ByteArray.empty) wx e w') hb => h.yes hb)
  have HQ0 := hide (fun wx e w' (h : NumE (l.getD 1 ByteArray.empty) wx e w') hb => h.no hb)
  have HP1 := hide (fun wx e w' (h : NumE (l.getD 2 ByteArray.empty) wx e w') hb => h.yes hb)
  have HQ1 := hide (fun wx e w' (h : NumE (l.getD 2 ByteArray.empty) wx e w') hb => h.no hb)
  generalize l.getD 1 ByteArray.empty = t1 at *
  generalize l.getD 2 ByteArray.empty = t2 at *
  generalize l.getD 3 ByteArray.empty = t3 at *
  generalize l.getD 4 ByteArray.empty = t4 at *
  generalize numT t1 = n1 at *
  obtain ⟨v1, y1⟩ := n1
  generalize numT t2 = n2 at *
  obtain ⟨v2, y2⟩ := n2
  dsimp only at HO HD HP0 HQ0 HP1 HQ1
  have B0 := hide ((Below.refl w.heap.size w).alloc (Nat.le_refl _) (.cells #[.string ⟨#[]⟩, .string ⟨#[]⟩, .int .i64 0, .int .i64 0, .int .i64 0, .string ⟨#[]⟩, .string ⟨#[]⟩] 33))
  have R0 := hide (Blk.new w #[.string ⟨#[]⟩, .string ⟨#[]⟩, .int .i64 0, .int .i64 0, .int .i64 0, .string ⟨#[]⟩, .string ⟨#[]⟩] 33 w.heap.size rfl)
  go_enter Tryd.func33, Tryd.ntmps33
  go_upto_region 1 with fail
  generalize w.alloc (.cells #[.string ⟨#[]⟩, .string ⟨#[]⟩, .int .i64 0, .int .i64 0, .int .i64 0, .string ⟨#[]⟩, .string ⟨#[]⟩] 33) = w0 at *
  by_cases hn : l.length = 5
  · have E := hide ((unhide HO).trans (if_pos hn))
    rw [hn] at HM1
    have M0 := hide (fun wx (hx : Below w0.heap.size w0 wx) => unhide HN0 (by omega) wx ((unhide B0).trans (hx.mono (unhide B0).size)))
    have M1 := hide (fun wx (hx : Below w0.heap.size w0 wx) => unhide HN1 (by omega) wx ((unhide B0).trans (hx.mono (unhide B0).size)))
    have hc3 := ((unhide B0).cell (p := ⟨b, off + 3, none⟩) hb0).trans (unhide HT0 (by omega))
    have hc4 := ((unhide B0).cell (p := ⟨b, off + 4, none⟩) hb0).trans (unhide HT1 (by omega))
    have hbl : b < w0.heap.size := Nat.lt_of_lt_of_le hb0 (unhide B0).size
    have hne : ¬ w.heap.size = b := by omega
    clear HO HM2 HN0 HN1 HT0 HT1 hb0
    rw [hn] at M0 M1 ⊢
    go_wp2_with fail
    refine (unhide HM1 _).mono ?_
    rintro e w9 ⟨⟨u, rfl⟩, hw9⟩
    subst w9
    clear HM1
    go_upto_region 2 with fail
    have K0 := hide (below_drewN (Below.refl w0.heap.size w0) 1)
    generalize doO k (v1) (v2) t3 t4 = rd at *
    refine wp_region_held_drew (S := (fun wx => wx.cell? ⟨b, off + 3, none⟩ = some (.string t3) ∧ wx.cell? ⟨b, off + 4, none⟩ = some (.string t4))) (by kernel_rfl) ?_ (fun hHeld => ?_)
    · exact ⟨hc3, hc4⟩
    refine tkH 0 rfl ?_
    refine tkH 1 rfl ?_
    refine tkH 3 rfl ?_
    refine tkH 5 rfl ?_
    refine tkH 6 rfl ?_
    refine tkH 7 rfl ?_
    refine tkH 8 rfl ?_
    refine tkH 9 rfl ?_
    refine tkH 10 rfl ?_
    refine wpAnyH_ready (rs := [2]) (by kernel_rfl) (by simp) ?_
    refine AllReadyH.cons (o := _) rfl (fun K hK => ?_) AllReadyH.nil
    go_simp
    refine (unhide M0 _ (unhide K0)).mono ?_
    rintro e w1 h1
    have K1 := hide ((unhide K0).trans (h1.1.mono (unhide K0).size))
    cases hy0 : y1 with
    | false =>
      obtain ⟨_, rfl⟩ := unhide HQ0 _ _ _ h1 hy0
      have E9 : ro = none := (unhide E).trans (if_neg (by simp [hy0]))
      unfold flt
      (try go_wp2_with fail)
      exact ⟨rfl, RqA.no E9 rfl ((unhide B0).trans ((unhide K1).mono (unhide B0).size))⟩
    | true =>
    obtain ⟨_, rfl⟩ := unhide HP0 _ _ _ h1 hy0
    clear h1 M0 HP0 HQ0
    go_wp2_with fail
    refine hK.out _ _ ?_ (fun hHeld => ?_)
    · exact ⟨((unhide K1).cell (p := ⟨b, off + 3, none⟩) hbl).trans hc3, ((unhide K1).cell (p := ⟨b, off + 4, none⟩) hbl).trans hc4⟩
    clear hK K
    (try simp only [Act.put, List.getElem_toArray, List.getElem_cons_succ, List.getElem_cons_zero, List.setIfInBounds_toArray, List.set_cons_zero, List.set_cons_succ])
    refine wpAnyH_ready (rs := [4]) (by kernel_rfl) (by simp) ?_
    refine AllReadyH.cons (o := _) rfl (fun K hK => ?_) AllReadyH.nil
    go_simp
    refine (unhide M1 _ (unhide K1)).mono ?_
    rintro e w2 h2
    have K2 := hide ((unhide K1).trans (h2.1.mono (unhide K1).size))
    cases hy1 : y2 with
    | false =>
      obtain ⟨_, rfl⟩ := unhide HQ1 _ _ _ h2 hy1
      have E9 : ro = none := (unhide E).trans (if_neg (by simp [hy1]))
      unfold flt
      (try go_wp2_with fail)
      exact ⟨rfl, RqA.no E9 rfl ((unhide B0).trans ((unhide K2).mono (unhide B0).size))⟩
    | true =>
    obtain ⟨_, rfl⟩ := unhide HP1 _ _ _ h2 hy1
    clear h2 M1 HP1 HQ1
    go_wp2_with fail
    refine hK.out _ _ ?_ (fun hHeld => ?_)
    · exact ⟨((unhide K2).cell (p := ⟨b, off + 3, none⟩) hbl).trans hc3, ((unhide K2).cell (p := ⟨b, off + 4, none⟩) hbl).trans hc4⟩
    clear hK K
    (try simp only [Act.put, List.getElem_toArray, List.getElem_cons_succ, List.getElem_cons_zero, List.setIfInBounds_toArray, List.set_cons_zero, List.set_cons_succ])
    refine tkH 11 rfl ?_
    refine wpAnyH_ready (rs := [12]) (by kernel_rfl) (by simp) ?_
    refine AllReadyH.cons (o := _) rfl (fun K hK => ?_) AllReadyH.nil
    go_simp
    refine (unhide HD _).mono ?_
    rintro e w3 h3
    have K3 := hide ((unhide K2).trans (h3.1.mono (unhide K2).size))
    replace E := hide ((unhide E).trans (if_pos (by simp [hy0, hy1])))
    cases rd with
    | none =>
      obtain ⟨_, rfl⟩ := h3.raised
      unfold flt
      (try go_wp2_with fail)
      exact ⟨rfl, RqA.no (unhide E) rfl ((unhide B0).trans ((unhide K3).mono (unhide B0).size))⟩
    | some r =>
    obtain ⟨_, rfl⟩ := h3.got
    obtain ⟨f0, f1, f2, f3, f4, f5, f6⟩ := r
    dsimp only [rqV]
    clear h3
    go_wp2_with fail
    refine hK.out _ _ ?_ (fun hHeld => ?_)
    · exact ⟨((unhide K3).cell (p := ⟨b, off + 3, none⟩) hbl).trans hc3, ((unhide K3).cell (p := ⟨b, off + 4, none⟩) hbl).trans hc4⟩
    clear hK K
    (try simp only [Act.put, List.getElem_toArray, List.getElem_cons_succ, List.getElem_cons_zero, List.setIfInBounds_toArray, List.set_cons_zero, List.set_cons_succ])
    obtain ⟨⟨x0, x1, x2, x3, x4, x5, x6⟩, g0, g1, g2, g3, g4, g5, g6⟩ := Blk.c7 ((unhide R0).below (unhide K3))
    have HY := hide (rq_set ((unhide R0).below (unhide K3)) f0 f1 f2 f3 f4 f5 f6)
    have HK := hide (rq_belowB w.heap.size (Nat.le_refl _) ((unhide B0).trans ((unhide K3).mono (unhide B0).size)) f0 f1 f2 f3 f4 f5 f6)
    refine wpAnyH_ready (rs := [13]) (by kernel_rfl) (by simp) ?_
    refine AllReadyH.cons (o := _) rfl (fun K hK => ?_) AllReadyH.nil
    go_simp
    refine hK.out _ _ ?_ (fun hHeld => ?_)
    · have hT := (((((((Touch.refl (fun x => x = w.heap.size) w3).setCell ⟨w.heap.size, 0, none⟩ (.string f0) (fun _ => rfl)).setCell ⟨w.heap.size, 1, none⟩ (.string f1) (fun _ => rfl)).setCell ⟨w.heap.size, 2, none⟩ (.int .i64 f2) (fun _ => rfl)).setCell ⟨w.heap.size, 3, none⟩ (.int .i64 f3) (fun _ => rfl)).setCell ⟨w.heap.size, 4, none⟩ (.int .i64 f4) (fun _ => rfl)).setCell ⟨w.heap.size, 5, none⟩ (.string f5) (fun _ => rfl)).setCell ⟨w.heap.size, 6, none⟩ (.string f6) (fun _ => rfl)
      have hb3 : b < w3.heap.size := Nat.lt_of_lt_of_le hbl (unhide K3).size
      exact ⟨(hT.cell (p := ⟨b, off + 3, none⟩) hb3 (fun e => hne e.symm)).trans (((unhide K3).cell (p := ⟨b, off + 3, none⟩) hbl).trans hc3), (hT.cell (p := ⟨b, off + 4, none⟩) hb3 (fun e => hne e.symm)).trans (((unhide K3).cell (p := ⟨b, off + 4, none⟩) hbl).trans hc4)⟩
    clear hK K
    (try simp only [Act.put, List.getElem_toArray, List.getElem_cons_succ, List.getElem_cons_zero, List.setIfInBounds_toArray, List.set_cons_zero, List.set_cons_succ])
    refine wpAnyH_done (by kernel_rfl) ?_ _
    clear x0 x1 x2 x3 x4 x5 x6 g0 g1 g2 g3 g4 g5 g6
    go_wp2_with fail
    obtain ⟨⟨z0, z1, z2, z3, z4, z5, z6⟩, _⟩ := Blk.c7 (unhide HY)
    refine bodyPost_ret (v := rqV ⟨f0, f1, f2, f3, f4, f5, f6⟩) (by simp [results, rqV, Tryd.results33, go_sem, z0, z1, z2, z3, z4, z5, z6]) rfl ?_
    exact RqA.yes (unhide E) rfl (unhide HK)
  · have E := hide ((unhide HO).trans (if_neg hn))
    have HM := hide (unhide HM2 (by omega))
    clear HO HM1 HM2 R0 HN0 HP0 HQ0 HN1 HP1 HQ1 HD
    go_wp2_with fail
    refine (unhide HM _).mono ?_
    rintro e w9 ⟨rfl, hw9⟩
    subst w9
    unfold flt
    go_wp2_with fail
    exact ⟨rfl, RqA.no (unhide E) rfl (unhide B0)⟩
end Go.Proofs.YtihhbngpajephaaDoor.Sha
