/- A console's line: a word that is asked for. (Written by py/cnl.py.) -/
import Derived.Test.YtihhbngpajephaaDoorCnH
import Derived.Test.YtihhbngpajephaaDoorTk
namespace Go.Proofs.YtihhbngpajephaaDoor.Sha
open Go.ChangeShapes Go.WideShapes Go.ChangeAt Go.RowKit
set_option linter.unusedVariables false
set_option linter.unusedSimpArgs false

/-- A word and the one behind it. -/
def wwO (l : List ByteArray) : Option Rq := if l.length = 2 then some ⟨l.getD 0 ByteArray.empty, l.getD 1 ByteArray.empty, 0, 0, 0, ⟨#[]⟩, ⟨#[]⟩⟩ else none
set_option maxRecDepth 100000 in
set_option maxHeartbeats 4000000 in
theorem ww_any (b off cap : Nat) (l : List ByteArray) (w : World) (h0 : 0 < l.length) (hW : Wds w b off l) :
    Calls Tryd.prog 27 #[.slice (some ⟨b, off, none⟩) l.length cap] w fun e w' => RqA (wwO l) w e w' := by
  have hm : l.length ≤ 9223372036854775807 := by have := hW.lm; unfold maxLen at this; omega
  have HO := hide (show wwO l = if l.length = 2 then some ⟨l.getD 0 ByteArray.empty, l.getD 1 ByteArray.empty, 0, 0, 0, ⟨#[]⟩, ⟨#[]⟩⟩ else none from rfl)
  have HM1 := hide (fun wx => mustBe_ok (some ⟨b, off, none⟩) l.length cap wx hm)
  have HM2 := hide (fun (hne : (l.length : Int) ≠ 2) wx => mustBe_no (some ⟨b, off, none⟩) l.length cap 2 wx hm hne)
  have hb0 := hW.lb
  have HT0 := hide (fun (hi : 0 < l.length) => hW.lc 0 hi)
  have HT1 := hide (fun (hi : 1 < l.length) => hW.lc 1 hi)
  clear hW h0
  generalize wwO l = ro at *
  generalize l.getD 0 ByteArray.empty = s at *
  generalize l.getD 1 ByteArray.empty = t at *
  have B0 := hide ((Below.refl w.heap.size w).alloc (Nat.le_refl _) (.cells #[.string ⟨#[]⟩, .string ⟨#[]⟩, .int .i64 0, .int .i64 0, .int .i64 0, .string ⟨#[]⟩, .string ⟨#[]⟩] 33))
  have R0 := hide (Blk.new w #[.string ⟨#[]⟩, .string ⟨#[]⟩, .int .i64 0, .int .i64 0, .int .i64 0, .string ⟨#[]⟩, .string ⟨#[]⟩] 33 w.heap.size rfl)
  go_enter Tryd.func27, Tryd.ntmps27
  go_upto_region 1 with fail
  generalize w.alloc (.cells #[.string ⟨#[]⟩, .string ⟨#[]⟩, .int .i64 0, .int .i64 0, .int .i64 0, .string ⟨#[]⟩, .string ⟨#[]⟩] 33) = w0 at *
  by_cases hn : l.length = 2
  · have E := hide ((unhide HO).trans (if_pos hn))
    rw [hn] at HM1
    have hc0 := ((unhide B0).cell (p := ⟨b, off + 0, none⟩) hb0).trans (unhide HT0 (by omega))
    have hc1 := ((unhide B0).cell (p := ⟨b, off + 1, none⟩) hb0).trans (unhide HT1 (by omega))
    rw [Nat.add_zero] at hc0
    have hbl : b < w0.heap.size := Nat.lt_of_lt_of_le hb0 (unhide B0).size
    have hne : ¬ w.heap.size = b := by omega
    clear HO HM2 HT0 HT1 hb0
    rw [hn]
    go_wp2_with fail
    refine (unhide HM1 _).mono ?_
    rintro e w9 ⟨⟨u, rfl⟩, hw9⟩
    subst w9
    clear HM1
    go_upto_region 2 with fail
    have K0 : Below w0.heap.size w0 w0.drew := below_drewN (Below.refl w0.heap.size w0) 1
    have d0 := (K0.cell (p := ⟨b, off, none⟩) hbl).trans hc0
    have d1 := (K0.cell (p := ⟨b, off + 1, none⟩) hbl).trans hc1
    have RD := hide ((unhide R0).below K0)
    have BD := hide ((unhide B0).trans (K0.mono (unhide B0).size))
    have hbd : b < w0.drew.heap.size := Nat.lt_of_lt_of_le hbl K0.size
    clear R0 B0 K0 hc0 hc1 hbl
    refine wp_region_held_drew (S := (fun wx => wx.cell? ⟨b, off, none⟩ = some (.string s) ∧ wx.cell? ⟨b, off + 1, none⟩ = some (.string t))) (by kernel_rfl) ?_ (fun hHeld => ?_)
    · exact ⟨d0, d1⟩
    generalize w0.drew = wd at *
    refine tkH 0 rfl ?_
    refine tkH 1 rfl ?_
    refine tkH 2 rfl ?_
    refine tkH 3 rfl ?_
    refine tkH 4 rfl ?_
    refine tkH 5 rfl ?_
    refine tkH 6 rfl ?_
    have HY := hide (rq_set (unhide RD) (s) (t) (0) (0) (0) (⟨#[]⟩) (⟨#[]⟩))
    have HK := hide (rq_belowB (w.heap.size) (by omega) (unhide BD) (s) (t) (0) (0) (0) (⟨#[]⟩) (⟨#[]⟩))
    obtain ⟨⟨x0, x1, x2, x3, x4, x5, x6⟩, g0, g1, g2, g3, g4, g5, g6⟩ := Blk.c7 (unhide RD)
    refine wpAnyH_ready (rs := [7]) (by kernel_rfl) (by simp) ?_
    refine AllReadyH.cons (o := _) rfl (fun K hK => ?_) AllReadyH.nil
    go_simp
    refine hK.out _ _ ?_ (fun hHeld => ?_)
    · have hT := (((((((Touch.refl (fun x => x = w.heap.size) wd).setCell ⟨w.heap.size, 0, none⟩ (.string s) (fun _ => rfl)).setCell ⟨w.heap.size, 1, none⟩ (.string t) (fun _ => rfl)).setCell ⟨w.heap.size, 2, none⟩ (.int .i64 0) (fun _ => rfl)).setCell ⟨w.heap.size, 3, none⟩ (.int .i64 0) (fun _ => rfl)).setCell ⟨w.heap.size, 4, none⟩ (.int .i64 0) (fun _ => rfl)).setCell ⟨w.heap.size, 5, none⟩ (.string ⟨#[]⟩) (fun _ => rfl)).setCell ⟨w.heap.size, 6, none⟩ (.string ⟨#[]⟩) (fun _ => rfl)
      exact ⟨(hT.cell (p := ⟨b, off, none⟩) hbd (fun e => hne e.symm)).trans d0, (hT.cell (p := ⟨b, off + 1, none⟩) hbd (fun e => hne e.symm)).trans d1⟩
    clear hK K
    (try simp only [Act.put, List.getElem_toArray, List.getElem_cons_succ, List.getElem_cons_zero, List.setIfInBounds_toArray, List.set_cons_zero, List.set_cons_succ])
    refine wpAnyH_done (by kernel_rfl) ?_ _
    clear x0 x1 x2 x3 x4 x5 x6 g0 g1 g2 g3 g4 g5 g6 hHeld
    go_wp2_with fail
    obtain ⟨⟨z0, z1, z2, z3, z4, z5, z6⟩, _⟩ := Blk.c7 (unhide HY)
    refine bodyPost_ret (v := rqV ⟨s, t, 0, 0, 0, ⟨#[]⟩, ⟨#[]⟩⟩) (by simp [results, rqV, Tryd.results27, go_sem, z0, z1, z2, z3, z4, z5, z6]) rfl ?_
    exact RqA.yes (unhide E) rfl (unhide HK)
  · have E := hide ((unhide HO).trans (if_neg hn))
    have HM := hide (unhide HM2 (by omega))
    clear HO HM1 HM2 R0 HT0 HT1
    go_wp2_with fail
    refine (unhide HM _).mono ?_
    rintro e w9 ⟨rfl, hw9⟩
    subst w9
    unfold flt
    go_wp2_with fail
    exact ⟨rfl, RqA.no (unhide E) rfl (unhide B0)⟩
end Go.Proofs.YtihhbngpajephaaDoor.Sha
