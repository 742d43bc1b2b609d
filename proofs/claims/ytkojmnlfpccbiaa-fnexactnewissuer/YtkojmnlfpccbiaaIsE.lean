/- (Statement).copied, (notary).issuer: what is handed out in memory of its own. (Written by py/ise.py.) -/
import Derived.Test.YtkojmnlfpccbiaaIsA
import Derived.Deep.Cut
namespace Go.Proofs.Ytkojmnlfpccbiaa
open Go.ChangeShapes Go.WideShapes Go.ChangeAt Go.RowKit Go.Deep
set_option linter.unusedVariables false
set_option linter.unusedSimpArgs false
set_option maxRecDepth 100000

set_option maxHeartbeats 2000000 in
theorem copied_any (z : Int) (lg mp : ByteArray) (w : World) (hl : lg.size ≤ 1048576) (hm : mp.size ≤ 1048576) :
    Calls Try.prog 30 #[.agg #[.int .i64 z, .string lg, .string mp]] w fun e w' => e = .returned (.agg #[.int .i64 z, .string lg, .string mp]) ∧ Below w.heap.size w w' := by
  have H1 := hide (fun wx => strClone_any lg wx hl)
  have H2 := hide (fun wx => strClone_any mp wx hm)
  have K0 := hide (((Below.refl w.heap.size w).alloc (Nat.le_refl _) (.cells #[.int .i64 z, .string lg, .string mp] 26)).alloc (by simp) (.cells #[.int .i64 0, .string ⟨#[]⟩, .string ⟨#[]⟩] 26))
  have X0 := hide ((Blk.new w #[.int .i64 z, .string lg, .string mp] 26 w.heap.size rfl).alloc (.cells #[.int .i64 0, .string ⟨#[]⟩, .string ⟨#[]⟩] 26))
  have R0 := hide (Blk.new (w.alloc (.cells #[.int .i64 z, .string lg, .string mp] 26)) #[.int .i64 0, .string ⟨#[]⟩, .string ⟨#[]⟩] 26 (w.heap.size + 1) (by simp))
  clear hl hm
  go_enter Try.func30, Try.ntmps30
  go_upto_region 1 with fail
  generalize (w.alloc (.cells #[.int .i64 z, .string lg, .string mp] 26)).alloc (.cells #[.int .i64 0, .string ⟨#[]⟩, .string ⟨#[]⟩] 26) = w0 at *
  have hxl := (unhide X0).1
  have x0 := (unhide X0).cell 0 rfl
  have x1 := (unhide X0).cell 1 rfl
  have x2 := (unhide X0).cell 2 rfl
  refine wp_region_noPanic ?_
  refine wp_region_held_drew (S := (fun wx => wx.cell? ⟨w.heap.size, 0, none⟩ = some (.int .i64 z) ∧ wx.cell? ⟨w.heap.size, 1, none⟩ = some (.string lg) ∧ wx.cell? ⟨w.heap.size, 2, none⟩ = some (.string mp))) (by kernel_rfl) ?_ (fun hHeld => ?_)
  · exact ⟨x0, x1, x2⟩
  have KD : Hid (Below w0.heap.size w0 w0.drew) := hide (below_drewN (Below.refl _ w0) 1)
  refine tkH 0 rfl ?_
  refine tkH 1 rfl ?_
  refine tkH 2 rfl ?_
  refine tkH 3 rfl ?_
  refine tkH 5 rfl ?_
  refine tkH 6 rfl ?_
  refine wpAnyH_ready (rs := [4]) (by kernel_rfl) (by simp) ?_
  refine AllReadyH.cons (o := _) rfl (fun K hK => ?_) AllReadyH.nil
  go_simp
  refine (unhide H1 _).mono ?_
  rintro e w1 ⟨rfl, hb⟩
  have KD1 := hide ((unhide KD).trans (hb.mono (unhide KD).size))
  clear hb
  go_wp2_with fail
  refine hK.out _ _ ?_ (fun hHeld => ?_)
  · exact ⟨((unhide KD1).cell (p := ⟨w.heap.size, 0, none⟩) hxl).trans x0, ((unhide KD1).cell (p := ⟨w.heap.size, 1, none⟩) hxl).trans x1, ((unhide KD1).cell (p := ⟨w.heap.size, 2, none⟩) hxl).trans x2⟩
  clear hK K
  (try simp only [Act.put, List.getElem_toArray, List.getElem_cons_succ, List.getElem_cons_zero, List.setIfInBounds_toArray, List.set_cons_zero, List.set_cons_succ])
  refine wpAnyH_ready (rs := [7]) (by kernel_rfl) (by simp) ?_
  refine AllReadyH.cons (o := _) rfl (fun K hK => ?_) AllReadyH.nil
  go_simp
  refine (unhide H2 _).mono ?_
  rintro e w2 ⟨rfl, hb⟩
  have KD2 := hide ((unhide KD1).trans (hb.mono (unhide KD1).size))
  clear hb
  go_wp2_with fail
  refine hK.out _ _ ?_ (fun hHeld => ?_)
  · exact ⟨((unhide KD2).cell (p := ⟨w.heap.size, 0, none⟩) hxl).trans x0, ((unhide KD2).cell (p := ⟨w.heap.size, 1, none⟩) hxl).trans x1, ((unhide KD2).cell (p := ⟨w.heap.size, 2, none⟩) hxl).trans x2⟩
  clear hK K
  (try simp only [Act.put, List.getElem_toArray, List.getElem_cons_succ, List.getElem_cons_zero, List.setIfInBounds_toArray, List.set_cons_zero, List.set_cons_succ])
  refine tkH 8 rfl ?_
  refine wpAnyH_ready (rs := [9]) (by kernel_rfl) (by simp) ?_
  refine AllReadyH.cons (o := _) rfl (fun K hK => ?_) AllReadyH.nil
  have R2 := (unhide R0).below (unhide KD2)
  have hrl := R2.1
  have r0 := R2.cell 0 rfl
  have f0 := R2.fro 0
  have r1 := R2.cell 1 rfl
  have f1 := R2.fro 1
  have r2 := R2.cell 2 rfl
  have f2 := R2.fro 2
  have TT := ((((Touch.refl (fun k => k = w.heap.size + 1) w2).setCell ⟨w.heap.size + 1, 0, none⟩ (.int .i64 z) (fun _ => rfl)).setCell ⟨w.heap.size + 1, 1, none⟩ (.string lg) (fun _ => rfl)).setCell ⟨w.heap.size + 1, 2, none⟩ (.string mp) (fun _ => rfl))
  have KF := hide ((unhide K0).trans (((unhide KD2).mono (unhide K0).size).trans (TT.below (Nat.le_trans (unhide K0).size (unhide KD2).size) (fun k hk e => by (try dsimp only at e); omega))))
  have RF := hide ((Blk.set (Blk.set (Blk.set R2 0 (.int .i64 z) (by simp)) 1 (.string lg) (by simp)) 2 (.string mp) (by simp)))
  have XF := hide (((unhide X0).below (unhide KD2)).kept TT (by omega))
  clear R2 TT
  go_simp
  refine hK.out _ _ ?_ (fun hHeld => ?_)
  · exact ⟨(unhide XF).cell 0 rfl, (unhide XF).cell 1 rfl, (unhide XF).cell 2 rfl⟩
  clear hK K
  (try simp only [Act.put, List.getElem_toArray, List.getElem_cons_succ, List.getElem_cons_zero, List.setIfInBounds_toArray, List.set_cons_zero, List.set_cons_succ])
  refine wpAnyH_done (by kernel_rfl) (NoPanic.normal ?_) _
  dsimp only [List.set] at RF
  go_wp2_with fail
  generalize (((w2).setCell ⟨w.heap.size + 1, 0, none⟩ (.int .i64 z)).setCell ⟨w.heap.size + 1, 1, none⟩ (.string lg)).setCell ⟨w.heap.size + 1, 2, none⟩ (.string mp) = w3 at *
  have s0 := (unhide RF).cell 0 rfl
  have s1 := (unhide RF).cell 1 rfl
  have s2 := (unhide RF).cell 2 rfl
  refine bodyPost_ret (v := .agg #[.int .i64 z, .string lg, .string mp]) (by simp [results, Try.results30, go_sem, s0, s1, s2]) rfl ?_
  exact ⟨rfl, unhide KF⟩
end Go.Proofs.Ytkojmnlfpccbiaa
