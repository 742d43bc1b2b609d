/- A disk's files, as the specification turns them: l03Own, l03Put. (Written by py/mpg.py.) -/
import Derived.Test.YtfihhkhdigbmiaaGreatDoorMpP
import Derived.Test.YtfihhkhdigbmiaaGreatDoorMpD
namespace Go.Proofs.YtfihhkhdigbmiaaGreatDoor
open Go.ChangeShapes Go.WideShapes Go.ChangeAt Go.RowKit Go.Maps Go.Sort
set_option linter.unusedVariables false
set_option linter.unusedSimpArgs false

theorem Fls.rw {w : World} {v : Value} {l : List Fl} (h : Fls w v l) : Rw w v l.length (flsC l) := by
  obtain ⟨a, cap, rfl, hm, hm2, hc⟩ := h
  refine ⟨a, cap, rfl, ?_⟩
  rcases hc with h0 | ⟨b, off, rfl, hlt, hc⟩
  · exact .inl h0
  · refine .inr ⟨_, rfl, fun j u hu => ?_⟩
    have hadd : (⟨b, off, none⟩ : Addr).add j = ⟨b, off + j, none⟩ := by unfold Addr.add; split <;> simp_all
    have hj : j < l.length * 3 := by
      have := (List.getElem?_eq_some_iff.1 hu).1
      rw [flsC_len] at this
      exact this
    obtain ⟨e0, e1, e2⟩ := flsC_get l (j / 3) (by omega)
    obtain ⟨c0, c1, c2⟩ := hc (j / 3) (by omega)
    rw [hadd]
    have hcase : j = j / 3 * 3 ∨ j = j / 3 * 3 + 1 ∨ j = j / 3 * 3 + 2 := by omega
    rcases hcase with h | h | h
    · rw [h] at hu ⊢; rw [e0] at hu; rw [c0]; exact hu
    · rw [h] at hu ⊢; rw [e1] at hu; rw [show off + (j / 3 * 3 + 1) = off + j / 3 * 3 + 1 by omega, c1]; exact hu
    · rw [h] at hu ⊢; rw [e2] at hu; rw [show off + (j / 3 * 3 + 2) = off + j / 3 * 3 + 2 by omega, c2]; exact hu
theorem flsC_one (l : List Fl) : ∀ u ∈ flsC l, u.oneCell' = true := by
  intro u hu
  unfold flsC at hu
  obtain ⟨f, _, hf⟩ := List.mem_flatMap.1 hu
  simp only [flC, List.mem_cons, List.not_mem_nil, or_false] at hf
  rcases hf with rfl | rfl | rfl <;> rfl
set_option maxRecDepth 100000 in
set_option maxHeartbeats 4000000 in
/-- A disk in memory of the call's own. -/
theorem l03Own_any (room : Int) (v : Value) (l : List Fl) (w : World) (h : Fls w v l) (hl : l.length ≤ 1048576) :
    Calls Tryz.prog 16 #[.agg #[.int .i64 room, v]] w fun e w' => ∃ a c, e = .returned (.agg #[.int .i64 room, .slice a l.length c]) ∧ OwnF w.heap.size w' (.slice a l.length c) l ∧ Below w.heap.size w w' := by
  obtain ⟨i0, hi, hz0, hz1, hz2⟩ := info_parts infoF
  have HF := hide h
  obtain ⟨a, cap, rfl, _⟩ := h
  have B0 := hide (((Below.refl w.heap.size w).alloc (Nat.le_refl _) (.cells #[.int .i64 room, .slice a l.length cap] 28)).alloc (by simp) (.cells #[.int .i64 0, .slice none 0 0] 28))
  have X0 := hide ((Blk.new w #[.int .i64 room, .slice a l.length cap] 28 w.heap.size rfl).alloc (.cells #[.int .i64 0, .slice none 0 0] 28))
  have D0 := hide (Blk.new (w.alloc (.cells #[.int .i64 room, .slice a l.length cap] 28)) #[.int .i64 0, .slice none 0 0] 28 (w.heap.size + 1) (by simp))
  go_enter Tryz.func16, Tryz.ntmps16
  go_upto_region 1 with fail
  generalize (w.alloc (.cells #[.int .i64 room, .slice a l.length cap] 28)).alloc (.cells #[.int .i64 0, .slice none 0 0] 28) = w0 at *
  have hd : Below w0.heap.size w0 w0.drew := below_drewN (Below.refl w0.heap.size w0) 1
  have B1 := hide ((unhide B0).trans (hd.mono (unhide B0).size))
  have X1 := hide ((unhide X0).below hd)
  have D1 := hide ((unhide D0).below hd)
  clear hd B0 X0 D0
  obtain ⟨⟨x0, x1⟩, _⟩ := Blk.c2 (unhide X1)
  refine wp_region_noPanic ?_
  refine wp_region_held_drew (S := (fun wx => wx.cell? ⟨w.heap.size, 0, none⟩ = some (.int .i64 room) ∧ wx.cell? ⟨w.heap.size, 1, none⟩ = some (.slice a l.length cap))) (by kernel_rfl) ?_ (fun hHeld => ?_)
  · exact ⟨x0, x1⟩
  generalize w0.drew = wd at *
  have hww := (unhide B1).size
  have hDl := (unhide D1).1
  refine tkH 0 rfl ?_
  refine tkH 1 rfl ?_
  refine tkH 3 rfl ?_
  refine tkH 4 rfl ?_
  refine wpAnyH_ready (rs := [2]) (by kernel_rfl) (by simp) ?_
  refine AllReadyH.cons (o := _) rfl (fun K hK => ?_) AllReadyH.nil
  go_simp
  have hAA := (Below.refl wd.heap.size wd).alloc (Nat.le_refl _) (.cells #[] 68)
  have B2 := hide ((unhide B1).trans (hAA.mono (unhide B1).size))
  have X2 := hide ((unhide X1).below hAA)
  have D2 := hide ((unhide D1).below hAA)
  have O2 := hide (show (wd.alloc (.cells #[] 68)).ownsRow wd.heap.size 68 3 (.slice (some ⟨wd.heap.size, 0, none⟩) 0 0) 0 [] from World.ownsRow_made wd #[] 0 (Nat.le_refl _) (by unfold maxLen; omega) rfl)
  have hsz : wd.heap.size ≤ (wd.alloc (.cells #[] 68)).heap.size := by simp
  clear B1 X1 D1 x0 x1 hAA
  refine hK.out _ _ ?_ (fun hHeld => ?_)
  · exact (Blk.c2 (unhide X2)).1
  clear hK K
  (try simp only [Act.put, List.getElem_toArray, List.getElem_cons_succ, List.getElem_cons_zero, List.setIfInBounds_toArray, List.set_cons_zero, List.set_cons_succ])
  generalize wd.alloc (.cells #[] 68) = wu at *
  generalize wd.heap.size = bu at *
  refine wpAnyH_ready (rs := [5]) (by kernel_rfl) (by simp) ?_
  refine AllReadyH.cons (o := _) rfl (fun K hK => ?_) AllReadyH.nil
  refine step_append_row rfl _ _ _ rfl bu 68 i0 _ 3 40 Tryz.underlying26 hi hz0 hz1 hz2 rfl (by omega) _ 0 [] rfl (unhide O2) _ l.length (flsC l) rfl ((unhide HF).below (unhide B2)).rw (by rw [flsC_len]) (flsC_one l) (by unfold maxLen; omega) (by omega) hsz ?_
  intro a3 c3 w3 hown hgrow hat
  have B3 := hide ((unhide B2).grown hgrow (unhide B2).size (fun r hr => by have := (World.ownsRow.lt (unhide O2) r hr).1; omega))
  have TG := (Touch.refl (fun q => bu ≤ q) wu).grown hgrow (fun r hr _ => (World.ownsRow.lt (unhide O2) r hr).1)
  have X3 := hide ((unhide X2).kept TG (by omega))
  have D3 := hide ((unhide D2).kept TG (by omega))
  have O3 := hide hown
  clear B2 X2 D2 O2 hown hgrow hat TG
  refine hK.out _ _ ?_ (fun hHeld => ?_)
  · exact (Blk.c2 (unhide X3)).1
  clear hK K
  (try simp only [Act.put, List.getElem_toArray, List.getElem_cons_succ, List.getElem_cons_zero, List.setIfInBounds_toArray, List.set_cons_zero, List.set_cons_succ])
  simp only [Nat.zero_add, List.nil_append] at O3 ⊢
  refine tkH 6 rfl ?_
  have hT := ((Touch.refl (fun x => x = w.heap.size + 1) w3).setCell ⟨w.heap.size + 1, 0, none⟩ (.int .i64 room) (fun _ => rfl)).setCell ⟨w.heap.size + 1, 1, none⟩ (.slice a3 l.length c3) (fun _ => rfl)
  have HY := hide (((unhide D3).set 0 (.int .i64 room) (by simp)).set 1 (.slice a3 l.length c3) (by simp))
  have HK := hide ((unhide B3).trans (hT.below (unhide B3).size (fun x hx e => by omega)))
  have HO := hide (own_kept (T := fun x => x = w.heap.size + 1) (unhide O3) hT (fun k hk e => by have := (World.ownsRow.lt (unhide O3) k hk).1; omega))
  have XK := (unhide X3).kept hT (by omega)
  obtain ⟨⟨y0, y1⟩, g0, g1⟩ := Blk.c2 (unhide D3)
  clear B3 X3 D3 O3 hT
  refine wpAnyH_ready (rs := [7]) (by kernel_rfl) (by simp) ?_
  refine AllReadyH.cons (o := _) rfl (fun K hK => ?_) AllReadyH.nil
  go_simp
  refine hK.out _ _ ?_ (fun hHeld => ?_)
  · exact (Blk.c2 XK).1
  clear hK K
  (try simp only [Act.put, List.getElem_toArray, List.getElem_cons_succ, List.getElem_cons_zero, List.setIfInBounds_toArray, List.set_cons_zero, List.set_cons_succ])
  refine wpAnyH_done (by kernel_rfl) (NoPanic.normal ?_) _
  clear y0 y1 g0 g1 hHeld XK
  go_wp2_with fail
  obtain ⟨⟨z0, z1⟩, _⟩ := Blk.c2 (unhide HY)
  refine bodyPost_ret (v := .agg #[.int .i64 room, .slice a3 l.length c3]) (by simp [results, Tryz.results16, go_sem, z0, z1]) rfl ?_
  exact ⟨a3, c3, rfl, World.ownsRow.mono (unhide HO) (by omega), unhide HK⟩
end Go.Proofs.YtfihhkhdigbmiaaGreatDoor
