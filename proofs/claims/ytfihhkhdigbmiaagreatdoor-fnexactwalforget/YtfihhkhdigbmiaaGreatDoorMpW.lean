/- A disk without one of its files, as the specification does it: l03Without. (Written by py/mpw.py.) -/
import Derived.Test.YtfihhkhdigbmiaaGreatDoorMpG
namespace Go.Proofs.YtfihhkhdigbmiaaGreatDoor
open Go.ChangeShapes Go.WideShapes Go.ChangeAt Go.RowKit Go.Maps Go.Sort
set_option linter.unusedVariables false
set_option linter.unusedSimpArgs false

theorem cut_cells {w : World} {b off : Nat} {l : List Fl} (hc : ∀ i, i < l.length → w.cell? ⟨b, off + i * 3, none⟩ = some (.string (l.getD i default).n) ∧ w.cell? ⟨b, off + i * 3 + 1, none⟩ = some (.string (l.getD i default).d) ∧ w.cell? ⟨b, off + i * 3 + 2, none⟩ = some (.int .i64 (l.getD i default).s)) (j : Nat) (u : Value) (hu : (flsC l)[j]? = some u) : w.cell? ⟨b, off + j, none⟩ = some u := by
  have hj : j < l.length * 3 := by
    have := (List.getElem?_eq_some_iff.1 hu).1
    rw [flsC_len] at this
    exact this
  obtain ⟨e0, e1, e2⟩ := flsC_get l (j / 3) (by omega)
  obtain ⟨c0, c1, c2⟩ := hc (j / 3) (by omega)
  have hcase : j = j / 3 * 3 ∨ j = j / 3 * 3 + 1 ∨ j = j / 3 * 3 + 2 := by omega
  rcases hcase with h | h | h
  · rw [h] at hu ⊢; rw [e0] at hu; rw [c0]; exact hu
  · rw [h] at hu ⊢; rw [e1] at hu; rw [show off + (j / 3 * 3 + 1) = off + j / 3 * 3 + 1 by omega, c1]; exact hu
  · rw [h] at hu ⊢; rw [e2] at hu; rw [show off + (j / 3 * 3 + 2) = off + j / 3 * 3 + 2 by omega, c2]; exact hu
theorem flsC_app (x y : List Fl) : flsC (x ++ y) = flsC x ++ flsC y := by simp [flsC]
set_option maxRecDepth 100000 in
set_option maxHeartbeats 4000000 in
theorem l03Without_any (room : Int) (v : Value) (A B : List Fl) (f : Fl) (w : World) (hL : Fls w v (A ++ f :: B)) (hl : (A ++ f :: B).length ≤ 8) :
    Calls Tryz.prog 62 #[.agg #[.int .i64 room, v], .int .i64 A.length] w fun e w' => ∃ a c, e = .returned (.agg #[.int .i64 room, .slice a (A ++ B).length c]) ∧ OwnF w.heap.size w' (.slice a (A ++ B).length c) (A ++ B) ∧ Below w.heap.size w w' := by
  obtain ⟨i0, hi, hz0, hz1, hz2⟩ := info_parts infoF
  have hlen : (A ++ f :: B).length = A.length + B.length + 1 := by simp; omega
  obtain ⟨a, cap, rfl, hn, hm, hc⟩ := hL
  obtain ⟨b, off, rfl, hbl, hsrc⟩ : ∃ b off, a = some ⟨b, off, none⟩ ∧ b < w.heap.size ∧ ∀ i, i < (A ++ f :: B).length → w.cell? ⟨b, off + i * 3, none⟩ = some (.string ((A ++ f :: B).getD i default).n) ∧ w.cell? ⟨b, off + i * 3 + 1, none⟩ = some (.string ((A ++ f :: B).getD i default).d) ∧ w.cell? ⟨b, off + i * 3 + 2, none⟩ = some (.int .i64 ((A ++ f :: B).getD i default).s) := by
    rcases hc with h0 | h1
    · omega
    · exact h1
  have hcl : ∀ j u, (flsC (A ++ f :: B))[j]? = some u → w.cell? ⟨b, off + j, none⟩ = some u := fun j u => cut_cells hsrc j u
  have hadd : ∀ x j, (⟨b, x, none⟩ : Addr).add j = ⟨b, x + j, none⟩ := fun x j => by unfold Addr.add; split <;> simp_all
  have RA := hide (fun wx (hx : Below w.heap.size w wx) => (show Rw wx (.slice (some ⟨b, off, none⟩) A.length cap) A.length (flsC A) from ⟨_, _, rfl, .inr ⟨_, rfl, fun j u hu => by
    rw [hadd]
    refine (hx.cell (p := ⟨b, off + j, none⟩) hbl).trans (hcl j u ?_)
    rw [flsC_app, List.getElem?_append_left (List.getElem?_eq_some_iff.1 hu).1]
    exact hu⟩⟩))
  have RB := hide (fun wx (a2 : Option Addr) (c2 : Nat) (hx : Below w.heap.size w wx) (ha : B.length = 0 ∨ a2 = some ⟨b, off + (A.length + 1) * 3, none⟩) => (show Rw wx (.slice a2 B.length c2) B.length (flsC B) from ⟨_, _, rfl, ha.imp id (fun ha => ⟨_, ha, fun j u hu => by
    rw [hadd]
    refine (hx.cell (p := ⟨b, off + (A.length + 1) * 3 + j, none⟩) hbl).trans ?_
    rw [show off + (A.length + 1) * 3 + j = off + ((A.length + 1) * 3 + j) by omega]
    refine hcl _ u ?_
    rw [show A ++ f :: B = (A ++ [f]) ++ B by simp, flsC_app, List.getElem?_append_right (by rw [flsC_len]; simp), flsC_len]
    rw [show (A.length + 1) * 3 + j - (A ++ [f]).length * 3 = j by simp]
    exact hu⟩)⟩))
  have hlA : (flsC A).length = A.length * 3 := flsC_len A
  have hlB : (flsC B).length = B.length * 3 := flsC_len B
  have HRES := hide (flsC_app A B)
  have hrl : (A ++ B).length = A.length + B.length := by simp
  have H1A := hide (flsC_one A)
  have H1B := hide (flsC_one B)
  unfold maxLen at hm
  clear hc hsrc hcl hadd
  rw [hrl]
  rw [hlen] at hn hl ⊢
  generalize hAn : A.length = k at *
  generalize hBn : B.length = m at *
  clear hlen
  obtain ⟨n, hnn⟩ : ∃ n, n = k + m + 1 := ⟨_, rfl⟩
  rw [← hnn] at hn hl ⊢
  have HN := hide hnn
  have hk0 : (0 : Int) ≤ (k : Int) := by omega
  have hkc : (k : Int) ≤ (cap : Int) := by omega
  have hkn : (k : Int) ≤ (n : Int) := by omega
  have hk1 : (k : Int) + 1 ≤ (n : Int) := by omega
  have hk1c : (k : Int) + 1 ≤ (cap : Int) := by omega
  have hnc : (n : Int) ≤ (cap : Int) := by omega
  have hn0 : (0 : Int) ≤ (k : Int) + 1 := by omega
  have hto : ((k : Int) + 1).toNat = k + 1 := by omega
  have hsub : n - (k + 1) = m := by omega
  have hwrp : IntKind.i64.wrap ((k : Int) + 1) = (k : Int) + 1 := wrapJ _ (by omega) (by omega)
  obtain ⟨qa, hqe, hqp⟩ : ∃ qa : Option Addr, (if cap = k + 1 then some (⟨b, off, none⟩ : Addr) else some ⟨b, off + (k + 1) * 3, none⟩) = qa ∧ (m = 0 ∨ qa = some ⟨b, off + (k + 1) * 3, none⟩) := by
    by_cases hcp : cap = k + 1
    · exact ⟨_, rfl, .inl (by omega)⟩
    · exact ⟨_, rfl, .inr (if_neg hcp)⟩
  have HQP := hide hqp
  clear hqp
  clear hnn
  have B0 := hide (((Below.refl w.heap.size w).alloc (Nat.le_refl _) (.cells #[.int .i64 room, .slice (some ⟨b, off, none⟩) n cap] 28)).alloc (by simp) (.cells #[.int .i64 0, .slice none 0 0] 28))
  have X0 := hide ((Blk.new w #[.int .i64 room, .slice (some ⟨b, off, none⟩) n cap] 28 w.heap.size rfl).alloc (.cells #[.int .i64 0, .slice none 0 0] 28))
  have D0 := hide (Blk.new (w.alloc (.cells #[.int .i64 room, .slice (some ⟨b, off, none⟩) n cap] 28)) #[.int .i64 0, .slice none 0 0] 28 (w.heap.size + 1) (by simp))
  go_enter Tryz.func62, Tryz.ntmps62
  go_upto_region 1 with fail
  generalize (w.alloc (.cells #[.int .i64 room, .slice (some ⟨b, off, none⟩) n cap] 28)).alloc (.cells #[.int .i64 0, .slice none 0 0] 28) = w0 at *
  have hd : Below w0.heap.size w0 w0.drew := below_drewN (Below.refl w0.heap.size w0) 1
  have B1 := hide ((unhide B0).trans (hd.mono (unhide B0).size))
  have X1 := hide ((unhide X0).below hd)
  have D1 := hide ((unhide D0).below hd)
  clear hd B0 X0 D0
  obtain ⟨⟨x0, x1⟩, _⟩ := Blk.c2 (unhide X1)
  refine wp_region_noPanic ?_
  refine wp_region_held_drew (S := (fun wx => wx.cell? ⟨w.heap.size, 0, none⟩ = some (.int .i64 room) ∧ wx.cell? ⟨w.heap.size, 1, none⟩ = some (.slice (some ⟨b, off, none⟩) n cap))) (by kernel_rfl) ?_ (fun hHeld => ?_)
  · exact ⟨x0, x1⟩
  generalize w0.drew = wd at *
  have hww := (unhide B1).size
  have hDl := (unhide D1).1
  refine tkH 0 rfl ?_
  refine tkH 1 rfl ?_
  refine tkH 3 rfl ?_
  refine tkH 4 rfl ?_
  refine tkH 5 rfl ?_
  refine tkH 6 rfl ?_
  refine tkH 8 rfl ?_
  refine tkH 9 rfl ?_
  refine tkH 10 rfl ?_
  refine tkH 11 rfl ?_
  refine tkH 12 rfl ?_
  refine wpAnyH_ready (rs := [2]) (by kernel_rfl) (by simp) ?_
  refine AllReadyH.cons (o := _) rfl (fun K hK => ?_) AllReadyH.nil
  go_simp
  have hAA := (Below.refl wd.heap.size wd).alloc (Nat.le_refl _) (.cells #[] 68)
  have B2 := hide ((unhide B1).trans (hAA.mono (unhide B1).size))
  have X2 := hide ((unhide X1).below hAA)
  have D2 := hide ((unhide D1).below hAA)
  have O2 := hide (show (wd.alloc (.cells #[] 68)).ownsRow wd.heap.size 68 3 (.slice (some ⟨wd.heap.size, 0, none⟩) 0 0) 0 [] from World.ownsRow_made wd #[] 0 (Nat.le_refl _) (by unfold maxLen; omega) rfl)
  have hsz : wd.heap.size ≤ (wd.alloc (.cells #[] 68)).heap.size := by simp
  clear B1 X1 D1 x0 x1 hAA
  refine hK.out _ _ ?_ (fun hHeld => ?_)
  · exact (Blk.c2 (unhide X2)).1
  clear hK K
  (try simp only [Act.put, List.getElem_toArray, List.getElem_cons_succ, List.getElem_cons_zero, List.setIfInBounds_toArray, List.set_cons_zero, List.set_cons_succ])
  generalize wd.alloc (.cells #[] 68) = wu at *
  generalize wd.heap.size = bu at *
  refine wpAnyH_ready (rs := [7]) (by kernel_rfl) (by simp) ?_
  refine AllReadyH.cons (o := _) rfl (fun K hK => ?_) AllReadyH.nil
  refine step_append_row rfl _ _ _ rfl bu 68 i0 _ 3 40 Tryz.underlying26 hi hz0 hz1 hz2 rfl (by omega) _ 0 [] rfl (unhide O2) _ k (flsC A) rfl (unhide RA _ (unhide B2)) hlA (unhide H1A) (by unfold maxLen; omega) (by omega) hsz ?_
  intro a3 c3 w3 hown hgrow hat
  have B3 := hide ((unhide B2).grown hgrow (unhide B2).size (fun r hr => by have := (World.ownsRow.lt (unhide O2) r hr).1; omega))
  have TG := (Touch.refl (fun q => bu ≤ q) wu).grown hgrow (fun r hr _ => (World.ownsRow.lt (unhide O2) r hr).1)
  have X3 := hide ((unhide X2).kept TG (by omega))
  have D3 := hide ((unhide D2).kept TG (by omega))
  have O3 := hide hown
  have hsz3 : bu ≤ w3.heap.size := Nat.le_trans hsz TG.size
  clear B2 X2 D2 O2 hown hgrow hat TG
  refine hK.out _ _ ?_ (fun hHeld => ?_)
  · exact (Blk.c2 (unhide X3)).1
  clear hK K
  (try simp only [Act.put, List.getElem_toArray, List.getElem_cons_succ, List.getElem_cons_zero, List.setIfInBounds_toArray, List.set_cons_zero, List.set_cons_succ])
  simp only [Nat.zero_add, List.nil_append] at O3 ⊢
  refine wpAnyH_ready (rs := [13]) (by kernel_rfl) (by simp) ?_
  refine AllReadyH.cons (o := _) rfl (fun K hK => ?_) AllReadyH.nil
  refine step_append_row rfl _ _ _ rfl bu 68 i0 _ 3 40 Tryz.underlying26 hi hz0 hz1 hz2 rfl (by omega) _ k (flsC A) rfl (unhide O3) _ m (flsC B) rfl (unhide RB _ _ _ (unhide B3) (unhide HQP)) hlB (unhide H1B) (by unfold maxLen; omega) (by omega) hsz3 ?_
  intro a4 c4 w4 hown hgrow hat
  have B4 := hide ((unhide B3).grown hgrow (unhide B3).size (fun r hr => by have := (World.ownsRow.lt (unhide O3) r hr).1; omega))
  have TG := (Touch.refl (fun q => bu ≤ q) w3).grown hgrow (fun r hr _ => (World.ownsRow.lt (unhide O3) r hr).1)
  have X4 := hide ((unhide X3).kept TG (by omega))
  have D4 := hide ((unhide D3).kept TG (by omega))
  have O4 := hide hown
  clear B3 X3 D3 O3 hown hgrow hat TG
  refine hK.out _ _ ?_ (fun hHeld => ?_)
  · exact (Blk.c2 (unhide X4)).1
  clear hK K
  (try simp only [Act.put, List.getElem_toArray, List.getElem_cons_succ, List.getElem_cons_zero, List.setIfInBounds_toArray, List.set_cons_zero, List.set_cons_succ])
  refine tkH 14 rfl ?_
  have hT := ((Touch.refl (fun x => x = w.heap.size + 1) w4).setCell ⟨w.heap.size + 1, 0, none⟩ (.int .i64 room) (fun _ => rfl)).setCell ⟨w.heap.size + 1, 1, none⟩ (.slice a4 (k + m) c4) (fun _ => rfl)
  have HY := hide (((unhide D4).set 0 (.int .i64 room) (by simp)).set 1 (.slice a4 (k + m) c4) (by simp))
  have HK := hide ((unhide B4).trans (hT.below (unhide B4).size (fun x hx e => by omega)))
  have HO := hide (own_kept (T := fun x => x = w.heap.size + 1) (unhide O4) hT (fun k hk e => by have := (World.ownsRow.lt (unhide O4) k hk).1; omega))
  have XK := (unhide X4).kept hT (by omega)
  obtain ⟨⟨y0, y1⟩, g0, g1⟩ := Blk.c2 (unhide D4)
  clear B4 X4 D4 O4 hT
  refine wpAnyH_ready (rs := [15]) (by kernel_rfl) (by simp) ?_
  refine AllReadyH.cons (o := _) rfl (fun K hK => ?_) AllReadyH.nil
  go_simp
  refine hK.out _ _ ?_ (fun hHeld => ?_)
  · exact (Blk.c2 XK).1
  clear hK K
  (try simp only [Act.put, List.getElem_toArray, List.getElem_cons_succ, List.getElem_cons_zero, List.setIfInBounds_toArray, List.set_cons_zero, List.set_cons_succ])
  refine wpAnyH_done (by kernel_rfl) (NoPanic.normal ?_) _
  clear y0 y1 g0 g1 hHeld XK
  go_wp2_with fail
  obtain ⟨⟨z0, z1⟩, _⟩ := Blk.c2 (unhide HY)
  refine bodyPost_ret (v := .agg #[.int .i64 room, .slice a4 (k + m) c4]) (by simp [results, Tryz.results62, go_sem, z0, z1]) rfl ?_
  refine ⟨a4, c4, rfl, ?_, unhide HK⟩
  have h9 := World.ownsRow.mono (unhide HO) (show w.heap.size ≤ bu by omega)
  unfold OwnF
  rw [hrl, unhide HRES]
  exact h9
end Go.Proofs.YtfihhkhdigbmiaaGreatDoor
