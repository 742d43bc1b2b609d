/- (notary).issuer: what a notary has, in memory of its own. (Written by py/isf.py.) -/
import Derived.Test.YtkojmnlfpccbiaaIsE
namespace Go.Proofs.Ytkojmnlfpccbiaa
open Go.ChangeShapes Go.WideShapes Go.ChangeAt Go.RowKit Go.Deep
set_option linter.unusedVariables false
set_option linter.unusedSimpArgs false
set_option maxRecDepth 100000

/-- Flags of one's own: none, or the four of an array. -/
def FlO (B : Nat) (w : World) (v : Value) (l : List Bool) : Prop := (v = .slice none 0 0 ∧ l = []) ∨ ∃ b, v = .slice (some ⟨b, 0, none⟩) 4 4 ∧ l.length = 4 ∧ B ≤ b ∧ Blk w b (l.map Value.bool)
theorem FlO.bos {B : Nat} {w : World} {v : Value} {l : List Bool} (h : FlO B w v l) : Bos w v l := by
  rcases h with ⟨rfl, rfl⟩ | ⟨b, rfl, hl, hB, hk⟩
  · exact ⟨none, 0, rfl, by unfold maxLen; simp, .inl rfl⟩
  · refine ⟨some ⟨b, 0, none⟩, 4, by rw [hl], by unfold maxLen; omega, .inr ⟨b, 0, rfl, hk.1, fun i hi => ?_⟩⟩
    rw [Nat.zero_add]
    refine hk.cell i ?_
    simp [hi]
theorem FlO.lt {B : Nat} {w : World} {v : Value} {l : List Bool} (h : FlO B w v l) : ∀ k, v.ownBlock = some k → B ≤ k ∧ k < w.heap.size := by
  rcases h with ⟨rfl, rfl⟩ | ⟨b, rfl, hl, hB, hk⟩
  · intro k hk; cases hk
  · intro k e; cases e; exact ⟨hB, hk.1⟩
theorem FlO.kept {T : Nat → Prop} {B : Nat} {w w' : World} {v : Value} {l : List Bool} (h : FlO B w v l) (ht : Touch T w w') (hn : ∀ k, v.ownBlock = some k → ¬ T k) : FlO B w' v l := by
  rcases h with h | ⟨b, rfl, hl, hB, hk⟩
  · exact .inl h
  · exact .inr ⟨b, rfl, hl, hB, hk.kept ht (hn b rfl)⟩
theorem FlO.below {B : Nat} {w w' : World} {v : Value} {l : List Bool} (h : FlO B w v l) (hb : Below w.heap.size w w') : FlO B w' v l := h.kept (T := fun _ => False) (Touch.ofBelow hb) (fun _ _ h => h)
set_option maxHeartbeats 4000000 in
theorem issuer_any (p g off cap : Nat) (sd : ByteArray) (z : Int) (lg mp : ByteArray) (c : Int) (f0 f1 f2 f3 : Bool) (w : World) (h : NtyR w p g off cap sd z lg mp c f0 f1 f2 f3) (hs : sd.size ≤ 1048576) (hl : lg.size ≤ 1048576) (hm : mp.size ≤ 1048576) :
    Calls Try.prog 15 #[.pointer (some ⟨p, 0, none⟩)] w fun e w' => ∃ ub, e = .returned (.agg #[.string sd, .slice (some ⟨ub, 0, none⟩) 4 4, .int .i64 z, .string lg, .string mp, .bool (decide (0 < c)), .int .i64 c]) ∧ FlO w.heap.size w' (.slice (some ⟨ub, 0, none⟩) 4 4) [f0, f1, f2, f3] ∧ Below w.heap.size w w' := by
  have hpl := h.1.1
  have N0 := hide (h.below ((Below.refl w.heap.size w).alloc (Nat.le_refl _) (.cells #[.string ⟨#[]⟩, .slice none 0 0, .int .i64 0, .string ⟨#[]⟩, .string ⟨#[]⟩, .bool false, .int .i64 0] 28)))
  have K0 := hide ((Below.refl w.heap.size w).alloc (Nat.le_refl _) (.cells #[.string ⟨#[]⟩, .slice none 0 0, .int .i64 0, .string ⟨#[]⟩, .string ⟨#[]⟩, .bool false, .int .i64 0] 28))
  have R0 := hide (Blk.new w #[.string ⟨#[]⟩, .slice none 0 0, .int .i64 0, .string ⟨#[]⟩, .string ⟨#[]⟩, .bool false, .int .i64 0] 28 w.heap.size rfl)
  have HFl := hide (fun wx (h : NtyR wx p g off cap sd z lg mp c f0 f1 f2 f3) => flags_any p g off cap sd z lg mp c f0 f1 f2 f3 wx h)
  have HHs := hide (fun wx (h : NtyR wx p g off cap sd z lg mp c f0 f1 f2 f3) => has_any p g off cap sd z lg mp c f0 f1 f2 f3 wx h)
  have HC := hide (fun wx => strClone_any sd wx hs)
  have HP := hide (fun wx => copied_any z lg mp wx hl hm)
  clear h hs hl hm
  obtain ⟨hd, hhd⟩ : ∃ hd, hd = decide (0 < c) := ⟨_, rfl⟩
  rw [← hhd] at HHs ⊢
  clear hhd
  go_enter Try.func15, Try.ntmps15
  go_wp2_with fail
  generalize w.alloc (.cells #[.string ⟨#[]⟩, .slice none 0 0, .int .i64 0, .string ⟨#[]⟩, .string ⟨#[]⟩, .bool false, .int .i64 0] 28) = w0 at *
  refine (unhide HFl w0 (unhide N0)).mono ?_
  rintro e w1 ⟨rfl, hb⟩
  have BB := (Below.refl w1.heap.size w1).alloc (Nat.le_refl _) (.cells #[.bool f0, .bool f1, .bool f2, .bool f3] 60)
  have K1 := hide (((unhide K0).trans (hb.mono (unhide K0).size)).trans (BB.mono ((unhide K0).trans (hb.mono (unhide K0).size)).size))
  have N1 := hide (((unhide N0).below hb).below BB)
  have R1 := hide (((unhide R0).below hb).below BB)
  have U1 := hide (Blk.new w1 #[.bool f0, .bool f1, .bool f2, .bool f3] 60 w1.heap.size rfl)
  have hub : w.heap.size < w1.heap.size := Nat.lt_of_lt_of_le (unhide R0).1 hb.size
  clear hb BB K0 N0 R0 HFl
  go_upto_region 2 with fail
  generalize w1.alloc (.cells #[.bool f0, .bool f1, .bool f2, .bool f3] 60) = w2 at *
  generalize w1.heap.size = ub at *
  have hpl2 := (unhide N1).1.1
  have x0 := (unhide N1).1.cell 0 rfl
  have x2 := (unhide N1).1.cell 2 rfl
  have x3 := (unhide N1).1.cell 3 rfl
  have x4 := (unhide N1).1.cell 4 rfl
  have x5 := (unhide N1).1.cell 5 rfl
  refine wp_region_noPanic ?_
  refine wp_region_held_drew (S := (fun wx => wx.cell? ⟨p, 0, none⟩ = some (.string sd) ∧ wx.cell? ⟨p, 2, none⟩ = some (.int .i64 z) ∧ wx.cell? ⟨p, 3, none⟩ = some (.string lg) ∧ wx.cell? ⟨p, 4, none⟩ = some (.string mp) ∧ wx.cell? ⟨p, 5, none⟩ = some (.int .i64 c))) (by kernel_rfl) ?_ (fun hHeld => ?_)
  · exact ⟨x0, x2, x3, x4, x5⟩
  have KD : Hid (Below w2.heap.size w2 w2.drew) := hide (below_drewN (Below.refl _ w2) 1)
  refine tkH 0 rfl ?_
  refine tkH 1 rfl ?_
  refine tkH 2 rfl ?_
  refine tkH 3 rfl ?_
  refine tkH 4 rfl ?_
  refine tkH 6 rfl ?_
  refine tkH 8 rfl ?_
  refine tkH 9 rfl ?_
  refine tkH 10 rfl ?_
  refine tkH 11 rfl ?_
  refine tkH 13 rfl ?_
  refine tkH 15 rfl ?_
  refine tkH 16 rfl ?_
  refine tkH 17 rfl ?_
  refine tkH 18 rfl ?_
  refine wpAnyH_ready (rs := [5]) (by kernel_rfl) (by simp) ?_
  refine AllReadyH.cons (o := _) rfl (fun K hK => ?_) AllReadyH.nil
  go_simp
  refine (unhide HC _).mono ?_
  rintro e w3 ⟨rfl, hb⟩
  have KD3 := hide ((unhide KD).trans (hb.mono (unhide KD).size))
  clear hb
  go_wp2_with fail
  refine hK.out _ _ ?_ (fun hHeld => ?_)
  · exact ⟨((unhide KD3).cell (p := ⟨p, 0, none⟩) hpl2).trans x0, ((unhide KD3).cell (p := ⟨p, 2, none⟩) hpl2).trans x2, ((unhide KD3).cell (p := ⟨p, 3, none⟩) hpl2).trans x3, ((unhide KD3).cell (p := ⟨p, 4, none⟩) hpl2).trans x4, ((unhide KD3).cell (p := ⟨p, 5, none⟩) hpl2).trans x5⟩
  clear hK K
  (try simp only [Act.put, List.getElem_toArray, List.getElem_cons_succ, List.getElem_cons_zero, List.setIfInBounds_toArray, List.set_cons_zero, List.set_cons_succ])
  refine tkH 7 rfl ?_
  refine wpAnyH_ready (rs := [12]) (by kernel_rfl) (by simp) ?_
  refine AllReadyH.cons (o := _) rfl (fun K hK => ?_) AllReadyH.nil
  go_simp
  refine (unhide HP _).mono ?_
  rintro e w4 ⟨rfl, hb⟩
  have KD4 := hide ((unhide KD3).trans (hb.mono (unhide KD3).size))
  clear hb
  go_wp2_with fail
  refine hK.out _ _ ?_ (fun hHeld => ?_)
  · exact ⟨((unhide KD4).cell (p := ⟨p, 0, none⟩) hpl2).trans x0, ((unhide KD4).cell (p := ⟨p, 2, none⟩) hpl2).trans x2, ((unhide KD4).cell (p := ⟨p, 3, none⟩) hpl2).trans x3, ((unhide KD4).cell (p := ⟨p, 4, none⟩) hpl2).trans x4, ((unhide KD4).cell (p := ⟨p, 5, none⟩) hpl2).trans x5⟩
  clear hK K
  (try simp only [Act.put, List.getElem_toArray, List.getElem_cons_succ, List.getElem_cons_zero, List.setIfInBounds_toArray, List.set_cons_zero, List.set_cons_succ])
  refine wpAnyH_ready (rs := [14]) (by kernel_rfl) (by simp) ?_
  refine AllReadyH.cons (o := _) rfl (fun K hK => ?_) AllReadyH.nil
  go_simp
  refine (unhide HHs _ ((unhide N1).below (unhide KD4))).mono ?_
  rintro e w5 ⟨rfl, rfl⟩
  go_wp2_with fail
  refine hK.out _ _ ?_ (fun hHeld => ?_)
  · exact ⟨((unhide KD4).cell (p := ⟨p, 0, none⟩) hpl2).trans x0, ((unhide KD4).cell (p := ⟨p, 2, none⟩) hpl2).trans x2, ((unhide KD4).cell (p := ⟨p, 3, none⟩) hpl2).trans x3, ((unhide KD4).cell (p := ⟨p, 4, none⟩) hpl2).trans x4, ((unhide KD4).cell (p := ⟨p, 5, none⟩) hpl2).trans x5⟩
  clear hK K
  (try simp only [Act.put, List.getElem_toArray, List.getElem_cons_succ, List.getElem_cons_zero, List.setIfInBounds_toArray, List.set_cons_zero, List.set_cons_succ])
  refine tkH 19 rfl ?_
  refine wpAnyH_ready (rs := [20]) (by kernel_rfl) (by simp) ?_
  refine AllReadyH.cons (o := _) rfl (fun K hK => ?_) AllReadyH.nil
  have R2 := (unhide R1).below (unhide KD4)
  have hrl := R2.1
  have r0 := R2.cell 0 rfl
  have q0 := R2.fro 0
  have r1 := R2.cell 1 rfl
  have q1 := R2.fro 1
  have r2 := R2.cell 2 rfl
  have q2 := R2.fro 2
  have r3 := R2.cell 3 rfl
  have q3 := R2.fro 3
  have r4 := R2.cell 4 rfl
  have q4 := R2.fro 4
  have r5 := R2.cell 5 rfl
  have q5 := R2.fro 5
  have r6 := R2.cell 6 rfl
  have q6 := R2.fro 6
  have TT := ((((((((Touch.refl (fun k => k = w.heap.size) w5).setCell ⟨w.heap.size, 0, none⟩ (.string sd) (fun _ => rfl)).setCell ⟨w.heap.size, 1, none⟩ (.slice (some ⟨ub, 0, none⟩) 4 4) (fun _ => rfl)).setCell ⟨w.heap.size, 2, none⟩ (.int .i64 z) (fun _ => rfl)).setCell ⟨w.heap.size, 3, none⟩ (.string lg) (fun _ => rfl)).setCell ⟨w.heap.size, 4, none⟩ (.string mp) (fun _ => rfl)).setCell ⟨w.heap.size, 5, none⟩ (.bool hd) (fun _ => rfl)).setCell ⟨w.heap.size, 6, none⟩ (.int .i64 c) (fun _ => rfl))
  have KF := hide ((unhide K1).trans (((unhide KD4).mono (unhide K1).size).trans (TT.below (Nat.le_trans (unhide K1).size (unhide KD4).size) (fun k hk e => by (try dsimp only at e); omega))))
  have RF := hide ((Blk.set (Blk.set (Blk.set (Blk.set (Blk.set (Blk.set (Blk.set R2 0 (.string sd) (by simp)) 1 (.slice (some ⟨ub, 0, none⟩) 4 4) (by simp)) 2 (.int .i64 z) (by simp)) 3 (.string lg) (by simp)) 4 (.string mp) (by simp)) 5 (.bool hd) (by simp)) 6 (.int .i64 c) (by simp)))
  have UF := hide (((unhide U1).below (unhide KD4)).kept TT (by omega))
  have NF := hide (((unhide N1).below (unhide KD4)).1.kept TT (by omega))
  clear R2 TT
  go_simp
  refine hK.out _ _ ?_ (fun hHeld => ?_)
  · exact ⟨(unhide NF).cell 0 rfl, (unhide NF).cell 2 rfl, (unhide NF).cell 3 rfl, (unhide NF).cell 4 rfl, (unhide NF).cell 5 rfl⟩
  clear hK K
  (try simp only [Act.put, List.getElem_toArray, List.getElem_cons_succ, List.getElem_cons_zero, List.setIfInBounds_toArray, List.set_cons_zero, List.set_cons_succ])
  refine wpAnyH_done (by kernel_rfl) (NoPanic.normal ?_) _
  dsimp only [List.set] at RF
  go_wp2_with fail
  generalize (((((((w5).setCell ⟨w.heap.size, 0, none⟩ (.string sd)).setCell ⟨w.heap.size, 1, none⟩ (.slice (some ⟨ub, 0, none⟩) 4 4)).setCell ⟨w.heap.size, 2, none⟩ (.int .i64 z)).setCell ⟨w.heap.size, 3, none⟩ (.string lg)).setCell ⟨w.heap.size, 4, none⟩ (.string mp)).setCell ⟨w.heap.size, 5, none⟩ (.bool hd)).setCell ⟨w.heap.size, 6, none⟩ (.int .i64 c) = w6 at *
  have s0 := (unhide RF).cell 0 rfl
  have s1 := (unhide RF).cell 1 rfl
  have s2 := (unhide RF).cell 2 rfl
  have s3 := (unhide RF).cell 3 rfl
  have s4 := (unhide RF).cell 4 rfl
  have s5 := (unhide RF).cell 5 rfl
  have s6 := (unhide RF).cell 6 rfl
  refine bodyPost_ret (v := .agg #[.string sd, .slice (some ⟨ub, 0, none⟩) 4 4, .int .i64 z, .string lg, .string mp, .bool hd, .int .i64 c]) (by simp [results, Try.results15, go_sem, s0, s1, s2, s3, s4, s5, s6]) rfl ?_
  exact ⟨ub, rfl, Or.inr ⟨ub, rfl, rfl, by omega, unhide UF⟩, unhide KF⟩
end Go.Proofs.Ytkojmnlfpccbiaa
