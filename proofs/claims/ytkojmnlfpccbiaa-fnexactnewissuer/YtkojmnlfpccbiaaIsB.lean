/- Whether a notary can be opened; whether an issuer is right (impl). (Written by py/isb.py.) -/
import Derived.Test.YtkojmnlfpccbiaaIsA
import Derived.Deep.Cut
namespace Go.Proofs.Ytkojmnlfpccbiaa
open Go.ChangeShapes Go.WideShapes Go.ChangeAt Go.RowKit Go.Deep
set_option linter.unusedVariables false
set_option linter.unusedSimpArgs false
set_option maxRecDepth 100000

/-- Flags of a known place, four of them. -/
theorem Bos.four {w : World} {a : Option Addr} {cap : Nat} {l : List Bool} (h : Bos w (.slice a 4 cap) l) (hl : l.length = 4) : ∃ g off f0 f1 f2 f3, a = some ⟨g, off, none⟩ ∧ l = [f0, f1, f2, f3] ∧ w.cell? ⟨g, off, none⟩ = some (.bool f0) ∧ w.cell? ⟨g, off + 1, none⟩ = some (.bool f1) ∧ w.cell? ⟨g, off + 2, none⟩ = some (.bool f2) ∧ w.cell? ⟨g, off + 3, none⟩ = some (.bool f3) := by
  obtain ⟨a', cap', e, hm, hc⟩ := h
  simp only [Value.slice.injEq] at e
  obtain ⟨rfl, _, rfl⟩ := e
  match l, hl with
  | [f0, f1, f2, f3], _ =>
    rcases hc with h0 | ⟨b, off, ha, hb, hc⟩
    · simp at h0
    · exact ⟨b, off, f0, f1, f2, f3, ha, rfl, hc 0 (by simp), hc 1 (by simp), hc 2 (by simp), hc 3 (by simp)⟩
set_option maxHeartbeats 4000000 in
theorem openNotary_four (sd : ByteArray) (g off cap : Nat) (z : Int) (lg mp : ByteArray) (hs : Bool) (n : Nat) (f0 f1 f2 f3 : Bool) (w : World) (hsd : sd.size = 32) (hl : lg.size ≤ maxLen) (hm : mp.size ≤ maxLen) (hn : n ≤ 4)
    (h0 : w.cell? ⟨g, off, none⟩ = some (.bool f0)) (h1 : w.cell? ⟨g, off + 1, none⟩ = some (.bool f1)) (h2 : w.cell? ⟨g, off + 2, none⟩ = some (.bool f2)) (h3 : w.cell? ⟨g, off + 3, none⟩ = some (.bool f3)) :
    Calls Try.prog 27 #[.agg #[.string sd, .slice (some ⟨g, off, none⟩) 4 cap, .int .i64 z, .string lg, .string mp, .bool hs, .int .i64 (n : Int)]] w fun e w' => ∃ pv, e = .returned (.tuple #[pv, .bool (kfEq f0 f1 f2 f3 (fuB 0 n) (fuB 1 n) (fuB 2 n) (fuB 3 n) && ((decide (0 < (n : Int)) == hs) && lstB z lg mp (n : Int)))]) ∧ Below w.heap.size w w' := by
  have HS := hide (fun wx => implSignerOK_any sd (some ⟨g, off, none⟩) 4 cap wx (by rw [hsd]; unfold maxLen; omega) (by unfold maxLen; omega))
  have hsg : sgrB sd 4 = true := by simp [sgrB, hsd]
  rw [hsg] at HS
  have HI := hide (fun wx => within_any (n : Int) 0 4 wx)
  have hin : inB (n : Int) 0 4 = true := by rw [inB_iff]; omega
  rw [hin] at HI
  have B0 := hide ((Below.refl w.heap.size w).alloc (Nat.le_refl _) (.cells #[.string sd, .slice (some ⟨g, off, none⟩) 4 cap, .int .i64 z, .string lg, .string mp, .bool hs, .int .i64 (n : Int)] 28))
  have X0 := hide (Blk.new w #[.string sd, .slice (some ⟨g, off, none⟩) 4 cap, .int .i64 z, .string lg, .string mp, .bool hs, .int .i64 (n : Int)] 28 w.heap.size rfl)
  have hg : g < w.heap.size := World.block_lt_of_cell? w _ h0
  have HC := hide (fun wx (hx : Below w.heap.size w wx) => show wx.cell? ⟨g, off, none⟩ = some (.bool f0) ∧ wx.cell? ⟨g, off + 1, none⟩ = some (.bool f1) ∧ wx.cell? ⟨g, off + 2, none⟩ = some (.bool f2) ∧ wx.cell? ⟨g, off + 3, none⟩ = some (.bool f3) from ⟨(hx.cell (p := ⟨g, off, none⟩) hg).trans h0, (hx.cell (p := ⟨g, off + 1, none⟩) hg).trans h1, (hx.cell (p := ⟨g, off + 2, none⟩) hg).trans h2, (hx.cell (p := ⟨g, off + 3, none⟩) hg).trans h3⟩)
  have HL := hide (fun wx p (h : NtyR wx p g off cap sd z lg mp (n : Int) f0 f1 f2 f3) => lastOK_any p g off cap sd z lg mp (n : Int) f0 f1 f2 f3 wx h hl hm)
  clear h0 h1 h2 h3 hg hsg hin hl hm
  have q1 := fun wx => eql_kf wx f0 f1 f2 f3 (fuB 0 n) (fuB 1 n) (fuB 2 n) (fuB 3 n)
  have q3 : Try.prog.eqGuardType Try.prog.depth 60 = false := by kernel_rfl
  have HFl := hide (fun wx p (h : NtyR wx p g off cap sd z lg mp (n : Int) f0 f1 f2 f3) => flags_any p g off cap sd z lg mp (n : Int) f0 f1 f2 f3 wx h)
  have HHs := hide (fun wx p (h : NtyR wx p g off cap sd z lg mp (n : Int) f0 f1 f2 f3) => has_any p g off cap sd z lg mp (n : Int) f0 f1 f2 f3 wx h)
  have HFu := hide (fun wx => firstUsed_any n wx hn)
  obtain ⟨ra, hra⟩ : ∃ ra, ra = kfEq f0 f1 f2 f3 (fuB 0 n) (fuB 1 n) (fuB 2 n) (fuB 3 n) := ⟨_, rfl⟩
  obtain ⟨hd, hhd⟩ : ∃ hd, hd = decide (0 < (n : Int)) := ⟨_, rfl⟩
  obtain ⟨ls, hls⟩ : ∃ ls, ls = lstB z lg mp (n : Int) := ⟨_, rfl⟩
  rw [← hra, ← hhd, ← hls]
  rw [← hra] at q1
  rw [← hhd] at HHs
  rw [← hls] at HL
  clear hra hhd hls
  generalize fuB 0 n = u0 at *
  generalize fuB 1 n = u1 at *
  generalize fuB 2 n = u2 at *
  generalize fuB 3 n = u3 at *
  go_enter Try.func27, Try.ntmps27
  go_wp2_with fail
  generalize w.alloc (.cells #[.string sd, .slice (some ⟨g, off, none⟩) 4 cap, .int .i64 z, .string lg, .string mp, .bool hs, .int .i64 (n : Int)] 28) = w0 at *
  refine (unhide HS w0).mono ?_
  rintro e w1 ⟨rfl, hb⟩
  have K1 := hide ((unhide B0).trans (hb.mono (unhide B0).size))
  have X1 := hide ((unhide X0).below hb)
  have hlb := (unhide X1).1
  have x0 := (unhide X1).cell 0 rfl
  have x1 := (unhide X1).cell 1 rfl
  have x2 := (unhide X1).cell 2 rfl
  have x3 := (unhide X1).cell 3 rfl
  have x4 := (unhide X1).cell 4 rfl
  have x5 := (unhide X1).cell 5 rfl
  have x6 := (unhide X1).cell 6 rfl
  clear hb B0 X0 HS
  go_wp2_with fail
  refine (unhide HI w1).mono ?_
  rintro e w' ⟨rfl, rfl⟩
  clear HI
  go_upto_region 4 with fail
  have BB := (Below.refl w'.heap.size w').alloc (Nat.le_refl _) (.cells #[.string sd, .slice (some ⟨g, off, none⟩) 4 cap, .int .i64 z, .string lg, .string mp, .int .i64 (n : Int)] 44)
  have K2 := hide ((unhide K1).trans (BB.mono (unhide K1).size))
  have X2 := hide ((unhide X1).below BB)
  have N2 := hide (show NtyR (w'.alloc (.cells #[.string sd, .slice (some ⟨g, off, none⟩) 4 cap, .int .i64 z, .string lg, .string mp, .int .i64 (n : Int)] 44)) w'.heap.size g off cap sd z lg mp (n : Int) f0 f1 f2 f3 from ⟨Blk.new w' #[.string sd, .slice (some ⟨g, off, none⟩) 4 cap, .int .i64 z, .string lg, .string mp, .int .i64 (n : Int)] 44 w'.heap.size rfl, unhide HC _ (unhide K2)⟩)
  clear BB K1 X1 HC x0 x1 x2 x3 x4 x5 x6 hlb
  generalize w'.alloc (.cells #[.string sd, .slice (some ⟨g, off, none⟩) 4 cap, .int .i64 z, .string lg, .string mp, .int .i64 (n : Int)] 44) = w2 at *
  obtain ⟨p, hp⟩ : ∃ p, p = w'.heap.size := ⟨_, rfl⟩
  rw [← hp] at N2 ⊢
  clear hp
  have hlb := (unhide X2).1
  have x5 := (unhide X2).cell 5 rfl
  have x6 := (unhide X2).cell 6 rfl
  cases ra
  · skip
    refine wp_region_noPanic ?_
    refine wp_region_held_drew (S := (fun wx => wx.cell? ⟨w.heap.size, 5, none⟩ = some (.bool hs) ∧ wx.cell? ⟨w.heap.size, 6, none⟩ = some (.int .i64 (n : Int)))) (by kernel_rfl) ?_ (fun hHeld => ?_)
    · exact ⟨x5, x6⟩
    have KD : Hid (Below w2.heap.size w2 w2.drew) := hide (below_drewN (Below.refl _ w2) 1)
    have KA : Hid (Below w2.heap.size w2 w2) := hide (Below.refl _ _)
    refine tkH 0 rfl ?_
    refine tkH 1 rfl ?_
    refine tkH 3 rfl ?_
    refine tkH 4 rfl ?_
    refine wpAnyH_ready (rs := [2]) (by kernel_rfl) (by simp) ?_
    refine AllReadyH.cons (o := _) rfl (fun K hK => ?_) AllReadyH.nil
    go_simp
    refine (unhide HFl _ p ((unhide N2).below (unhide KD))).mono ?_
    rintro e w3 ⟨rfl, hb3⟩
    have KA3 := hide ((unhide KD).trans (hb3.mono (unhide KD).size))
    clear hb3
    go_wp2_with fail
    refine hK.out _ _ ?_ (fun hHeld => ?_)
    · exact ⟨((unhide KA3).cell (p := ⟨w.heap.size, 5, none⟩) hlb).trans x5, ((unhide KA3).cell (p := ⟨w.heap.size, 6, none⟩) hlb).trans x6⟩
    clear hK K
    (try simp only [Act.put, List.getElem_toArray, List.getElem_cons_succ, List.getElem_cons_zero, List.setIfInBounds_toArray, List.set_cons_zero, List.set_cons_succ])
    refine wpAnyH_ready (rs := [5]) (by kernel_rfl) (by simp) ?_
    refine AllReadyH.cons (o := _) rfl (fun K hK => ?_) AllReadyH.nil
    go_simp
    refine (unhide HFu _).mono ?_
    rintro e w4 ⟨rfl, hb4⟩
    have KA4 := hide ((unhide KA3).trans (hb4.mono (unhide KA3).size))
    clear hb4
    go_wp2_with fail
    refine hK.out _ _ ?_ (fun hHeld => ?_)
    · exact ⟨((unhide KA4).cell (p := ⟨w.heap.size, 5, none⟩) hlb).trans x5, ((unhide KA4).cell (p := ⟨w.heap.size, 6, none⟩) hlb).trans x6⟩
    clear hK K
    (try simp only [Act.put, List.getElem_toArray, List.getElem_cons_succ, List.getElem_cons_zero, List.setIfInBounds_toArray, List.set_cons_zero, List.set_cons_succ])
    refine tkH 6 rfl ?_
    refine tkH 7 rfl ?_
    refine wpAnyH_take (i := 8) (oi := _) (v := undef) rfl (by kernel_rfl) (by kernel_rfl) (by kernel_rfl) (fun _ _ _ h => h) (Or.inr ⟨by rfl, rfl⟩) (by assumption) ?_
    (try simp only [Act.put, List.getElem_toArray, List.getElem_cons_succ, List.getElem_cons_zero, List.setIfInBounds_toArray, List.set_cons_zero, List.set_cons_succ])
    refine wpAnyH_take (i := 9) (oi := _) (v := undef) rfl (by kernel_rfl) (by kernel_rfl) (by kernel_rfl) (fun _ _ _ h => h) (Or.inr ⟨by rfl, rfl⟩) (by assumption) ?_
    (try simp only [Act.put, List.getElem_toArray, List.getElem_cons_succ, List.getElem_cons_zero, List.setIfInBounds_toArray, List.set_cons_zero, List.set_cons_succ])
    refine wpAnyH_take (i := 10) (oi := _) (v := undef) rfl (by kernel_rfl) (by kernel_rfl) (by kernel_rfl) (fun _ _ _ h => h) (Or.inr ⟨by rfl, rfl⟩) (by assumption) ?_
    (try simp only [Act.put, List.getElem_toArray, List.getElem_cons_succ, List.getElem_cons_zero, List.setIfInBounds_toArray, List.set_cons_zero, List.set_cons_succ])
    refine wpAnyH_take (i := 11) (oi := _) (v := undef) rfl (by kernel_rfl) (by kernel_rfl) (by kernel_rfl) (fun _ _ _ h => h) (Or.inr ⟨by rfl, rfl⟩) (by assumption) ?_
    (try simp only [Act.put, List.getElem_toArray, List.getElem_cons_succ, List.getElem_cons_zero, List.setIfInBounds_toArray, List.set_cons_zero, List.set_cons_succ])
    refine wpAnyH_take (i := 12) (oi := _) (v := undef) rfl (by kernel_rfl) (by kernel_rfl) (by kernel_rfl) (fun _ _ _ h => h) (Or.inr ⟨by rfl, rfl⟩) (by assumption) ?_
    (try simp only [Act.put, List.getElem_toArray, List.getElem_cons_succ, List.getElem_cons_zero, List.setIfInBounds_toArray, List.set_cons_zero, List.set_cons_succ])
    refine tkH 13 rfl ?_
    refine tkH 14 rfl ?_
    refine wpAnyH_take (i := 15) (oi := _) (v := undef) rfl (by kernel_rfl) (by kernel_rfl) (by kernel_rfl) (fun _ _ _ h => h) (Or.inr ⟨by rfl, rfl⟩) (by assumption) ?_
    (try simp only [Act.put, List.getElem_toArray, List.getElem_cons_succ, List.getElem_cons_zero, List.setIfInBounds_toArray, List.set_cons_zero, List.set_cons_succ])
    refine wpAnyH_take (i := 16) (oi := _) (v := undef) rfl (by kernel_rfl) (by kernel_rfl) (by kernel_rfl) (fun _ _ _ h => h) (Or.inr ⟨by rfl, rfl⟩) (by assumption) ?_
    (try simp only [Act.put, List.getElem_toArray, List.getElem_cons_succ, List.getElem_cons_zero, List.setIfInBounds_toArray, List.set_cons_zero, List.set_cons_succ])
    refine tkH 17 rfl ?_
    refine tkH 18 rfl ?_
    refine tkH 19 rfl ?_
    refine wpAnyH_done (by kernel_rfl) (NoPanic.normal ?_) _
    have KF := hide ((unhide K2).trans ((unhide KA4).mono (unhide K2).size))
    go_wp2_with fail
    refine bodyPost_ret (v := .tuple #[.pointer (some ⟨p, 0, none⟩), .bool (false)]) (by simp [results, Try.results27, go_sem]) rfl ?_
    exact ⟨_, rfl, unhide KF⟩
  by_cases hh : hd = hs
  · subst hh
    have q5 : (hd == hd) = true := by simp
    refine wp_region_noPanic ?_
    refine wp_region_held_drew (S := (fun wx => wx.cell? ⟨w.heap.size, 5, none⟩ = some (.bool hd) ∧ wx.cell? ⟨w.heap.size, 6, none⟩ = some (.int .i64 (n : Int)))) (by kernel_rfl) ?_ (fun hHeld => ?_)
    · exact ⟨x5, x6⟩
    have KD : Hid (Below w2.heap.size w2 w2.drew) := hide (below_drewN (Below.refl _ w2) 1)
    have KA : Hid (Below w2.heap.size w2 w2) := hide (Below.refl _ _)
    refine tkH 0 rfl ?_
    refine tkH 1 rfl ?_
    refine tkH 3 rfl ?_
    refine tkH 4 rfl ?_
    refine wpAnyH_ready (rs := [2]) (by kernel_rfl) (by simp) ?_
    refine AllReadyH.cons (o := _) rfl (fun K hK => ?_) AllReadyH.nil
    go_simp
    refine (unhide HFl _ p ((unhide N2).below (unhide KD))).mono ?_
    rintro e w3 ⟨rfl, hb3⟩
    have KA3 := hide ((unhide KD).trans (hb3.mono (unhide KD).size))
    clear hb3
    go_wp2_with fail
    refine hK.out _ _ ?_ (fun hHeld => ?_)
    · exact ⟨((unhide KA3).cell (p := ⟨w.heap.size, 5, none⟩) hlb).trans x5, ((unhide KA3).cell (p := ⟨w.heap.size, 6, none⟩) hlb).trans x6⟩
    clear hK K
    (try simp only [Act.put, List.getElem_toArray, List.getElem_cons_succ, List.getElem_cons_zero, List.setIfInBounds_toArray, List.set_cons_zero, List.set_cons_succ])
    refine wpAnyH_ready (rs := [5]) (by kernel_rfl) (by simp) ?_
    refine AllReadyH.cons (o := _) rfl (fun K hK => ?_) AllReadyH.nil
    go_simp
    refine (unhide HFu _).mono ?_
    rintro e w4 ⟨rfl, hb4⟩
    have KA4 := hide ((unhide KA3).trans (hb4.mono (unhide KA3).size))
    clear hb4
    go_wp2_with fail
    refine hK.out _ _ ?_ (fun hHeld => ?_)
    · exact ⟨((unhide KA4).cell (p := ⟨w.heap.size, 5, none⟩) hlb).trans x5, ((unhide KA4).cell (p := ⟨w.heap.size, 6, none⟩) hlb).trans x6⟩
    clear hK K
    (try simp only [Act.put, List.getElem_toArray, List.getElem_cons_succ, List.getElem_cons_zero, List.setIfInBounds_toArray, List.set_cons_zero, List.set_cons_succ])
    refine tkH 6 rfl ?_
    refine tkH 7 rfl ?_
    refine tkH 8 rfl ?_
    refine tkH 10 rfl ?_
    refine tkH 11 rfl ?_
    refine wpAnyH_ready (rs := [9]) (by kernel_rfl) (by simp) ?_
    refine AllReadyH.cons (o := _) rfl (fun K hK => ?_) AllReadyH.nil
    go_simp
    refine (unhide HHs _ p ((unhide N2).below (unhide KA4))).mono ?_
    rintro e w5 ⟨rfl, rfl⟩
    go_wp2_with fail
    refine hK.out _ _ ?_ (fun hHeld => ?_)
    · exact ⟨((unhide KA4).cell (p := ⟨w.heap.size, 5, none⟩) hlb).trans x5, ((unhide KA4).cell (p := ⟨w.heap.size, 6, none⟩) hlb).trans x6⟩
    clear hK K
    (try simp only [Act.put, List.getElem_toArray, List.getElem_cons_succ, List.getElem_cons_zero, List.setIfInBounds_toArray, List.set_cons_zero, List.set_cons_succ])
    refine tkH 12 rfl ?_
    refine tkH 13 rfl ?_
    refine tkH 14 rfl ?_
    refine tkH 15 rfl ?_
    refine wpAnyH_ready (rs := [16]) (by kernel_rfl) (by simp) ?_
    refine AllReadyH.cons (o := _) rfl (fun K hK => ?_) AllReadyH.nil
    go_simp
    refine (unhide HL _ p ((unhide N2).below (unhide KA4))).mono ?_
    rintro e w6 ⟨rfl, hb6⟩
    have KA6 := hide ((unhide KA4).trans (hb6.mono (unhide KA4).size))
    clear hb6
    go_wp2_with fail
    refine hK.out _ _ ?_ (fun hHeld => ?_)
    · exact ⟨((unhide KA6).cell (p := ⟨w.heap.size, 5, none⟩) hlb).trans x5, ((unhide KA6).cell (p := ⟨w.heap.size, 6, none⟩) hlb).trans x6⟩
    clear hK K
    (try simp only [Act.put, List.getElem_toArray, List.getElem_cons_succ, List.getElem_cons_zero, List.setIfInBounds_toArray, List.set_cons_zero, List.set_cons_succ])
    refine tkH 17 rfl ?_
    refine tkH 18 rfl ?_
    refine tkH 19 rfl ?_
    refine wpAnyH_done (by kernel_rfl) (NoPanic.normal ?_) _
    have KF := hide ((unhide K2).trans ((unhide KA6).mono (unhide K2).size))
    go_wp2_with fail
    refine bodyPost_ret (v := .tuple #[.pointer (some ⟨p, 0, none⟩), .bool (ls)]) (by simp [results, Try.results27, go_sem]) rfl ?_
    exact ⟨.pointer (some ⟨p, 0, none⟩), by rw [q5]; simp, unhide KF⟩
  · have q5 : (hd == hs) = false := by simp [hh]
    refine wp_region_noPanic ?_
    refine wp_region_held_drew (S := (fun wx => wx.cell? ⟨w.heap.size, 5, none⟩ = some (.bool hs) ∧ wx.cell? ⟨w.heap.size, 6, none⟩ = some (.int .i64 (n : Int)))) (by kernel_rfl) ?_ (fun hHeld => ?_)
    · exact ⟨x5, x6⟩
    have KD : Hid (Below w2.heap.size w2 w2.drew) := hide (below_drewN (Below.refl _ w2) 1)
    have KA : Hid (Below w2.heap.size w2 w2) := hide (Below.refl _ _)
    refine tkH 0 rfl ?_
    refine tkH 1 rfl ?_
    refine tkH 3 rfl ?_
    refine tkH 4 rfl ?_
    refine wpAnyH_ready (rs := [2]) (by kernel_rfl) (by simp) ?_
    refine AllReadyH.cons (o := _) rfl (fun K hK => ?_) AllReadyH.nil
    go_simp
    refine (unhide HFl _ p ((unhide N2).below (unhide KD))).mono ?_
    rintro e w3 ⟨rfl, hb3⟩
    have KA3 := hide ((unhide KD).trans (hb3.mono (unhide KD).size))
    clear hb3
    go_wp2_with fail
    refine hK.out _ _ ?_ (fun hHeld => ?_)
    · exact ⟨((unhide KA3).cell (p := ⟨w.heap.size, 5, none⟩) hlb).trans x5, ((unhide KA3).cell (p := ⟨w.heap.size, 6, none⟩) hlb).trans x6⟩
    clear hK K
    (try simp only [Act.put, List.getElem_toArray, List.getElem_cons_succ, List.getElem_cons_zero, List.setIfInBounds_toArray, List.set_cons_zero, List.set_cons_succ])
    refine wpAnyH_ready (rs := [5]) (by kernel_rfl) (by simp) ?_
    refine AllReadyH.cons (o := _) rfl (fun K hK => ?_) AllReadyH.nil
    go_simp
    refine (unhide HFu _).mono ?_
    rintro e w4 ⟨rfl, hb4⟩
    have KA4 := hide ((unhide KA3).trans (hb4.mono (unhide KA3).size))
    clear hb4
    go_wp2_with fail
    refine hK.out _ _ ?_ (fun hHeld => ?_)
    · exact ⟨((unhide KA4).cell (p := ⟨w.heap.size, 5, none⟩) hlb).trans x5, ((unhide KA4).cell (p := ⟨w.heap.size, 6, none⟩) hlb).trans x6⟩
    clear hK K
    (try simp only [Act.put, List.getElem_toArray, List.getElem_cons_succ, List.getElem_cons_zero, List.setIfInBounds_toArray, List.set_cons_zero, List.set_cons_succ])
    refine tkH 6 rfl ?_
    refine tkH 7 rfl ?_
    refine tkH 8 rfl ?_
    refine tkH 10 rfl ?_
    refine tkH 11 rfl ?_
    refine wpAnyH_ready (rs := [9]) (by kernel_rfl) (by simp) ?_
    refine AllReadyH.cons (o := _) rfl (fun K hK => ?_) AllReadyH.nil
    go_simp
    refine (unhide HHs _ p ((unhide N2).below (unhide KA4))).mono ?_
    rintro e w5 ⟨rfl, rfl⟩
    go_wp2_with fail
    refine hK.out _ _ ?_ (fun hHeld => ?_)
    · exact ⟨((unhide KA4).cell (p := ⟨w.heap.size, 5, none⟩) hlb).trans x5, ((unhide KA4).cell (p := ⟨w.heap.size, 6, none⟩) hlb).trans x6⟩
    clear hK K
    (try simp only [Act.put, List.getElem_toArray, List.getElem_cons_succ, List.getElem_cons_zero, List.setIfInBounds_toArray, List.set_cons_zero, List.set_cons_succ])
    refine tkH 12 rfl ?_
    refine tkH 13 rfl ?_
    refine tkH 14 rfl ?_
    refine wpAnyH_take (i := 15) (oi := _) (v := undef) rfl (by kernel_rfl) (by kernel_rfl) (by kernel_rfl) (fun _ _ _ h => h) (Or.inr ⟨by rfl, rfl⟩) (by assumption) ?_
    (try simp only [Act.put, List.getElem_toArray, List.getElem_cons_succ, List.getElem_cons_zero, List.setIfInBounds_toArray, List.set_cons_zero, List.set_cons_succ])
    refine wpAnyH_take (i := 16) (oi := _) (v := undef) rfl (by kernel_rfl) (by kernel_rfl) (by kernel_rfl) (fun _ _ _ h => h) (Or.inr ⟨by rfl, rfl⟩) (by assumption) ?_
    (try simp only [Act.put, List.getElem_toArray, List.getElem_cons_succ, List.getElem_cons_zero, List.setIfInBounds_toArray, List.set_cons_zero, List.set_cons_succ])
    refine tkH 17 rfl ?_
    refine tkH 18 rfl ?_
    refine tkH 19 rfl ?_
    refine wpAnyH_done (by kernel_rfl) (NoPanic.normal ?_) _
    have KF := hide ((unhide K2).trans ((unhide KA4).mono (unhide K2).size))
    go_wp2_with fail
    refine bodyPost_ret (v := .tuple #[.pointer (some ⟨p, 0, none⟩), .bool (false)]) (by simp [results, Try.results27, go_sem]) rfl ?_
    exact ⟨.pointer (some ⟨p, 0, none⟩), by rw [q5]; simp, unhide KF⟩
end Go.Proofs.Ytkojmnlfpccbiaa
