/- (*actor).send, walked. (Written by py/nph.py.) -/
import Derived.Test.YtljolldacpkeeaaNpG
namespace Go.Proofs.Ytljolldacpkeeaa
open Go.ChangeShapes Go.WideShapes Go.ChangeAt Go.RowKit Go.Deep
set_option linter.unusedVariables false
set_option linter.unusedSimpArgs false

set_option maxRecDepth 100000 in
set_option maxHeartbeats 1500000 in
theorem send_any (b D : Nat) (id tm kd fr dt t0 ix lt cm : Int) (ok : Bool) (ea : Option Addr) (en ec : Nat) (es : List En) (vs : List Value) (sv : Value) (l : List MV) (w0 w : World) (h : Blk w b vs) (h0 : vs[0]? = some (.int .i64 id)) (h1 : vs[1]? = some (.int .i64 tm)) (h13 : vs[13]? = some sv) (hbD : b < D) (hD : D ≤ w0.heap.size) (hN : Ns mgS D w0 sv l.length l) (hb : Below w0.heap.size w0 w) (hO : OwnE w0.heap.size w (.slice ea en ec) es) (hl : l.length ≤ 1000) :
    Calls Try.prog 81 #[.pointer (some ⟨b, 0, none⟩), .agg #[.int .i64 kd, .int .i64 fr, .int .i64 dt, .int .i64 t0, .int .i64 ix, .int .i64 lt, .int .i64 cm, .slice ea en ec, .bool ok]] w fun e w' => (∃ v, e = .returned v) ∧ ∃ v', Blk w' b (vs.set 13 v') ∧ Ns mgS D w' v' (l ++ [(⟨kd, id, dt, tm, ix, lt, cm, ok, es, .slice ea en ec⟩ : MV)]).length (l ++ [(⟨kd, id, dt, tm, ix, lt, cm, ok, es, .slice ea en ec⟩ : MV)]) ∧ Touch (fun k => k = b ∨ D ≤ k) w w' := by
  obtain ⟨i1, hj, hy0, hy1, hy2⟩ := info_parts infoMsg
  have hbw := h.1
  have X0 := hide (h.alloc (.cells #[.int .i64 kd, .int .i64 fr, .int .i64 dt, .int .i64 t0, .int .i64 ix, .int .i64 lt, .int .i64 cm, .slice ea en ec, .bool ok] 59))
  have M0 := hide (Blk.new w #[.int .i64 kd, .int .i64 fr, .int .i64 dt, .int .i64 t0, .int .i64 ix, .int .i64 lt, .int .i64 cm, .slice ea en ec, .bool ok] 59 w.heap.size rfl)
  have y0 := (unhide X0).cell 0 h0
  have y1 := (unhide X0).cell 1 h1
  have y2 := (h.alloc (.cells #[.int .i64 kd, .int .i64 id, .int .i64 dt, .int .i64 t0, .int .i64 ix, .int .i64 lt, .int .i64 cm, .slice ea en ec, .bool ok] 59)).cell 1 h1
  have f1 := (unhide M0).fro 1
  have f3 := (unhide M0).fro 3
  have c1 := (unhide M0).cell 1 rfl
  have c3 := (unhide M0).cell 3 rfl
  have hne : ¬ b = w.heap.size := by omega
  have HNE := hide hne
  have HX := hide h
  clear h hne
  go_enter Try.func81, Try.ntmps81
  go_wp2_with fail
  go_big_region
  have WB := (Below.refl w.heap.size w).alloc (Nat.le_refl _) (.cells #[.int .i64 kd, .int .i64 id, .int .i64 dt, .int .i64 tm, .int .i64 ix, .int .i64 lt, .int .i64 cm, .slice ea en ec, .bool ok] 59)
  have HB1 := hide (below_drewN WB 1)
  have M1 := hide ((Blk.new w #[.int .i64 kd, .int .i64 id, .int .i64 dt, .int .i64 tm, .int .i64 ix, .int .i64 lt, .int .i64 cm, .slice ea en ec, .bool ok] 59 w.heap.size rfl).drewN 1)
  change Hid (Below w.heap.size w (w.alloc (.cells #[.int .i64 kd, .int .i64 id, .int .i64 dt, .int .i64 tm, .int .i64 ix, .int .i64 lt, .int .i64 cm, .slice ea en ec, .bool ok] 59)).drew) at HB1
  change Hid (Blk (w.alloc (.cells #[.int .i64 kd, .int .i64 id, .int .i64 dt, .int .i64 tm, .int .i64 ix, .int .i64 lt, .int .i64 cm, .slice ea en ec, .bool ok] 59)).drew w.heap.size _) at M1
  clear WB X0 M0 y0 y1 y2 f1 f3 c1 c3
  generalize (w.alloc (.cells #[.int .i64 kd, .int .i64 id, .int .i64 dt, .int .i64 tm, .int .i64 ix, .int .i64 lt, .int .i64 cm, .slice ea en ec, .bool ok] 59)).drew = wq at *
  have X1 := hide ((unhide HX).below (unhide HB1))
  have HB2 := hide (below_drewN (unhide HB1) 1)
  have M2 := hide ((unhide M1).drewN 1)
  have X2 := hide ((unhide X1).drewN 1)
  change Hid (Below w.heap.size w wq.drew) at HB2
  change Hid (Blk wq.drew w.heap.size _) at M2
  change Hid (Blk wq.drew b _) at X2
  have m0 := (unhide M1).cell 0 rfl
  have m1 := (unhide M1).cell 1 rfl
  have m2 := (unhide M1).cell 2 rfl
  have m3 := (unhide M1).cell 3 rfl
  have m4 := (unhide M1).cell 4 rfl
  have m5 := (unhide M1).cell 5 rfl
  have m6 := (unhide M1).cell 6 rfl
  have m7 := (unhide M1).cell 7 rfl
  have m8 := (unhide M1).cell 8 rfl
  go_wp2_with fail
  refine wp_region_noPanic ?_
  refine wp_region_held_drew (S := (fun wx => wx.cell? ⟨w.heap.size, 0, none⟩ = some (.int .i64 kd) ∧ wx.cell? ⟨w.heap.size, 1, none⟩ = some (.int .i64 id) ∧ wx.cell? ⟨w.heap.size, 2, none⟩ = some (.int .i64 dt) ∧ wx.cell? ⟨w.heap.size, 3, none⟩ = some (.int .i64 tm) ∧ wx.cell? ⟨w.heap.size, 4, none⟩ = some (.int .i64 ix) ∧ wx.cell? ⟨w.heap.size, 5, none⟩ = some (.int .i64 lt) ∧ wx.cell? ⟨w.heap.size, 6, none⟩ = some (.int .i64 cm) ∧ wx.cell? ⟨w.heap.size, 7, none⟩ = some (.slice ea en ec) ∧ wx.cell? ⟨w.heap.size, 8, none⟩ = some (.bool ok))) (by kernel_rfl) ?_ (fun hHeld => ?_)
  · exact ⟨m0, m1, m2, m3, m4, m5, m6, m7, m8⟩
  refine wpAnyH_take (i := 0) (oi := _) (v := ?_) rfl (by kernel_rfl) (by kernel_rfl) (by kernel_rfl) (fun _ _ _ h => h) (Or.inl ⟨by rfl, ?_⟩) (by assumption) ?_
  rotate_left 1
  · (intro wq hSw; (try dsimp only at hSw); (try simp only [List.getElem_toArray, List.getElem_cons_succ, List.getElem_cons_zero]); go_simp; try with_reducible rfl)
  (try simp only [Act.put, List.getElem_toArray, List.getElem_cons_succ, List.getElem_cons_zero, List.setIfInBounds_toArray, List.set_cons_zero, List.set_cons_succ])
  refine wpAnyH_take (i := 1) (oi := _) (v := ?_) rfl (by kernel_rfl) (by kernel_rfl) (by kernel_rfl) (fun _ _ _ h => h) (Or.inl ⟨by rfl, ?_⟩) (by assumption) ?_
  rotate_left 1
  · (intro wq hSw; (try dsimp only at hSw); (try simp only [List.getElem_toArray, List.getElem_cons_succ, List.getElem_cons_zero]); go_simp; try with_reducible rfl)
  (try simp only [Act.put, List.getElem_toArray, List.getElem_cons_succ, List.getElem_cons_zero, List.setIfInBounds_toArray, List.set_cons_zero, List.set_cons_succ])
  refine wpAnyH_take (i := 2) (oi := _) (v := ?_) rfl (by kernel_rfl) (by kernel_rfl) (by kernel_rfl) (fun _ _ _ h => h) (Or.inl ⟨by rfl, ?_⟩) (by assumption) ?_
  rotate_left 1
  · (intro wq hSw; (try dsimp only at hSw); (try simp only [List.getElem_toArray, List.getElem_cons_succ, List.getElem_cons_zero]); go_simp; try with_reducible rfl)
  (try simp only [Act.put, List.getElem_toArray, List.getElem_cons_succ, List.getElem_cons_zero, List.setIfInBounds_toArray, List.set_cons_zero, List.set_cons_succ])
  refine wpAnyH_take (i := 3) (oi := _) (v := ?_) rfl (by kernel_rfl) (by kernel_rfl) (by kernel_rfl) (fun _ _ _ h => h) (Or.inl ⟨by rfl, ?_⟩) (by assumption) ?_
  rotate_left 1
  · (intro wq hSw; (try dsimp only at hSw); (try simp only [List.getElem_toArray, List.getElem_cons_succ, List.getElem_cons_zero]); go_simp; try with_reducible rfl)
  (try simp only [Act.put, List.getElem_toArray, List.getElem_cons_succ, List.getElem_cons_zero, List.setIfInBounds_toArray, List.set_cons_zero, List.set_cons_succ])
  refine wpAnyH_take (i := 5) (oi := _) (v := ?_) rfl (by kernel_rfl) (by kernel_rfl) (by kernel_rfl) (fun _ _ _ h => h) (Or.inl ⟨by rfl, ?_⟩) (by assumption) ?_
  rotate_left 1
  · (intro wq hSw; (try dsimp only at hSw); (try simp only [List.getElem_toArray, List.getElem_cons_succ, List.getElem_cons_zero]); go_simp; try with_reducible rfl)
  (try simp only [Act.put, List.getElem_toArray, List.getElem_cons_succ, List.getElem_cons_zero, List.setIfInBounds_toArray, List.set_cons_zero, List.set_cons_succ])
  clear m0 m1 m2 m3 m4 m5 m6 m7 m8 M1 X1 HB1
  generalize wq.drew = wz at *
  have m0 := (unhide M2).cell 0 rfl
  have m1 := (unhide M2).cell 1 rfl
  have m2 := (unhide M2).cell 2 rfl
  have m3 := (unhide M2).cell 3 rfl
  have m4 := (unhide M2).cell 4 rfl
  have m5 := (unhide M2).cell 5 rfl
  have m6 := (unhide M2).cell 6 rfl
  have m7 := (unhide M2).cell 7 rfl
  have m8 := (unhide M2).cell 8 rfl
  have y13 := (unhide X2).cell 13 h13
  have hmz : w.heap.size < wz.heap.size := (unhide M2).1
  have HB4 := hide ((Below.refl wz.heap.size wz).alloc (Nat.le_refl _) (.cells #[.int .i64 kd, .int .i64 id, .int .i64 dt, .int .i64 tm, .int .i64 ix, .int .i64 lt, .int .i64 cm, .slice ea en ec, .bool ok] 59))
  have HR4 := hide (blk_rw (Blk.new wz #[.int .i64 kd, .int .i64 id, .int .i64 dt, .int .i64 tm, .int .i64 ix, .int .i64 lt, .int .i64 cm, .slice ea en ec, .bool ok] 59 wz.heap.size rfl))
  have hs4 : wz.heap.size < (wz.alloc (.cells #[.int .i64 kd, .int .i64 id, .int .i64 dt, .int .i64 tm, .int .i64 ix, .int .i64 lt, .int .i64 cm, .slice ea en ec, .bool ok] 59)).heap.size := by simp
  have z13 := ((unhide HB4).cell (p := ⟨b, 13, none⟩) (show b < wz.heap.size by omega)).trans y13
  have hbX := unhide HB4
  refine wpAnyH_ready (rs := [4, 6]) (by kernel_rfl) (by simp) ?_
  refine AllReadyH.cons (o := _) rfl (fun K hK => ?_) (AllReadyH.cons (o := _) rfl (fun K hK => ?_) AllReadyH.nil)
  · go_simp
    refine hK.out _ _ ?_ (fun hHeld => ?_)
    · exact ⟨m0, m1, m2, m3, m4, m5, m6, m7, m8⟩
    clear hK K
    (try simp only [Act.put, List.getElem_toArray, List.getElem_cons_succ, List.getElem_cons_zero, List.setIfInBounds_toArray, List.set_cons_zero, List.set_cons_succ])
    refine wpAnyH_ready (rs := [6]) (by kernel_rfl) (by simp) ?_
    refine AllReadyH.cons (o := _) rfl (fun K hK => ?_) AllReadyH.nil
    go_simp
    refine hK.out _ _ ?_ (fun hHeld => ?_)
    · exact ⟨(hbX.cell (p := ⟨w.heap.size, 0, none⟩) hmz).trans m0, (hbX.cell (p := ⟨w.heap.size, 1, none⟩) hmz).trans m1, (hbX.cell (p := ⟨w.heap.size, 2, none⟩) hmz).trans m2, (hbX.cell (p := ⟨w.heap.size, 3, none⟩) hmz).trans m3, (hbX.cell (p := ⟨w.heap.size, 4, none⟩) hmz).trans m4, (hbX.cell (p := ⟨w.heap.size, 5, none⟩) hmz).trans m5, (hbX.cell (p := ⟨w.heap.size, 6, none⟩) hmz).trans m6, (hbX.cell (p := ⟨w.heap.size, 7, none⟩) hmz).trans m7, (hbX.cell (p := ⟨w.heap.size, 8, none⟩) hmz).trans m8⟩
    clear hK K
    (try simp only [Act.put, List.getElem_toArray, List.getElem_cons_succ, List.getElem_cons_zero, List.setIfInBounds_toArray, List.set_cons_zero, List.set_cons_succ])
    generalize wz.alloc (.cells #[.int .i64 kd, .int .i64 id, .int .i64 dt, .int .i64 tm, .int .i64 ix, .int .i64 lt, .int .i64 cm, .slice ea en ec, .bool ok] 59) = w4 at *
    have HRow := hide (own_kept (T := fun _ => False) (own_kept (T := fun _ => False) (own_kept (T := fun _ => False) hN.row (Touch.ofBelow hb) (fun _ _ e => e)) (Touch.ofBelow (unhide HB2)) (fun _ _ e => e)) (Touch.ofBelow (unhide HB4)) (fun _ _ e => e))
    have hs0 := hb.size
    have hs2 := (unhide HB2).size
    refine wpAnyH_ready (rs := [7]) (by kernel_rfl) (by simp) ?_
    refine AllReadyH.cons (o := _) rfl (fun K hK => ?_) AllReadyH.nil
    refine step_append_row rfl _ _ _ rfl D 59 i1 _ 9 88 Try.underlying30 hj hy0 hy1 hy2 rfl (by omega) sv l.length _ rfl (unhide HRow) _ 1 [.int .i64 kd, .int .i64 id, .int .i64 dt, .int .i64 tm, .int .i64 ix, .int .i64 lt, .int .i64 cm, .slice ea en ec, .bool ok] rfl (unhide HR4) rfl (by simp [Value.oneCell']) (by unfold maxLen; omega) (by omega) (by omega) ?_
    intro a6 c6 w5 hown5 hgrow5 hat5
    obtain ⟨g, rfl⟩ : ∃ g, a6 = some ⟨g, 0, none⟩ := by
      rcases own_shape hown5 with ⟨_, h0⟩ | ⟨g, cap, hq, _⟩
      · omega
      · simp only [Value.slice.injEq] at hq
        exact ⟨g, hq.1⟩
    have hat : sv.ownBlock = some g ∨ g = w4.heap.size := by
      rcases hat5 with h | h
      · exact .inl h.symm
      · right; simpa [Value.ownBlock] using h
    have hB03 := hb.trans ((unhide HB2).mono hb.size)
    have hsv : ∀ k, sv.ownBlock = some k → D ≤ k ∧ k < w0.heap.size := World.ownsRow.lt hN.row
    have hO3 : OwnE w0.heap.size wz (.slice ea en ec) es := OwnE.kept (T := fun _ => False) hO (Touch.ofBelow (unhide HB2)) (fun _ _ e => e)
    have NS := hide (Ns.pushed0 (S := mgS) (x := (⟨kd, id, dt, tm, ix, lt, cm, ok, es, .slice ea en ec⟩ : MV)) hN hB03 (fun q hq => by simp only [mgS, mgSubs, List.mem_cons, List.not_mem_nil, or_false] at hq; subst hq; exact hO3) (by simp [mgS, mgSubs]) (unhide HB4) hown5 hgrow5 hat (by omega))
    have T4 := (Touch.refl (fun q => sv.ownBlock = some q) w4).grown hgrow5 (fun q e _ => e)
    have X4 := (unhide X2).below (unhide HB4)
    have X5 := X4.kept T4 (fun e => by have := hsv b e; omega)
    have M4 := (unhide M2).below (unhide HB4)
    have M5 := M4.kept T4 (fun e => by have := hsv _ e; omega)
    have T5 := hide (((((Touch.ofBelow (T := fun k => k = b ∨ D ≤ k) (unhide HB2)).trans (T' := fun _ => False) (Touch.ofBelow (unhide HB4)) (fun _ _ e => e.elim)).grown hgrow5 (fun q e hq => .inr (hsv q e).1))).setCell ⟨b, 13, none⟩ (.slice (some ⟨g, 0, none⟩) (l.length + 1) c6) (fun _ => .inl rfl))
    have NS5 := hide ((unhide NS).kept (T := fun k => k = b) ((Touch.refl (fun k => k = b) w5).setCell ⟨b, 13, none⟩ (.slice (some ⟨g, 0, none⟩) (l.length + 1) c6) (fun _ => rfl)) (fun k e _ => by omega))
    obtain ⟨hv13, _⟩ := List.getElem?_eq_some_iff.1 h13
    have X6 := hide (X5.set 13 (.slice (some ⟨g, 0, none⟩) (l.length + 1) c6) hv13)
    have u13 := X5.cell 13 h13
    have f13 := X5.fro 13
    have M6 := M5.other (C := b) 13 (.slice (some ⟨g, 0, none⟩) (l.length + 1) c6) (fun e => by omega)
    have HM6 := hide M6
    refine hK.out _ _ ?_ (fun hHeld => ?_)
    · exact ⟨M5.cell 0 rfl, M5.cell 1 rfl, M5.cell 2 rfl, M5.cell 3 rfl, M5.cell 4 rfl, M5.cell 5 rfl, M5.cell 6 rfl, M5.cell 7 rfl, M5.cell 8 rfl⟩
    clear hK K T4 X4 X5 M4 M5 M6 hown5 hgrow5 hat5 hat HRow
    (try simp only [Act.put, List.getElem_toArray, List.getElem_cons_succ, List.getElem_cons_zero, List.setIfInBounds_toArray, List.set_cons_zero, List.set_cons_succ])
    refine wpAnyH_take (i := 8) (oi := _) (v := ?_) rfl (by kernel_rfl) (by kernel_rfl) (by kernel_rfl) (fun _ _ _ h => h) (Or.inl ⟨by rfl, ?_⟩) (by assumption) ?_
    rotate_left 1
    · (intro wq hSw; (try dsimp only at hSw); (try simp only [List.getElem_toArray, List.getElem_cons_succ, List.getElem_cons_zero]); go_simp; try with_reducible rfl)
    (try simp only [Act.put, List.getElem_toArray, List.getElem_cons_succ, List.getElem_cons_zero, List.setIfInBounds_toArray, List.set_cons_zero, List.set_cons_succ])
    refine wpAnyH_take (i := 9) (oi := _) (v := ?_) rfl (by kernel_rfl) (by kernel_rfl) (by kernel_rfl) (fun _ _ _ h => h) (Or.inl ⟨by rfl, ?_⟩) (by assumption) ?_
    rotate_left 1
    · (intro wq hSw; (try dsimp only at hSw); (try simp only [List.getElem_toArray, List.getElem_cons_succ, List.getElem_cons_zero]); go_simp; try with_reducible rfl)
    (try simp only [Act.put, List.getElem_toArray, List.getElem_cons_succ, List.getElem_cons_zero, List.setIfInBounds_toArray, List.set_cons_zero, List.set_cons_succ])
    refine wpAnyH_ready (rs := [10]) (by kernel_rfl) (by simp) ?_
    refine AllReadyH.cons (o := _) rfl (fun K hK => ?_) AllReadyH.nil
    go_simp
    refine hK.out _ _ ?_ (fun hHeld => ?_)
    · exact ⟨(unhide HM6).cell 0 rfl, (unhide HM6).cell 1 rfl, (unhide HM6).cell 2 rfl, (unhide HM6).cell 3 rfl, (unhide HM6).cell 4 rfl, (unhide HM6).cell 5 rfl, (unhide HM6).cell 6 rfl, (unhide HM6).cell 7 rfl, (unhide HM6).cell 8 rfl⟩
    clear hK K
    (try simp only [Act.put, List.getElem_toArray, List.getElem_cons_succ, List.getElem_cons_zero, List.setIfInBounds_toArray, List.set_cons_zero, List.set_cons_succ])
    refine wpAnyH_done (by kernel_rfl) (NoPanic.normal ?_) _
    go_wp2_with fail
    go_end0
    exact ⟨⟨_, rfl⟩, _, unhide X6, by first | exact unhide NS5 | (rw [List.length_append]; exact unhide NS5), unhide T5⟩
  · go_simp
    refine hK.out _ _ ?_ (fun hHeld => ?_)
    · exact ⟨(hbX.cell (p := ⟨w.heap.size, 0, none⟩) hmz).trans m0, (hbX.cell (p := ⟨w.heap.size, 1, none⟩) hmz).trans m1, (hbX.cell (p := ⟨w.heap.size, 2, none⟩) hmz).trans m2, (hbX.cell (p := ⟨w.heap.size, 3, none⟩) hmz).trans m3, (hbX.cell (p := ⟨w.heap.size, 4, none⟩) hmz).trans m4, (hbX.cell (p := ⟨w.heap.size, 5, none⟩) hmz).trans m5, (hbX.cell (p := ⟨w.heap.size, 6, none⟩) hmz).trans m6, (hbX.cell (p := ⟨w.heap.size, 7, none⟩) hmz).trans m7, (hbX.cell (p := ⟨w.heap.size, 8, none⟩) hmz).trans m8⟩
    clear hK K
    (try simp only [Act.put, List.getElem_toArray, List.getElem_cons_succ, List.getElem_cons_zero, List.setIfInBounds_toArray, List.set_cons_zero, List.set_cons_succ])
    refine wpAnyH_ready (rs := [4]) (by kernel_rfl) (by simp) ?_
    refine AllReadyH.cons (o := _) rfl (fun K hK => ?_) AllReadyH.nil
    go_simp
    refine hK.out _ _ ?_ (fun hHeld => ?_)
    · exact ⟨(hbX.cell (p := ⟨w.heap.size, 0, none⟩) hmz).trans m0, (hbX.cell (p := ⟨w.heap.size, 1, none⟩) hmz).trans m1, (hbX.cell (p := ⟨w.heap.size, 2, none⟩) hmz).trans m2, (hbX.cell (p := ⟨w.heap.size, 3, none⟩) hmz).trans m3, (hbX.cell (p := ⟨w.heap.size, 4, none⟩) hmz).trans m4, (hbX.cell (p := ⟨w.heap.size, 5, none⟩) hmz).trans m5, (hbX.cell (p := ⟨w.heap.size, 6, none⟩) hmz).trans m6, (hbX.cell (p := ⟨w.heap.size, 7, none⟩) hmz).trans m7, (hbX.cell (p := ⟨w.heap.size, 8, none⟩) hmz).trans m8⟩
    clear hK K
    (try simp only [Act.put, List.getElem_toArray, List.getElem_cons_succ, List.getElem_cons_zero, List.setIfInBounds_toArray, List.set_cons_zero, List.set_cons_succ])
    generalize wz.alloc (.cells #[.int .i64 kd, .int .i64 id, .int .i64 dt, .int .i64 tm, .int .i64 ix, .int .i64 lt, .int .i64 cm, .slice ea en ec, .bool ok] 59) = w4 at *
    have HRow := hide (own_kept (T := fun _ => False) (own_kept (T := fun _ => False) (own_kept (T := fun _ => False) hN.row (Touch.ofBelow hb) (fun _ _ e => e)) (Touch.ofBelow (unhide HB2)) (fun _ _ e => e)) (Touch.ofBelow (unhide HB4)) (fun _ _ e => e))
    have hs0 := hb.size
    have hs2 := (unhide HB2).size
    refine wpAnyH_ready (rs := [7]) (by kernel_rfl) (by simp) ?_
    refine AllReadyH.cons (o := _) rfl (fun K hK => ?_) AllReadyH.nil
    refine step_append_row rfl _ _ _ rfl D 59 i1 _ 9 88 Try.underlying30 hj hy0 hy1 hy2 rfl (by omega) sv l.length _ rfl (unhide HRow) _ 1 [.int .i64 kd, .int .i64 id, .int .i64 dt, .int .i64 tm, .int .i64 ix, .int .i64 lt, .int .i64 cm, .slice ea en ec, .bool ok] rfl (unhide HR4) rfl (by simp [Value.oneCell']) (by unfold maxLen; omega) (by omega) (by omega) ?_
    intro a6 c6 w5 hown5 hgrow5 hat5
    obtain ⟨g, rfl⟩ : ∃ g, a6 = some ⟨g, 0, none⟩ := by
      rcases own_shape hown5 with ⟨_, h0⟩ | ⟨g, cap, hq, _⟩
      · omega
      · simp only [Value.slice.injEq] at hq
        exact ⟨g, hq.1⟩
    have hat : sv.ownBlock = some g ∨ g = w4.heap.size := by
      rcases hat5 with h | h
      · exact .inl h.symm
      · right; simpa [Value.ownBlock] using h
    have hB03 := hb.trans ((unhide HB2).mono hb.size)
    have hsv : ∀ k, sv.ownBlock = some k → D ≤ k ∧ k < w0.heap.size := World.ownsRow.lt hN.row
    have hO3 : OwnE w0.heap.size wz (.slice ea en ec) es := OwnE.kept (T := fun _ => False) hO (Touch.ofBelow (unhide HB2)) (fun _ _ e => e)
    have NS := hide (Ns.pushed0 (S := mgS) (x := (⟨kd, id, dt, tm, ix, lt, cm, ok, es, .slice ea en ec⟩ : MV)) hN hB03 (fun q hq => by simp only [mgS, mgSubs, List.mem_cons, List.not_mem_nil, or_false] at hq; subst hq; exact hO3) (by simp [mgS, mgSubs]) (unhide HB4) hown5 hgrow5 hat (by omega))
    have T4 := (Touch.refl (fun q => sv.ownBlock = some q) w4).grown hgrow5 (fun q e _ => e)
    have X4 := (unhide X2).below (unhide HB4)
    have X5 := X4.kept T4 (fun e => by have := hsv b e; omega)
    have M4 := (unhide M2).below (unhide HB4)
    have M5 := M4.kept T4 (fun e => by have := hsv _ e; omega)
    have T5 := hide (((((Touch.ofBelow (T := fun k => k = b ∨ D ≤ k) (unhide HB2)).trans (T' := fun _ => False) (Touch.ofBelow (unhide HB4)) (fun _ _ e => e.elim)).grown hgrow5 (fun q e hq => .inr (hsv q e).1))).setCell ⟨b, 13, none⟩ (.slice (some ⟨g, 0, none⟩) (l.length + 1) c6) (fun _ => .inl rfl))
    have NS5 := hide ((unhide NS).kept (T := fun k => k = b) ((Touch.refl (fun k => k = b) w5).setCell ⟨b, 13, none⟩ (.slice (some ⟨g, 0, none⟩) (l.length + 1) c6) (fun _ => rfl)) (fun k e _ => by omega))
    obtain ⟨hv13, _⟩ := List.getElem?_eq_some_iff.1 h13
    have X6 := hide (X5.set 13 (.slice (some ⟨g, 0, none⟩) (l.length + 1) c6) hv13)
    have u13 := X5.cell 13 h13
    have f13 := X5.fro 13
    have M6 := M5.other (C := b) 13 (.slice (some ⟨g, 0, none⟩) (l.length + 1) c6) (fun e => by omega)
    have HM6 := hide M6
    refine hK.out _ _ ?_ (fun hHeld => ?_)
    · exact ⟨M5.cell 0 rfl, M5.cell 1 rfl, M5.cell 2 rfl, M5.cell 3 rfl, M5.cell 4 rfl, M5.cell 5 rfl, M5.cell 6 rfl, M5.cell 7 rfl, M5.cell 8 rfl⟩
    clear hK K T4 X4 X5 M4 M5 M6 hown5 hgrow5 hat5 hat HRow
    (try simp only [Act.put, List.getElem_toArray, List.getElem_cons_succ, List.getElem_cons_zero, List.setIfInBounds_toArray, List.set_cons_zero, List.set_cons_succ])
    refine wpAnyH_take (i := 8) (oi := _) (v := ?_) rfl (by kernel_rfl) (by kernel_rfl) (by kernel_rfl) (fun _ _ _ h => h) (Or.inl ⟨by rfl, ?_⟩) (by assumption) ?_
    rotate_left 1
    · (intro wq hSw; (try dsimp only at hSw); (try simp only [List.getElem_toArray, List.getElem_cons_succ, List.getElem_cons_zero]); go_simp; try with_reducible rfl)
    (try simp only [Act.put, List.getElem_toArray, List.getElem_cons_succ, List.getElem_cons_zero, List.setIfInBounds_toArray, List.set_cons_zero, List.set_cons_succ])
    refine wpAnyH_take (i := 9) (oi := _) (v := ?_) rfl (by kernel_rfl) (by kernel_rfl) (by kernel_rfl) (fun _ _ _ h => h) (Or.inl ⟨by rfl, ?_⟩) (by assumption) ?_
    rotate_left 1
    · (intro wq hSw; (try dsimp only at hSw); (try simp only [List.getElem_toArray, List.getElem_cons_succ, List.getElem_cons_zero]); go_simp; try with_reducible rfl)
    (try simp only [Act.put, List.getElem_toArray, List.getElem_cons_succ, List.getElem_cons_zero, List.setIfInBounds_toArray, List.set_cons_zero, List.set_cons_succ])
    refine wpAnyH_ready (rs := [10]) (by kernel_rfl) (by simp) ?_
    refine AllReadyH.cons (o := _) rfl (fun K hK => ?_) AllReadyH.nil
    go_simp
    refine hK.out _ _ ?_ (fun hHeld => ?_)
    · exact ⟨(unhide HM6).cell 0 rfl, (unhide HM6).cell 1 rfl, (unhide HM6).cell 2 rfl, (unhide HM6).cell 3 rfl, (unhide HM6).cell 4 rfl, (unhide HM6).cell 5 rfl, (unhide HM6).cell 6 rfl, (unhide HM6).cell 7 rfl, (unhide HM6).cell 8 rfl⟩
    clear hK K
    (try simp only [Act.put, List.getElem_toArray, List.getElem_cons_succ, List.getElem_cons_zero, List.setIfInBounds_toArray, List.set_cons_zero, List.set_cons_succ])
    refine wpAnyH_done (by kernel_rfl) (NoPanic.normal ?_) _
    go_wp2_with fail
    go_end0
    exact ⟨⟨_, rfl⟩, _, unhide X6, by first | exact unhide NS5 | (rw [List.length_append]; exact unhide NS5), unhide T5⟩
end Go.Proofs.Ytljolldacpkeeaa
