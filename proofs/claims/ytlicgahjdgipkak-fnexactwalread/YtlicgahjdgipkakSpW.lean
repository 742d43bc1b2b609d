/- Both WalRead, walked. -/
import Derived.Test.YtlicgahjdgipkakSpL
import Derived.Test.YtlicgahjdgipkakFilP
namespace Go.Proofs.Ytlicgahjdgipkak
open Go.ChangeShapes Go.WideShapes Go.ChangeAt Go.RowKit
set_option linter.unusedVariables false
set_option linter.unusedSimpArgs false

/-- An answer of four cells laid into its block. -/
theorem wal_set {w w1 wz : World} {f t : Int} {ra na : Option Addr} {rn rc nn nc : Nat} {L : Lg} (hb : Below w.heap.size w wz) (hr : Blk wz (w.heap.size + 1) [.int .i64 0, .slice none 0 0, .slice none 0 0, .int .i64 0]) (hA : WalA (w.heap.size + 2) wz L (.slice ra rn rc) (.slice na nn nc)) :
    Blk ((((wz.setCell ⟨w.heap.size + 1, 0, none⟩ (.int .i64 f)).setCell ⟨w.heap.size + 1, 1, none⟩ (.slice ra rn rc)).setCell ⟨w.heap.size + 1, 2, none⟩ (.slice na nn nc)).setCell ⟨w.heap.size + 1, 3, none⟩ (.int .i64 t)) (w.heap.size + 1) [.int .i64 f, .slice ra rn rc, .slice na nn nc, .int .i64 t] ∧
    WalA (w.heap.size + 2) ((((wz.setCell ⟨w.heap.size + 1, 0, none⟩ (.int .i64 f)).setCell ⟨w.heap.size + 1, 1, none⟩ (.slice ra rn rc)).setCell ⟨w.heap.size + 1, 2, none⟩ (.slice na nn nc)).setCell ⟨w.heap.size + 1, 3, none⟩ (.int .i64 t)) L (.slice ra rn rc) (.slice na nn nc) ∧
    Below w.heap.size w ((((wz.setCell ⟨w.heap.size + 1, 0, none⟩ (.int .i64 f)).setCell ⟨w.heap.size + 1, 1, none⟩ (.slice ra rn rc)).setCell ⟨w.heap.size + 1, 2, none⟩ (.slice na nn nc)).setCell ⟨w.heap.size + 1, 3, none⟩ (.int .i64 t)) := by
  have T5 := (((((Touch.refl (fun k => k = w.heap.size + 1) wz).setCell ⟨w.heap.size + 1, 0, none⟩ (.int .i64 f) (fun _ => rfl)).setCell ⟨w.heap.size + 1, 1, none⟩ (.slice ra rn rc) (fun _ => rfl)).setCell ⟨w.heap.size + 1, 2, none⟩ (.slice na nn nc) (fun _ => rfl)).setCell ⟨w.heap.size + 1, 3, none⟩ (.int .i64 t) (fun _ => rfl))
  exact ⟨(((hr.set 0 (.int .i64 f) (by simp)).set 1 (.slice ra rn rc) (by simp)).set 2 (.slice na nn nc) (by simp)).set 3 (.int .i64 t) (by simp), hA.kept T5 (fun k hk => by omega), hb.trans (T5.below (B := w.heap.size) hb.size (fun k hk e => by omega))⟩

set_option maxRecDepth 100000 in
set_option maxHeartbeats 2000000 in
theorem implWalRead_any (room : Int) (v : Value) (l : List Fl) (w : World) (h : Fls w v l) (hs : Small l) :
    Calls Try.prog 8 #[.agg #[.int .i64 room, v]] w fun e w' => ∃ ra rn rc na nn nc, e = .returned (.tuple #[.agg #[.int .i64 (walOut room l).1.first, .slice ra rn rc, .slice na nn nc, .int .i64 (walOut room l).1.torn], .int .i64 (walOut room l).2]) ∧ WalA (w.heap.size + 2) w' (walOut room l).1 (.slice ra rn rc) (.slice na nn nc) ∧ Below w.heap.size w w' := by
  have HF := hide h
  have HS := hide hs
  obtain ⟨a, cap, rfl, hn, hm, hc⟩ := h
  clear hc hm hn hs
  have B0 := hide (((Below.refl w.heap.size w).alloc (Nat.le_refl _) (.cells #[.int .i64 room, .slice a l.length cap] 33)).alloc (by simp) (.cells #[.int .i64 0, .slice none 0 0, .slice none 0 0, .int .i64 0] 28))
  have R0 := hide (Blk.new (w.alloc (.cells #[.int .i64 room, .slice a l.length cap] 33)) #[.int .i64 0, .slice none 0 0, .slice none 0 0, .int .i64 0] 28 (w.heap.size + 1) (by simp))
  go_enter Try.func8, Try.ntmps8
  go_wp2_with fail
  generalize (w.alloc (.cells #[.int .i64 room, .slice a l.length cap] 33)).alloc (.cells #[.int .i64 0, .slice none 0 0, .slice none 0 0, .int .i64 0] 28) = w0 at *
  refine (readLog_any room _ l w0 ((unhide HF).below (unhide B0)) (unhide HS)).mono ?_
  rintro e w1 ⟨rv, nv, ga, gn, gc, rfl, hA, hb1⟩
  obtain ⟨ra, rc, rfl⟩ := hA.2.2.2.1
  obtain ⟨na, nc, rfl⟩ := hA.2.2.2.2
  have hz0 := (unhide R0).1
  have AA := (Below.refl w1.heap.size w1).alloc (Nat.le_refl _) (.cells #[.int .i64 (walOut room l).1.first, .slice ra (walOut room l).1.recs.length rc, .slice na (walOut room l).1.names.length nc, .int .i64 (walOut room l).1.torn, .slice ga gn gc] 51)
  have B1 := hide (((unhide B0).trans (hb1.mono (unhide B0).size)).trans (AA.mono (Nat.le_trans (unhide B0).size hb1.size)))
  have R1 := hide (((unhide R0).below hb1).below AA)
  have A1 := hide ((hA.below AA).mono (B' := w.heap.size + 2) (by omega))
  have W1 := hide (wal_set (w1 := w) (f := (walOut room l).1.first) (t := (walOut room l).1.torn) (unhide B1) (unhide R1) (unhide A1))
  have r0 := (unhide R1).cell 0 rfl
  have r1 := (unhide R1).cell 1 rfl
  have r2 := (unhide R1).cell 2 rfl
  have r3 := (unhide R1).cell 3 rfl
  have f0 := (unhide R1).fro 0
  have f1 := (unhide R1).fro 1
  have f2 := (unhide R1).fro 2
  have f3 := (unhide R1).fro 3
  clear hA hb1 AA
  generalize hout : walOut room l = out at *
  have HOUT := hide hout
  clear hout
  obtain ⟨L, cd⟩ := out
  dsimp only at *
  generalize L.recs.length = rn at *
  generalize L.names.length = nn at *
  have Y1 := hide (Blk.new w1 #[.int .i64 L.first, .slice ra rn rc, .slice na nn nc, .int .i64 L.torn, .slice ga gn gc] 51 w1.heap.size rfl)
  go_upto_region 2 with fail
  generalize w1.alloc (.cells #[.int .i64 L.first, .slice ra rn rc, .slice na nn nc, .int .i64 L.torn, .slice ga gn gc] 51) = w2 at *
  generalize w1.heap.size = yb at *
  have y0 := (unhide Y1).cell 0 rfl
  have y1 := (unhide Y1).cell 1 rfl
  have y2 := (unhide Y1).cell 2 rfl
  have y3 := (unhide Y1).cell 3 rfl
  go_wp2_with fail
  generalize (((w2.setCell ⟨w.heap.size + 1, 0, none⟩ (.int .i64 L.first)).setCell ⟨w.heap.size + 1, 1, none⟩ (.slice ra rn rc)).setCell ⟨w.heap.size + 1, 2, none⟩ (.slice na nn nc)).setCell ⟨w.heap.size + 1, 3, none⟩ (.int .i64 L.torn) = wf at *
  have z0 := (unhide W1).1.cell 0 rfl
  have z1 := (unhide W1).1.cell 1 rfl
  have z2 := (unhide W1).1.cell 2 rfl
  have z3 := (unhide W1).1.cell 3 rfl
  refine bodyPost_ret (v := .tuple #[.agg #[.int .i64 L.first, .slice ra rn rc, .slice na nn nc, .int .i64 L.torn], .int .i64 cd]) (by simp [results, Try.results8, go_sem, z0, z1, z2, z3]) rfl ?_
  rw [unhide HOUT]
  exact ⟨_, _, _, _, _, _, rfl, (unhide W1).2.1, (unhide W1).2.2⟩
set_option maxRecDepth 100000 in
set_option maxHeartbeats 2000000 in
theorem specWalRead_any (room : Int) (v : Value) (l : List Fl) (w : World) (h : Fls w v l) (hs : Small l) :
    Calls Try.prog 6 #[.agg #[.int .i64 room, v]] w fun e w' => ∃ ra rn rc na nn nc, e = .returned (.tuple #[.agg #[.int .i64 (walOut room l).1.first, .slice ra rn rc, .slice na nn nc, .int .i64 (walOut room l).1.torn], .int .i64 (walOut room l).2]) ∧ WalA (w.heap.size + 2) w' (walOut room l).1 (.slice ra rn rc) (.slice na nn nc) ∧ Below w.heap.size w w' := by
  have HF := hide h
  have HS := hide hs
  obtain ⟨a, cap, rfl, hn, hm, hc⟩ := h
  clear hc hm hn hs
  have B0 := hide (((Below.refl w.heap.size w).alloc (Nat.le_refl _) (.cells #[.int .i64 room, .slice a l.length cap] 33)).alloc (by simp) (.cells #[.int .i64 0, .slice none 0 0, .slice none 0 0, .int .i64 0] 28))
  have X0 := hide ((Blk.new w #[.int .i64 room, .slice a l.length cap] 33 w.heap.size rfl).alloc (.cells #[.int .i64 0, .slice none 0 0, .slice none 0 0, .int .i64 0] 28))
  have R0 := hide (Blk.new (w.alloc (.cells #[.int .i64 room, .slice a l.length cap] 33)) #[.int .i64 0, .slice none 0 0, .slice none 0 0, .int .i64 0] 28 (w.heap.size + 1) (by simp))
  go_enter Try.func6, Try.ntmps6
  go_wp2_with fail
  generalize (w.alloc (.cells #[.int .i64 room, .slice a l.length cap] 33)).alloc (.cells #[.int .i64 0, .slice none 0 0, .slice none 0 0, .int .i64 0] 28) = w0 at *
  refine (specDiskOK_any room _ l w0 ((unhide HF).below (unhide B0)) (unhide HS)).mono ?_
  rintro e w1 ⟨rfl, hb1⟩
  have B1 := hide ((unhide B0).trans (hb1.mono (unhide B0).size))
  have X1 := hide ((unhide X0).below hb1)
  have R1 := hide ((unhide R0).below hb1)
  clear hb1 B0 X0 R0
  cases hd : diskB room l
  · have HW := hide (show walOut room l = (lg0, 1) by unfold walOut; rw [hd]; rfl)
    have W1 := hide (wal_set (w1 := w) (f := 0) (t := 0) (unhide B1) (unhide R1) (WalA.none _ _))
    have r0 := (unhide R1).cell 0 rfl
    have r1 := (unhide R1).cell 1 rfl
    have r2 := (unhide R1).cell 2 rfl
    have r3 := (unhide R1).cell 3 rfl
    have f0 := (unhide R1).fro 0
    have f1 := (unhide R1).fro 1
    have f2 := (unhide R1).fro 2
    have f3 := (unhide R1).fro 3
    go_wp2_with fail
    generalize (((w1.setCell ⟨w.heap.size + 1, 0, none⟩ (.int .i64 0)).setCell ⟨w.heap.size + 1, 1, none⟩ (.slice none 0 0)).setCell ⟨w.heap.size + 1, 2, none⟩ (.slice none 0 0)).setCell ⟨w.heap.size + 1, 3, none⟩ (.int .i64 0) = wf at *
    have z0 := (unhide W1).1.cell 0 rfl
    have z1 := (unhide W1).1.cell 1 rfl
    have z2 := (unhide W1).1.cell 2 rfl
    have z3 := (unhide W1).1.cell 3 rfl
    refine bodyPost_ret (v := .tuple #[.agg #[.int .i64 0, .slice none 0 0, .slice none 0 0, .int .i64 0], .int .i64 1]) (by simp [results, Try.results6, go_sem, z0, z1, z2, z3]) rfl ?_
    rw [unhide HW]
    exact ⟨_, _, _, _, _, _, rfl, (unhide W1).2.1, (unhide W1).2.2⟩
  have HW := hide (show walOut room l = lgRun (segsP l) 0 by unfold walOut; rw [hd]; rfl)
  have x0 := (unhide X1).cell 0 rfl
  have x1 := (unhide X1).cell 1 rfl
  have hz1 := (unhide R1).1
  go_wp2_with fail
  refine (l04Read_any room _ l w1 ((unhide HF).below (unhide B1)) hd (unhide HS)).mono ?_
  rintro e w2 ⟨f, ra, rn, rc, na, nn, nc, t, rfl, hgood, hb2⟩
  have AA := (Below.refl w2.heap.size w2).alloc (Nat.le_refl _) (.cells #[.int .i64 f, .slice ra rn rc, .slice na nn nc, .int .i64 t] 28)
  have B3 := hide (((unhide B1).trans (hb2.mono (unhide B1).size)).trans (AA.mono (Nat.le_trans (unhide B1).size hb2.size)))
  have R3 := hide (((unhide R1).below hb2).below AA)
  have Y3 := hide (Blk.new w2 #[.int .i64 f, .slice ra rn rc, .slice na nn nc, .int .i64 t] 28 w2.heap.size rfl)
  have HG : Hid ((lgRun (segsP l) 0).2 = 0 → f = (lgRun (segsP l) 0).1.first ∧ t = (lgRun (segsP l) 0).1.torn ∧ WalA (w.heap.size + 2) (w2.alloc (.cells #[.int .i64 f, .slice ra rn rc, .slice na nn nc, .int .i64 t] 28)) (lgRun (segsP l) 0).1 (.slice ra rn rc) (.slice na nn nc)) := hide (fun h0 => ⟨(hgood h0).1, (hgood h0).2.1, ((hgood h0).2.2.below AA).mono (by omega)⟩)
  have HBAD := hide (lgRun_bad (segsP l) _ 0 rfl)
  have r0 := (unhide R3).cell 0 rfl
  have r1 := (unhide R3).cell 1 rfl
  have r2 := (unhide R3).cell 2 rfl
  have r3 := (unhide R3).cell 3 rfl
  have f0 := (unhide R3).fro 0
  have f1 := (unhide R3).fro 1
  have f2 := (unhide R3).fro 2
  have f3 := (unhide R3).fro 3
  clear hgood hb2 AA B1 X1 R1 x0 x1 hd
  generalize lgRun (segsP l) 0 = out at *
  obtain ⟨L, cd⟩ := out
  dsimp only at HG HBAD ⊢
  go_upto_region 4 with fail
  generalize w2.alloc (.cells #[.int .i64 f, .slice ra rn rc, .slice na nn nc, .int .i64 t] 28) = w3 at *
  generalize w2.heap.size = yb at *
  by_cases hc0 : cd = 0
  · obtain ⟨hf, ht, hA⟩ := unhide HG hc0
    have y0 := (unhide Y3).cell 0 rfl
    have y1 := (unhide Y3).cell 1 rfl
    have y2 := (unhide Y3).cell 2 rfl
    have y3 := (unhide Y3).cell 3 rfl
    have W1 := hide (wal_set (w1 := w) (f := f) (t := t) (unhide B3) (unhide R3) hA)
    have HFT := hide (And.intro hf ht)
    clear hf ht hA HG HBAD
    subst hc0
    go_wp2_with fail
    generalize (((w3.setCell ⟨w.heap.size + 1, 0, none⟩ (.int .i64 f)).setCell ⟨w.heap.size + 1, 1, none⟩ (.slice ra rn rc)).setCell ⟨w.heap.size + 1, 2, none⟩ (.slice na nn nc)).setCell ⟨w.heap.size + 1, 3, none⟩ (.int .i64 t) = wf at *
    have z0 := (unhide W1).1.cell 0 rfl
    have z1 := (unhide W1).1.cell 1 rfl
    have z2 := (unhide W1).1.cell 2 rfl
    have z3 := (unhide W1).1.cell 3 rfl
    refine bodyPost_ret (v := .tuple #[.agg #[.int .i64 f, .slice ra rn rc, .slice na nn nc, .int .i64 t], .int .i64 0]) (by simp [results, Try.results6, go_sem, z0, z1, z2, z3]) rfl ?_
    rw [unhide HW]
    refine ⟨_, _, _, _, _, _, ?_, (unhide W1).2.1, (unhide W1).2.2⟩
    rw [(unhide HFT).1, (unhide HFT).2]
  · have HL : Hid ((L, cd) = (lg0, cd)) := hide (unhide HBAD hc0)
    have hcb : (cd == 0) = false := by rw [beq_eq_false_iff_ne]; exact hc0
    have W1 := hide (wal_set (w1 := w) (f := 0) (t := 0) (unhide B3) (unhide R3) (WalA.none _ _))
    clear HG HBAD hc0
    go_wp2_with fail
    generalize (((w3.setCell ⟨w.heap.size + 1, 0, none⟩ (.int .i64 0)).setCell ⟨w.heap.size + 1, 1, none⟩ (.slice none 0 0)).setCell ⟨w.heap.size + 1, 2, none⟩ (.slice none 0 0)).setCell ⟨w.heap.size + 1, 3, none⟩ (.int .i64 0) = wf at *
    have z0 := (unhide W1).1.cell 0 rfl
    have z1 := (unhide W1).1.cell 1 rfl
    have z2 := (unhide W1).1.cell 2 rfl
    have z3 := (unhide W1).1.cell 3 rfl
    refine bodyPost_ret (v := .tuple #[.agg #[.int .i64 0, .slice none 0 0, .slice none 0 0, .int .i64 0], .int .i64 cd]) (by simp [results, Try.results6, go_sem, z0, z1, z2, z3]) rfl ?_
    rw [unhide HW, unhide HL]
    exact ⟨_, _, _, _, _, _, rfl, (unhide W1).2.1, (unhide W1).2.2⟩
end Go.Proofs.Ytlicgahjdgipkak
