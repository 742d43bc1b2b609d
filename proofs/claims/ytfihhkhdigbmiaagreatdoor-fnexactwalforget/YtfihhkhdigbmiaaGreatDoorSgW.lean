/- impl.readLog, impl.WalRead, walked. -/
import Derived.Test.YtfihhkhdigbmiaaGreatDoorSgS
import Derived.Test.YtfihhkhdigbmiaaGreatDoorSmallD
namespace Go.Proofs.YtfihhkhdigbmiaaGreatDoor
open Go.ChangeShapes Go.WideShapes Go.ChangeAt Go.RowKit
set_option linter.unusedVariables false
set_option linter.unusedSimpArgs false

theorem segs_len (l : List Fl) (h : l.length ≤ 8) : (segsP l).length ≤ 8 := Nat.le_trans (List.length_filter_le _ _) h
theorem disk_len {room : Int} {l : List Fl} (h : diskB room l = true) : l.length ≤ 8 := by
  unfold diskB at h
  simp only [Bool.and_eq_true, decide_eq_true_eq] at h
  exact h.1.1.2
theorem lgRun_bad (sg : List Fl) : ∀ n i, sg.length - i = n → (lgRun sg i).2 ≠ 0 → lgRun sg i = (lg0, (lgRun sg i).2) := by
  intro n
  induction n using Nat.strongRecOn with
  | ind n ih =>
    intro i hi h
    rw [lgRun] at h ⊢
    by_cases h1 : i < sg.length
    · rw [dif_pos h1] at h ⊢
      by_cases h2 : lgCode sg i (lgAt sg i) = 0
      · rw [if_pos h2] at h ⊢
        exact ih (sg.length - (i + 1)) (by omega) (i + 1) rfl h
      · rw [if_neg h2]
    · rw [dif_neg h1] at h
      exact absurd rfl h
/-- What reading answers beside the code: texts of its own. -/
def WalA (B : Nat) (w' : World) (L : Lg) (rv nv : Value) : Prop := OwnS B w' rv L.recs ∧ OwnS B w' nv L.names ∧ (∀ k, rv.ownBlock = some k → nv.ownBlock ≠ some k) ∧ (∃ a c, rv = .slice a L.recs.length c) ∧ ∃ a c, nv = .slice a L.names.length c
theorem ownS_form {B : Nat} {w : World} {v : Value} {l : List ByteArray} (h : OwnS B w v l) : ∃ a c, v = .slice a l.length c := by
  rcases own_shape h with ⟨rfl, h0⟩ | ⟨g, c, rfl, _⟩
  · exact ⟨none, 0, congrArg (fun n => Value.slice none n 0) h0.symm⟩
  · exact ⟨_, _, rfl⟩
theorem WalA.none (B : Nat) (w' : World) : WalA B w' lg0 (.slice none 0 0) (.slice none 0 0) := ⟨OwnS.nil _ _, OwnS.nil _ _, fun k hk => (by cases hk), ⟨_, _, rfl⟩, _, _, rfl⟩
theorem WalA.kept {T : Nat → Prop} {B : Nat} {w w' : World} {L : Lg} {rv nv : Value} (h : WalA B w L rv nv) (ht : Touch T w w') (hT : ∀ k, T k → k < B) : WalA B w' L rv nv :=
  ⟨h.1.kept ht (fun k hk e => by have := (h.1.lt k hk).1; have := hT k e; omega), h.2.1.kept ht (fun k hk e => by have := (h.2.1.lt k hk).1; have := hT k e; omega), h.2.2⟩
theorem WalA.below {B : Nat} {w w' : World} {L : Lg} {rv nv : Value} (h : WalA B w L rv nv) (hb : Below w.heap.size w w') : WalA B w' L rv nv := ⟨h.1.below hb, h.2.1.below hb, h.2.2⟩
theorem WalA.mono {B B' : Nat} {w : World} {L : Lg} {rv nv : Value} (h : WalA B w L rv nv) (hB : B' ≤ B) : WalA B' w L rv nv := ⟨h.1.mono hB, h.2.1.mono hB, h.2.2⟩

set_option maxRecDepth 100000 in
set_option maxHeartbeats 2000000 in
theorem readLog_any (room : Int) (v : Value) (l : List Fl) (w : World) (h : Fls w v l) (hs : Small l) :
    Calls Tryz.prog 28 #[.agg #[.int .i64 room, v]] w fun e w' => ∃ rv nv ga gn gc, e = .returned (.tuple #[.agg #[.int .i64 (walOut room l).1.first, rv, nv, .int .i64 (walOut room l).1.torn, .slice ga gn gc], .int .i64 (walOut room l).2]) ∧ WalA (w.heap.size + 2) w' (walOut room l).1 rv nv ∧ Below w.heap.size w w' := by
  have HF := hide h
  have HS := hide hs
  obtain ⟨a, cap, rfl, hn, hm, hc⟩ := h
  clear hc hm hn hs
  have B0 := hide (((Below.refl w.heap.size w).alloc (Nat.le_refl _) (.cells #[.int .i64 room, .slice a l.length cap] 28)).alloc (by simp) (.cells #[.int .i64 0, .slice none 0 0, .slice none 0 0, .int .i64 0, .slice none 0 0] 47))
  have X0 := hide ((Blk.new w #[.int .i64 room, .slice a l.length cap] 28 w.heap.size rfl).alloc (.cells #[.int .i64 0, .slice none 0 0, .slice none 0 0, .int .i64 0, .slice none 0 0] 47))
  have R0 := hide (Blk.new (w.alloc (.cells #[.int .i64 room, .slice a l.length cap] 28)) #[.int .i64 0, .slice none 0 0, .slice none 0 0, .int .i64 0, .slice none 0 0] 47 (w.heap.size + 1) (by simp))
  have Z0 : w.heap.size + 2 ≤ ((w.alloc (.cells #[.int .i64 room, .slice a l.length cap] 28)).alloc (.cells #[.int .i64 0, .slice none 0 0, .slice none 0 0, .int .i64 0, .slice none 0 0] 47)).heap.size := by simp
  go_enter Tryz.func28, Tryz.ntmps28
  go_wp2_with fail
  generalize (w.alloc (.cells #[.int .i64 room, .slice a l.length cap] 28)).alloc (.cells #[.int .i64 0, .slice none 0 0, .slice none 0 0, .int .i64 0, .slice none 0 0] 47) = w0 at *
  refine (implDiskOK_any room _ l w0 ((unhide HF).below (unhide B0)) (unhide HS)).mono ?_
  rintro e w1 ⟨rfl, hb1⟩
  have B1 := hide ((unhide B0).trans (hb1.mono (unhide B0).size))
  have X1 := hide ((unhide X0).below hb1)
  have R1 := hide ((unhide R0).below hb1)
  have Z1 : w.heap.size + 2 ≤ w1.heap.size := Nat.le_trans Z0 hb1.size
  clear hb1 B0 X0 R0 Z0
  cases hd : diskB room l
  · have HW := hide (show walOut room l = (lg0, 1) by unfold walOut; rw [hd]; rfl)
    have r0 := (unhide R1).cell 0 rfl
    have r1 := (unhide R1).cell 1 rfl
    have r2 := (unhide R1).cell 2 rfl
    have r3 := (unhide R1).cell 3 rfl
    have r4 := (unhide R1).cell 4 rfl
    have f0 := (unhide R1).fro 0
    have f1 := (unhide R1).fro 1
    have f2 := (unhide R1).fro 2
    have f3 := (unhide R1).fro 3
    have f4 := (unhide R1).fro 4
    have R2 := hide ((((((unhide R1).set 0 (.int .i64 0) (by simp)).set 1 (.slice none 0 0) (by simp)).set 2 (.slice none 0 0) (by simp)).set 3 (.int .i64 0) (by simp)).set 4 (.slice none 0 0) (by simp))
    have B2 := hide ((((((unhide B1).setCell (p := ⟨w.heap.size + 1, 0, none⟩) (by simp) (.int .i64 0)).setCell (p := ⟨w.heap.size + 1, 1, none⟩) (by simp) (.slice none 0 0)).setCell (p := ⟨w.heap.size + 1, 2, none⟩) (by simp) (.slice none 0 0)).setCell (p := ⟨w.heap.size + 1, 3, none⟩) (by simp) (.int .i64 0)).setCell (p := ⟨w.heap.size + 1, 4, none⟩) (by simp) (.slice none 0 0))
    go_wp2_with fail
    generalize ((((w1.setCell ⟨w.heap.size + 1, 0, none⟩ (.int .i64 0)).setCell ⟨w.heap.size + 1, 1, none⟩ (.slice none 0 0)).setCell ⟨w.heap.size + 1, 2, none⟩ (.slice none 0 0)).setCell ⟨w.heap.size + 1, 3, none⟩ (.int .i64 0)).setCell ⟨w.heap.size + 1, 4, none⟩ (.slice none 0 0) = w2 at *
    have z0 := (unhide R2).cell 0 rfl
    have z1 := (unhide R2).cell 1 rfl
    have z2 := (unhide R2).cell 2 rfl
    have z3 := (unhide R2).cell 3 rfl
    have z4 := (unhide R2).cell 4 rfl
    refine bodyPost_ret (v := .tuple #[.agg #[.int .i64 0, .slice none 0 0, .slice none 0 0, .int .i64 0, .slice none 0 0], .int .i64 1]) (by simp [results, Tryz.results28, go_sem, z0, z1, z2, z3, z4]) rfl ?_
    rw [unhide HW]
    exact ⟨_, _, _, _, _, rfl, WalA.none _ _, unhide B2⟩
  have HD := hide hd
  have HLn := hide (disk_len hd)
  have x1 := (unhide X1).cell 1 rfl
  go_wp2_with fail
  clear x1 X1
  refine (segmentsOf_any _ l w1 ((unhide HF).below (unhide B1)) (unhide HLn) (fun i hi => ⟨((unhide HS).2.2 i).1, file_small (unhide HD) i hi⟩)).mono ?_
  rintro e w2 ⟨gv, xs, rfl, hxs, hG, hb2⟩
  obtain ⟨ga, gn, gc, rfl⟩ : ∃ ga gn gc, gv = .slice ga gn gc := by
    rcases own_shape hG.1 with ⟨h, _⟩ | ⟨g, c, h, _⟩
    · exact ⟨_, _, _, h⟩
    · exact ⟨_, _, _, h⟩
  have BA := (Below.refl w2.heap.size w2).alloc (Nat.le_refl _) (.cells #[.int .i64 0, .slice none 0 0, .slice none 0 0, .int .i64 0, .slice ga gn gc] 47)
  have B3 := hide (((unhide B1).trans (hb2.mono (unhide B1).size)).trans (BA.mono (Nat.le_trans (unhide B1).size hb2.size)))
  have R3 := hide (((unhide R1).below hb2).below BA)
  have G3 := hide (hG.below BA)
  have L3 := hide (Blk.new w2 #[.int .i64 0, .slice none 0 0, .slice none 0 0, .int .i64 0, .slice ga gn gc] 47 w2.heap.size rfl)
  have Z2 : w.heap.size + 2 ≤ w2.heap.size := Nat.le_trans Z1 hb2.size
  have HGL : Hid (∀ k, (Value.slice ga gn gc).ownBlock = some k → k < w2.heap.size) := hide (fun k hk => (World.ownsRow.lt hG.1 k hk).2)
  have HGX : Hid (∀ x ∈ xs, ∀ k, x.2.ownBlock = some k → k < w2.heap.size) := hide (fun x hx k hk => ((hG.2 x hx).lt k hk).2)
  have HXS := hide hxs
  clear hG hb2 BA R1 B1 hxs
  go_wp2_with fail
  generalize w2.alloc (.cells #[.int .i64 0, .slice none 0 0, .slice none 0 0, .int .i64 0, .slice ga gn gc] 47) = w3 at *
  generalize w2.heap.size = lb at *
  have hmem : ∀ x ∈ xs, x.1 ∈ l := fun x hx => by
    have h1 : x.1 ∈ xs.map Prod.fst := List.mem_map.2 ⟨x, hx, rfl⟩
    rw [unhide HXS] at h1
    exact (List.mem_filter.1 h1).1
  refine (read_any lb w1.heap.size (.slice ga gn gc) xs w3 (unhide G3) (unhide L3) (unhide L3).1 (by have := congrArg List.length (unhide HXS); rw [List.length_map] at this; rw [this]; exact segs_len l (unhide HLn)) (fun x hx => ⟨by
    obtain ⟨i, hi, hxi⟩ := List.getElem_of_mem (hmem x hx)
    have := ((unhide HS).2.2 i).1
    rwa [List.getD_eq_getElem?_getD, List.getElem?_eq_getElem hi, Option.getD_some, hxi] at this, seg_small (unhide HD) _ (hmem x hx)⟩) (fun k hk => by have := unhide HGL k hk; omega) (fun x hx k hk => by have := unhide HGX x hx k hk; omega)).mono ?_
  rintro e w4 ⟨rfl, hS4, hT4⟩
  clear hmem
  have HW := hide (show walOut room l = lgRun (xs.map Prod.fst) 0 by unfold walOut; rw [unhide HD, unhide HXS]; rfl)
  have B4 := hide ((unhide B3).trans (hT4.below (unhide B3).size (fun k hk e => by omega)))
  have R4 := hide ((unhide R3).kept hT4 (fun e => by omega))
  have hz3 := (unhide L3).1
  have H4 := hide hS4
  clear hS4 hT4 B3 R3 G3 L3 HXS HGL HGX
  have r0 := (unhide R4).cell 0 rfl
  have r1 := (unhide R4).cell 1 rfl
  have r2 := (unhide R4).cell 2 rfl
  have r3 := (unhide R4).cell 3 rfl
  have r4 := (unhide R4).cell 4 rfl
  have f0 := (unhide R4).fro 0
  have f1 := (unhide R4).fro 1
  have f2 := (unhide R4).fro 2
  have f3 := (unhide R4).fro 3
  have f4 := (unhide R4).fro 4
  by_cases hc0 : (lgRun (xs.map Prod.fst) 0).2 = 0
  · obtain ⟨rv, nv, hS⟩ := unhide H4 hc0
    have HWA : Hid (WalA w3.heap.size w4 (lgRun (xs.map Prod.fst) 0).1 rv nv) := hide ⟨hS.2.1, hS.2.2.1, hS.2.2.2.1, ownS_form hS.2.1, ownS_form hS.2.2.1⟩
    obtain ⟨ra, rc, rfl⟩ := (unhide HWA).2.2.2.1
    obtain ⟨na, nc, rfl⟩ := (unhide HWA).2.2.2.2
    have L4 := hide hS.1
    clear hS H4
    generalize lgRun (xs.map Prod.fst) 0 = out at *
    obtain ⟨L, cd⟩ := out
    dsimp only at hc0 HWA L4 HW ⊢
    subst hc0
    have l0 := (unhide L4).cell 0 rfl
    have l1 := (unhide L4).cell 1 rfl
    have l2 := (unhide L4).cell 2 rfl
    have l3 := (unhide L4).cell 3 rfl
    have l4 := (unhide L4).cell 4 rfl
    have R5 := hide ((((((unhide R4).set 0 (.int .i64 L.first) (by simp)).set 1 (.slice ra L.recs.length rc) (by simp)).set 2 (.slice na L.names.length nc) (by simp)).set 3 (.int .i64 L.torn) (by simp)).set 4 (.slice ga gn gc) (by simp))
    have B5 := hide ((((((unhide B4).setCell (p := ⟨w.heap.size + 1, 0, none⟩) (by simp) (.int .i64 L.first)).setCell (p := ⟨w.heap.size + 1, 1, none⟩) (by simp) (.slice ra L.recs.length rc)).setCell (p := ⟨w.heap.size + 1, 2, none⟩) (by simp) (.slice na L.names.length nc)).setCell (p := ⟨w.heap.size + 1, 3, none⟩) (by simp) (.int .i64 L.torn)).setCell (p := ⟨w.heap.size + 1, 4, none⟩) (by simp) (.slice ga gn gc))
    have T5 := ((((((Touch.refl (fun k => k = w.heap.size + 1) w4).setCell ⟨w.heap.size + 1, 0, none⟩ (.int .i64 L.first) (fun _ => rfl)).setCell ⟨w.heap.size + 1, 1, none⟩ (.slice ra L.recs.length rc) (fun _ => rfl)).setCell ⟨w.heap.size + 1, 2, none⟩ (.slice na L.names.length nc) (fun _ => rfl)).setCell ⟨w.heap.size + 1, 3, none⟩ (.int .i64 L.torn) (fun _ => rfl)).setCell ⟨w.heap.size + 1, 4, none⟩ (.slice ga gn gc) (fun _ => rfl))
    have A5 := hide (((unhide HWA).kept T5 (fun k hk => by omega)).mono (B' := w.heap.size + 2) (by omega))
    clear T5 HWA
    go_wp2_with fail
    generalize ((((w4.setCell ⟨w.heap.size + 1, 0, none⟩ (.int .i64 L.first)).setCell ⟨w.heap.size + 1, 1, none⟩ (.slice ra L.recs.length rc)).setCell ⟨w.heap.size + 1, 2, none⟩ (.slice na L.names.length nc)).setCell ⟨w.heap.size + 1, 3, none⟩ (.int .i64 L.torn)).setCell ⟨w.heap.size + 1, 4, none⟩ (.slice ga gn gc) = w5 at *
    have z0 := (unhide R5).cell 0 rfl
    have z1 := (unhide R5).cell 1 rfl
    have z2 := (unhide R5).cell 2 rfl
    have z3 := (unhide R5).cell 3 rfl
    have z4 := (unhide R5).cell 4 rfl
    refine bodyPost_ret (v := .tuple #[.agg #[.int .i64 L.first, .slice ra L.recs.length rc, .slice na L.names.length nc, .int .i64 L.torn, .slice ga gn gc], .int .i64 0]) (by simp [results, Tryz.results28, go_sem, z0, z1, z2, z3, z4]) rfl ?_
    rw [unhide HW]
    exact ⟨_, _, _, _, _, rfl, unhide A5, unhide B5⟩
  · have HBAD : Hid (lgRun (xs.map Prod.fst) 0 = (lg0, (lgRun (xs.map Prod.fst) 0).2)) := hide (lgRun_bad _ _ 0 rfl hc0)
    have hcb : ((lgRun (xs.map Prod.fst) 0).2 == 0) = false := by rw [beq_eq_false_iff_ne]; exact hc0
    generalize hcc : (lgRun (xs.map Prod.fst) 0).2 = cd at *
    clear hcc H4
    have R5 := hide ((((((unhide R4).set 0 (.int .i64 0) (by simp)).set 1 (.slice none 0 0) (by simp)).set 2 (.slice none 0 0) (by simp)).set 3 (.int .i64 0) (by simp)).set 4 (.slice none 0 0) (by simp))
    have B5 := hide ((((((unhide B4).setCell (p := ⟨w.heap.size + 1, 0, none⟩) (by simp) (.int .i64 0)).setCell (p := ⟨w.heap.size + 1, 1, none⟩) (by simp) (.slice none 0 0)).setCell (p := ⟨w.heap.size + 1, 2, none⟩) (by simp) (.slice none 0 0)).setCell (p := ⟨w.heap.size + 1, 3, none⟩) (by simp) (.int .i64 0)).setCell (p := ⟨w.heap.size + 1, 4, none⟩) (by simp) (.slice none 0 0))
    go_wp2_with fail
    generalize ((((w4.setCell ⟨w.heap.size + 1, 0, none⟩ (.int .i64 0)).setCell ⟨w.heap.size + 1, 1, none⟩ (.slice none 0 0)).setCell ⟨w.heap.size + 1, 2, none⟩ (.slice none 0 0)).setCell ⟨w.heap.size + 1, 3, none⟩ (.int .i64 0)).setCell ⟨w.heap.size + 1, 4, none⟩ (.slice none 0 0) = w5 at *
    have z0 := (unhide R5).cell 0 rfl
    have z1 := (unhide R5).cell 1 rfl
    have z2 := (unhide R5).cell 2 rfl
    have z3 := (unhide R5).cell 3 rfl
    have z4 := (unhide R5).cell 4 rfl
    refine bodyPost_ret (v := .tuple #[.agg #[.int .i64 0, .slice none 0 0, .slice none 0 0, .int .i64 0, .slice none 0 0], .int .i64 cd]) (by simp [results, Tryz.results28, go_sem, z0, z1, z2, z3, z4]) rfl ?_
    rw [unhide HW, unhide HBAD]
    exact ⟨_, _, _, _, _, rfl, WalA.none _ _, unhide B5⟩
end Go.Proofs.YtfihhkhdigbmiaaGreatDoor
