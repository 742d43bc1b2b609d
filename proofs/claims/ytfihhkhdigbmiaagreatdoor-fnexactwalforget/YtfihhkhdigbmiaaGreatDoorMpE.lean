/- A table of files: an act that syncs a file, or drops one. (Written by py/mpe.py.) -/
import Derived.Test.YtfihhkhdigbmiaaGreatDoorMpD
namespace Go.Proofs.YtfihhkhdigbmiaaGreatDoor
open Go.ChangeShapes Go.WideShapes Go.ChangeAt Go.RowKit Go.Maps Go.Sort
set_option linter.unusedVariables false
set_option linter.unusedSimpArgs false

theorem Blk.c6 {w : World} {b : Nat} {a0 a1 a2 a3 a4 a5 : Value} (h : Blk w b [a0, a1, a2, a3, a4, a5]) : w.cell? ⟨b, 0, none⟩ = some a0 ∧ w.cell? ⟨b, 1, none⟩ = some a1 ∧ w.cell? ⟨b, 2, none⟩ = some a2 ∧ w.cell? ⟨b, 3, none⟩ = some a3 ∧ w.cell? ⟨b, 4, none⟩ = some a4 ∧ w.cell? ⟨b, 5, none⟩ = some a5 := ⟨h.cell 0 rfl, h.cell 1 rfl, h.cell 2 rfl, h.cell 3 rfl, h.cell 4 rfl, h.cell 5 rfl⟩
/-- An act on a file of this name, without more. -/
def actV (k : Int) (n : ByteArray) : Value := .agg #[.int .i64 k, .int .i64 0, .string n, .string ⟨#[]⟩, .string ⟨#[]⟩, .slice none 0 0]
set_option maxRecDepth 100000 in
set_option maxHeartbeats 8000000 in
theorem change_sync (room : Int) (t b : Nat) (A B : List Fl) (fn fd : ByteArray) (fs : Int) (w : World) (hT : Blk w t [.int .i64 room, .map (some b)]) (hM : FMap w b (A ++ ⟨fn, fd, fs⟩ :: B)) (hr : Ris (A ++ ⟨fn, fd, fs⟩ :: B)) (hl : (A ++ ⟨fn, fd, fs⟩ :: B).length ≤ 8) (hn : fn.size ≤ maxLen) (hd : fd.size ≤ maxLen) (htb : ¬ t = b) :
    Calls Tryz.prog 72 #[.pointer (some ⟨t, 0, none⟩), actV 2 fn] w fun e w' => e = .returned .nilIface ∧ FMap w' b (A ++ ⟨fn, fd, (fd.size : Int)⟩ :: B) ∧ Touch (fun q => q = b) w w' := by
  unfold actV
  obtain ⟨hA, hB, _, hno⟩ := ris_mid hr
  have HA := hide hA
  have HBB := hide hB
  have HNO := hide hno
  clear hA hB hno hr
  have B0 := hide ((Below.refl w.heap.size w).alloc (Nat.le_refl _) (.cells #[.int .i64 2, .int .i64 0, .string fn, .string ⟨#[]⟩, .string ⟨#[]⟩, .slice none 0 0] 54))
  have X0 := hide (Blk.new w #[.int .i64 2, .int .i64 0, .string fn, .string ⟨#[]⟩, .string ⟨#[]⟩, .slice none 0 0] 54 w.heap.size rfl)
  have T0 := hide (hT.alloc (.cells #[.int .i64 2, .int .i64 0, .string fn, .string ⟨#[]⟩, .string ⟨#[]⟩, .slice none 0 0] 54))
  have M0 := hide (hM.kept (unhide B0))
  have htl := hT.1
  have hbl := hM.lt
  clear hT hM
  go_enter Tryz.func72, Tryz.ntmps72
  go_upto_region 1 with fail
  generalize w.alloc (.cells #[.int .i64 2, .int .i64 0, .string fn, .string ⟨#[]⟩, .string ⟨#[]⟩, .slice none 0 0] 54) = w0 at *
  have hd1 : Below w0.heap.size w0 w0.drew := below_drewN (Below.refl w0.heap.size w0) 1
  have B1 := hide ((unhide B0).trans (hd1.mono (unhide B0).size))
  have X1 := hide ((unhide X0).below hd1)
  have T1 := hide ((unhide T0).below hd1)
  have M1 := hide ((unhide M0).kept hd1)
  clear hd1 B0 X0 T0 M0
  have hlk : ∀ wx, FMap wx b (A ++ ⟨fn, fd, fs⟩ :: B) → (Instr.lookup 103 (.map (some b)) (.string fn) true).run Tryz.prog wx = .ok (.tuple #[.agg #[.string fn, .string fd, .int .i64 fs], .bool true]) wx := fun wx hx => FMap.look_ok (f := ⟨fn, fd, fs⟩) hx (fun g hg => unhide HNO g (List.mem_append_left _ hg)) hn
  have HLK := hide hlk
  have t1 := (Blk.c2 (unhide T1)).1.2
  have x2 := (Blk.c6 (unhide X1)).2.2.1
  have k1 := hlk _ (unhide M1)
  clear hlk
  refine wp_region_held_drew (S := (fun wx => wx.cell? ⟨t, 1, none⟩ = some (.map (some b)) ∧ wx.cell? ⟨w.heap.size, 2, none⟩ = some (.string fn) ∧ (Instr.lookup 103 (.map (some b)) (.string fn) true).run Tryz.prog wx = .ok (.tuple #[.agg #[.string fn, .string fd, .int .i64 fs], .bool true]) wx)) (by kernel_rfl) ?_ (fun hHeld => ?_)
  · exact ⟨t1, x2, k1⟩
  generalize w0.drew = wd at *
  refine tkH 0 rfl ?_
  refine tkH 1 rfl ?_
  refine tkH 2 rfl ?_
  refine tkH 3 rfl ?_
  refine tkH 4 rfl ?_
  refine tkH 5 rfl ?_
  refine tkH 6 rfl ?_
  refine tkH 7 rfl ?_
  refine tkH 8 rfl ?_
  refine tkH 9 rfl ?_
  have hAA := (Below.refl wd.heap.size wd).alloc (Nat.le_refl _) (.cells #[.string ⟨#[]⟩, .string ⟨#[]⟩, .int .i64 0] 68)
  have B2 := hide ((unhide B1).trans (hAA.mono (unhide B1).size))
  have X2 := hide ((unhide X1).below hAA)
  have T2 := hide ((unhide T1).below hAA)
  have M2 := hide ((unhide M1).kept hAA)
  have F2 := hide (Blk.new wd #[.string ⟨#[]⟩, .string ⟨#[]⟩, .int .i64 0] 68 wd.heap.size rfl)
  have hwd := (unhide B1).size
  have hxb := (unhide X1).1
  have hmb := (unhide M1).lt
  have htb1 := (unhide T1).1
  clear hAA B1 X1 T1 M1 t1 x2 k1
  refine wpAnyH_ready (rs := [10]) (by kernel_rfl) (by simp) ?_
  refine AllReadyH.cons (o := _) rfl (fun K hK => ?_) AllReadyH.nil
  go_simp
  refine hK.out _ _ ?_ (fun hHeld => ?_)
  · exact ⟨(Blk.c2 (unhide T2)).1.2, (Blk.c6 (unhide X2)).2.2.1, unhide HLK _ (unhide M2)⟩
  clear hK K
  (try simp only [Act.put, List.getElem_toArray, List.getElem_cons_succ, List.getElem_cons_zero, List.setIfInBounds_toArray, List.set_cons_zero, List.set_cons_succ])
  generalize wd.alloc (.cells #[.string ⟨#[]⟩, .string ⟨#[]⟩, .int .i64 0] 68) = w2 at *
  generalize wd.heap.size = fb at *
  have hS := ((((Touch.refl (fun q => q = fb) w2).setCell ⟨fb, 0, none⟩ (.string fn) (fun _ => rfl)).setCell ⟨fb, 1, none⟩ (.string fd) (fun _ => rfl)).setCell ⟨fb, 2, none⟩ (.int .i64 fs) (fun _ => rfl))
  have B3 := hide ((unhide B2).trans (hS.below (unhide B2).size (fun q hq e => by omega)))
  have X3 := hide ((unhide X2).kept hS (by omega))
  have T3 := hide ((unhide T2).kept hS (by omega))
  have M3 := hide ((unhide M2).touch hS (by omega))
  have F3 := hide ((((unhide F2).set 0 (.string fn) (by simp)).set 1 (.string fd) (by simp)).set 2 (.int .i64 fs) (by simp))
  obtain ⟨⟨x0, x1, x2⟩, g0, g1, g2⟩ := Blk.c3 (unhide F2)
  clear hS B2 X2 T2 M2 F2
  refine wpAnyH_ready (rs := [11]) (by kernel_rfl) (by simp) ?_
  refine AllReadyH.cons (o := _) rfl (fun K hK => ?_) AllReadyH.nil
  go_simp
  refine hK.out _ _ ?_ (fun hHeld => ?_)
  · exact ⟨(Blk.c2 (unhide T3)).1.2, (Blk.c6 (unhide X3)).2.2.1, unhide HLK _ (unhide M3)⟩
  clear hK K
  (try simp only [Act.put, List.getElem_toArray, List.getElem_cons_succ, List.getElem_cons_zero, List.setIfInBounds_toArray, List.set_cons_zero, List.set_cons_succ])
  refine tkH 12 rfl ?_
  refine wpAnyH_done (by kernel_rfl) ?_ _
  clear x0 x1 x2 g0 g1 g2 hHeld HLK
  generalize ((w2.setCell ⟨fb, 0, none⟩ (.string fn)).setCell ⟨fb, 1, none⟩ (.string fd)).setCell ⟨fb, 2, none⟩ (.int .i64 fs) = w3 at *
  have a0 := (Blk.c6 (unhide X3)).1
  obtain ⟨⟨x0, x1, x2⟩, g0, g1, g2⟩ := Blk.c3 (unhide F3)
  have hS := (Touch.refl (fun q => q = fb) w3).setCell ⟨fb, 2, none⟩ (.int .i64 (fd.size : Int)) (fun _ => rfl)
  have B4 := hide ((unhide B3).trans (hS.below (unhide B3).size (fun q hq e => by omega)))
  have X4 := hide ((unhide X3).kept hS (by omega))
  have T4 := hide ((unhide T3).kept hS (by omega))
  have M4 := hide ((unhide M3).touch hS (by omega))
  have F4 := hide ((unhide F3).set 2 (.int .i64 (fd.size : Int)) (by simp))
  clear hS B3 X3 T3 M3 F3
  go_upto_region 15 with fail
  clear x0 x1 x2 g0 g1 g2 a0
  generalize w3.setCell ⟨fb, 2, none⟩ (.int .i64 (fd.size : Int)) = w4 at *
  have hd1 : Below w4.heap.size w4 w4.drew := below_drewN (Below.refl w4.heap.size w4) 1
  have B5 := hide ((unhide B4).trans (hd1.mono (unhide B4).size))
  have X5 := hide ((unhide X4).below hd1)
  have T5 := hide ((unhide T4).below hd1)
  have M5 := hide ((unhide M4).kept hd1)
  have F5 := hide ((unhide F4).below hd1)
  clear hd1 B4 X4 T4 M4 F4
  obtain ⟨w6, hdel, hM6, hg6⟩ := FMap.del (f := ⟨fn, fd, fs⟩) (unhide M5) (unhide HNO) hn 0
  have P6 := hide ((Touch.ofBelow (T := fun q => q = b) (unhide B5)).trans (grownT hg6) (fun _ _ h => h))
  have X6 := hide ((unhide X5).kept (grownT hg6) (by omega))
  have T6 := hide ((unhide T5).kept (grownT hg6) htb)
  have F6 := hide ((unhide F5).kept (grownT hg6) (by omega))
  have M6 := hide hM6
  have t1 := (Blk.c2 (unhide T5)).1.2
  have x2 := (Blk.c6 (unhide X5)).2.2.1
  clear B5 X5 T5 M5 F5 hM6 hg6
  dsimp only at hdel
  refine wp_region_held_drew (S := (fun wx => wx.cell? ⟨t, 1, none⟩ = some (.map (some b)) ∧ wx.cell? ⟨w.heap.size, 2, none⟩ = some (.string fn))) (by kernel_rfl) ?_ (fun hHeld => ?_)
  · exact ⟨t1, x2⟩
  generalize w4.drew = wd2 at *
  refine tkH 0 rfl ?_
  refine tkH 1 rfl ?_
  refine tkH 2 rfl ?_
  refine tkH 3 rfl ?_
  refine tkH 4 rfl ?_
  refine tkH 5 rfl ?_
  refine wpAnyH_ready (rs := [6]) (by kernel_rfl) (by simp) ?_
  refine AllReadyH.cons (o := _) rfl (fun K hK => ?_) AllReadyH.nil
  go_simp
  refine hK.out _ _ ?_ (fun hHeld => ?_)
  · exact ⟨(Blk.c2 (unhide T6)).1.2, (Blk.c6 (unhide X6)).2.2.1⟩
  clear hK K
  (try simp only [Act.put, List.getElem_toArray, List.getElem_cons_succ, List.getElem_cons_zero, List.setIfInBounds_toArray, List.set_cons_zero, List.set_cons_succ])
  refine wpAnyH_done (by kernel_rfl) ?_ _
  clear t1 x2 hHeld hdel
  have a0 := (Blk.c6 (unhide X6)).1
  clear X6
  go_upto_region 17 with fail
  clear a0
  have hd1 : Below w6.heap.size w6 w6.drew := below_drewN (Below.refl w6.heap.size w6) 1
  have P7 := hide ((unhide P6).trans (Touch.ofBelow (T := fun q => q = b) hd1) (fun _ _ h => h))
  have T7 := hide ((unhide T6).below hd1)
  have M7 := hide ((unhide M6).kept hd1)
  have F7 := hide ((unhide F6).below hd1)
  clear hd1 P6 T6 M6 F6
  obtain ⟨w8, hput, hM8, hg8⟩ := FMap.put (f := ⟨fn, fd, (fd.size : Int)⟩) (unhide M7) (unhide HA) (unhide HBB) (by simp at hl ⊢; omega) hn
  have P8 := hide ((unhide P7).trans (grownT hg8) (fun _ _ h => h))
  have T8 := hide ((unhide T7).kept (grownT hg8) htb)
  have F8 := hide ((unhide F7).kept (grownT hg8) (by omega))
  have M8 := hide hM8
  have t1 := (Blk.c2 (unhide T7)).1.2
  obtain ⟨⟨x0, x1, x2⟩, _⟩ := Blk.c3 (unhide F7)
  clear P7 T7 M7 F7 hM8 hg8
  unfold flV at hput
  dsimp only at hput
  refine wp_region_held_drew (S := (fun wx => wx.cell? ⟨t, 1, none⟩ = some (.map (some b)) ∧ wx.cell? ⟨fb, 0, none⟩ = some (.string fn) ∧ wx.cell? ⟨fb, 1, none⟩ = some (.string fd) ∧ wx.cell? ⟨fb, 2, none⟩ = some (.int .i64 (fd.size : Int)))) (by kernel_rfl) ?_ (fun hHeld => ?_)
  · exact ⟨t1, x0, x1, x2⟩
  generalize w6.drew = wd3 at *
  refine tkH 0 rfl ?_
  refine tkH 1 rfl ?_
  refine tkH 2 rfl ?_
  refine tkH 3 rfl ?_
  refine tkH 4 rfl ?_
  refine tkH 5 rfl ?_
  refine tkH 6 rfl ?_
  refine wpAnyH_ready (rs := [7]) (by kernel_rfl) (by simp) ?_
  refine AllReadyH.cons (o := _) rfl (fun K hK => ?_) AllReadyH.nil
  go_simp
  refine hK.out _ _ ?_ (fun hHeld => ?_)
  · exact ⟨(Blk.c2 (unhide T8)).1.2, (Blk.c3 (unhide F8)).1⟩
  clear hK K
  (try simp only [Act.put, List.getElem_toArray, List.getElem_cons_succ, List.getElem_cons_zero, List.setIfInBounds_toArray, List.set_cons_zero, List.set_cons_succ])
  refine wpAnyH_done (by kernel_rfl) ?_ _
  clear t1 x0 x1 x2 hHeld hput
  go_wp2_with fail
  go_ret
  exact ⟨rfl, unhide M8, unhide P8⟩
set_option maxRecDepth 100000 in
set_option maxHeartbeats 4000000 in
theorem act_sync (room : Int) (t b : Nat) (A B : List Fl) (fn fd : ByteArray) (fs : Int) (w : World) (hT : Blk w t [.int .i64 room, .map (some b)]) (hM : FMap w b (A ++ ⟨fn, fd, fs⟩ :: B)) (hr : Ris (A ++ ⟨fn, fd, fs⟩ :: B)) (hl : (A ++ ⟨fn, fd, fs⟩ :: B).length ≤ 8) (hn : fn.size ≤ maxLen) (hd : fd.size ≤ maxLen) (htb : ¬ t = b) :
    Calls Tryz.prog 45 #[.pointer (some ⟨t, 0, none⟩), actV 2 fn] w fun e w' => e = .returned .nilIface ∧ FMap w' b (A ++ ⟨fn, fd, (fd.size : Int)⟩ :: B) ∧ Touch (fun q => q = b) w w' := by
  have hnil : ∀ wx, (binOp BinOp.neq 84 .nilIface .nilIface).run Tryz.prog wx = .ok (.bool false) wx := fun wx => by kernel_rfl
  have B0 := hide ((Below.refl w.heap.size w).alloc (Nat.le_refl _) (.cells #[.int .i64 2, .int .i64 0, .string fn, .string ⟨#[]⟩, .string ⟨#[]⟩, .slice none 0 0] 54))
  have X0 := Blk.new w #[.int .i64 2, .int .i64 0, .string fn, .string ⟨#[]⟩, .string ⟨#[]⟩, .slice none 0 0] 54 w.heap.size rfl
  have HC := hide (change_sync room t b A B fn fd fs (w.alloc (.cells #[.int .i64 2, .int .i64 0, .string fn, .string ⟨#[]⟩, .string ⟨#[]⟩, .slice none 0 0] 54)) (hT.alloc _) (hM.kept (unhide B0)) hr hl hn hd htb)
  obtain ⟨a0, a1, a2, a3, a4, a5⟩ := Blk.c6 X0
  unfold actV at HC ⊢
  clear X0 hT hM
  go_enter Tryz.func45, Tryz.ntmps45
  go_upto_region 2 with fail
  generalize w.alloc (.cells #[.int .i64 2, .int .i64 0, .string fn, .string ⟨#[]⟩, .string ⟨#[]⟩, .slice none 0 0] 54) = w0 at *
  go_wp2_with fail
  refine (unhide HC).mono ?_
  rintro e w2 ⟨rfl, hM2, hT2⟩
  have R := hide (And.intro hM2 ((Touch.ofBelow (T := fun q => q = b) (unhide B0)).trans hT2 (fun _ _ h => h)))
  have hnw := hnil w2
  clear hM2 hT2 HC B0 a0 a1 a2 a3 a4 a5 hnil
  go_wp2_with fail
  go_ret
  exact ⟨rfl, unhide R⟩
set_option maxRecDepth 100000 in
set_option maxHeartbeats 8000000 in
theorem change_drop (room : Int) (t b : Nat) (A B : List Fl) (fn fd : ByteArray) (fs : Int) (w : World) (hT : Blk w t [.int .i64 room, .map (some b)]) (hM : FMap w b (A ++ ⟨fn, fd, fs⟩ :: B)) (hr : Ris (A ++ ⟨fn, fd, fs⟩ :: B)) (hl : (A ++ ⟨fn, fd, fs⟩ :: B).length ≤ 8) (hn : fn.size ≤ maxLen) (hd : fd.size ≤ maxLen) (htb : ¬ t = b) :
    Calls Tryz.prog 72 #[.pointer (some ⟨t, 0, none⟩), actV 4 fn] w fun e w' => e = .returned .nilIface ∧ FMap w' b (A ++ B) ∧ Touch (fun q => q = b) w w' := by
  unfold actV
  obtain ⟨hA, hB, _, hno⟩ := ris_mid hr
  have HA := hide hA
  have HBB := hide hB
  have HNO := hide hno
  clear hA hB hno hr
  have B0 := hide ((Below.refl w.heap.size w).alloc (Nat.le_refl _) (.cells #[.int .i64 4, .int .i64 0, .string fn, .string ⟨#[]⟩, .string ⟨#[]⟩, .slice none 0 0] 54))
  have X0 := hide (Blk.new w #[.int .i64 4, .int .i64 0, .string fn, .string ⟨#[]⟩, .string ⟨#[]⟩, .slice none 0 0] 54 w.heap.size rfl)
  have T0 := hide (hT.alloc (.cells #[.int .i64 4, .int .i64 0, .string fn, .string ⟨#[]⟩, .string ⟨#[]⟩, .slice none 0 0] 54))
  have M0 := hide (hM.kept (unhide B0))
  have htl := hT.1
  have hbl := hM.lt
  clear hT hM
  go_enter Tryz.func72, Tryz.ntmps72
  go_upto_region 1 with fail
  generalize w.alloc (.cells #[.int .i64 4, .int .i64 0, .string fn, .string ⟨#[]⟩, .string ⟨#[]⟩, .slice none 0 0] 54) = w0 at *
  have hd1 : Below w0.heap.size w0 w0.drew := below_drewN (Below.refl w0.heap.size w0) 1
  have B1 := hide ((unhide B0).trans (hd1.mono (unhide B0).size))
  have X1 := hide ((unhide X0).below hd1)
  have T1 := hide ((unhide T0).below hd1)
  have M1 := hide ((unhide M0).kept hd1)
  clear hd1 B0 X0 T0 M0
  have hlk : ∀ wx, FMap wx b (A ++ ⟨fn, fd, fs⟩ :: B) → (Instr.lookup 103 (.map (some b)) (.string fn) true).run Tryz.prog wx = .ok (.tuple #[.agg #[.string fn, .string fd, .int .i64 fs], .bool true]) wx := fun wx hx => FMap.look_ok (f := ⟨fn, fd, fs⟩) hx (fun g hg => unhide HNO g (List.mem_append_left _ hg)) hn
  have HLK := hide hlk
  have t1 := (Blk.c2 (unhide T1)).1.2
  have x2 := (Blk.c6 (unhide X1)).2.2.1
  have k1 := hlk _ (unhide M1)
  clear hlk
  refine wp_region_held_drew (S := (fun wx => wx.cell? ⟨t, 1, none⟩ = some (.map (some b)) ∧ wx.cell? ⟨w.heap.size, 2, none⟩ = some (.string fn) ∧ (Instr.lookup 103 (.map (some b)) (.string fn) true).run Tryz.prog wx = .ok (.tuple #[.agg #[.string fn, .string fd, .int .i64 fs], .bool true]) wx)) (by kernel_rfl) ?_ (fun hHeld => ?_)
  · exact ⟨t1, x2, k1⟩
  generalize w0.drew = wd at *
  refine tkH 0 rfl ?_
  refine tkH 1 rfl ?_
  refine tkH 2 rfl ?_
  refine tkH 3 rfl ?_
  refine tkH 4 rfl ?_
  refine tkH 5 rfl ?_
  refine tkH 6 rfl ?_
  refine tkH 7 rfl ?_
  refine tkH 8 rfl ?_
  refine tkH 9 rfl ?_
  have hAA := (Below.refl wd.heap.size wd).alloc (Nat.le_refl _) (.cells #[.string ⟨#[]⟩, .string ⟨#[]⟩, .int .i64 0] 68)
  have B2 := hide ((unhide B1).trans (hAA.mono (unhide B1).size))
  have X2 := hide ((unhide X1).below hAA)
  have T2 := hide ((unhide T1).below hAA)
  have M2 := hide ((unhide M1).kept hAA)
  have F2 := hide (Blk.new wd #[.string ⟨#[]⟩, .string ⟨#[]⟩, .int .i64 0] 68 wd.heap.size rfl)
  have hwd := (unhide B1).size
  have hxb := (unhide X1).1
  have hmb := (unhide M1).lt
  have htb1 := (unhide T1).1
  clear hAA B1 X1 T1 M1 t1 x2 k1
  refine wpAnyH_ready (rs := [10]) (by kernel_rfl) (by simp) ?_
  refine AllReadyH.cons (o := _) rfl (fun K hK => ?_) AllReadyH.nil
  go_simp
  refine hK.out _ _ ?_ (fun hHeld => ?_)
  · exact ⟨(Blk.c2 (unhide T2)).1.2, (Blk.c6 (unhide X2)).2.2.1, unhide HLK _ (unhide M2)⟩
  clear hK K
  (try simp only [Act.put, List.getElem_toArray, List.getElem_cons_succ, List.getElem_cons_zero, List.setIfInBounds_toArray, List.set_cons_zero, List.set_cons_succ])
  generalize wd.alloc (.cells #[.string ⟨#[]⟩, .string ⟨#[]⟩, .int .i64 0] 68) = w2 at *
  generalize wd.heap.size = fb at *
  have hS := ((((Touch.refl (fun q => q = fb) w2).setCell ⟨fb, 0, none⟩ (.string fn) (fun _ => rfl)).setCell ⟨fb, 1, none⟩ (.string fd) (fun _ => rfl)).setCell ⟨fb, 2, none⟩ (.int .i64 fs) (fun _ => rfl))
  have B3 := hide ((unhide B2).trans (hS.below (unhide B2).size (fun q hq e => by omega)))
  have X3 := hide ((unhide X2).kept hS (by omega))
  have T3 := hide ((unhide T2).kept hS (by omega))
  have M3 := hide ((unhide M2).touch hS (by omega))
  have F3 := hide ((((unhide F2).set 0 (.string fn) (by simp)).set 1 (.string fd) (by simp)).set 2 (.int .i64 fs) (by simp))
  obtain ⟨⟨x0, x1, x2⟩, g0, g1, g2⟩ := Blk.c3 (unhide F2)
  clear hS B2 X2 T2 M2 F2
  refine wpAnyH_ready (rs := [11]) (by kernel_rfl) (by simp) ?_
  refine AllReadyH.cons (o := _) rfl (fun K hK => ?_) AllReadyH.nil
  go_simp
  refine hK.out _ _ ?_ (fun hHeld => ?_)
  · exact ⟨(Blk.c2 (unhide T3)).1.2, (Blk.c6 (unhide X3)).2.2.1, unhide HLK _ (unhide M3)⟩
  clear hK K
  (try simp only [Act.put, List.getElem_toArray, List.getElem_cons_succ, List.getElem_cons_zero, List.setIfInBounds_toArray, List.set_cons_zero, List.set_cons_succ])
  refine tkH 12 rfl ?_
  refine wpAnyH_done (by kernel_rfl) ?_ _
  clear x0 x1 x2 g0 g1 g2 hHeld HLK
  generalize ((w2.setCell ⟨fb, 0, none⟩ (.string fn)).setCell ⟨fb, 1, none⟩ (.string fd)).setCell ⟨fb, 2, none⟩ (.int .i64 fs) = w3 at *
  have a0 := (Blk.c6 (unhide X3)).1
  obtain ⟨⟨x0, x1, x2⟩, g0, g1, g2⟩ := Blk.c3 (unhide F3)
  have B4 := B3
  have X4 := X3
  have T4 := T3
  have M4 := M3
  have F4 := F3
  clear B3 X3 T3 M3 F3
  go_upto_region 15 with fail
  clear x0 x1 x2 g0 g1 g2 a0
  generalize w3 = w4 at *
  have hd1 : Below w4.heap.size w4 w4.drew := below_drewN (Below.refl w4.heap.size w4) 1
  have B5 := hide ((unhide B4).trans (hd1.mono (unhide B4).size))
  have X5 := hide ((unhide X4).below hd1)
  have T5 := hide ((unhide T4).below hd1)
  have M5 := hide ((unhide M4).kept hd1)
  have F5 := hide ((unhide F4).below hd1)
  clear hd1 B4 X4 T4 M4 F4
  obtain ⟨w6, hdel, hM6, hg6⟩ := FMap.del (f := ⟨fn, fd, fs⟩) (unhide M5) (unhide HNO) hn 0
  have P6 := hide ((Touch.ofBelow (T := fun q => q = b) (unhide B5)).trans (grownT hg6) (fun _ _ h => h))
  have X6 := hide ((unhide X5).kept (grownT hg6) (by omega))
  have T6 := hide ((unhide T5).kept (grownT hg6) htb)
  have F6 := hide ((unhide F5).kept (grownT hg6) (by omega))
  have M6 := hide hM6
  have t1 := (Blk.c2 (unhide T5)).1.2
  have x2 := (Blk.c6 (unhide X5)).2.2.1
  clear B5 X5 T5 M5 F5 hM6 hg6
  dsimp only at hdel
  refine wp_region_held_drew (S := (fun wx => wx.cell? ⟨t, 1, none⟩ = some (.map (some b)) ∧ wx.cell? ⟨w.heap.size, 2, none⟩ = some (.string fn))) (by kernel_rfl) ?_ (fun hHeld => ?_)
  · exact ⟨t1, x2⟩
  generalize w4.drew = wd2 at *
  refine tkH 0 rfl ?_
  refine tkH 1 rfl ?_
  refine tkH 2 rfl ?_
  refine tkH 3 rfl ?_
  refine tkH 4 rfl ?_
  refine tkH 5 rfl ?_
  refine wpAnyH_ready (rs := [6]) (by kernel_rfl) (by simp) ?_
  refine AllReadyH.cons (o := _) rfl (fun K hK => ?_) AllReadyH.nil
  go_simp
  refine hK.out _ _ ?_ (fun hHeld => ?_)
  · exact ⟨(Blk.c2 (unhide T6)).1.2, (Blk.c6 (unhide X6)).2.2.1⟩
  clear hK K
  (try simp only [Act.put, List.getElem_toArray, List.getElem_cons_succ, List.getElem_cons_zero, List.setIfInBounds_toArray, List.set_cons_zero, List.set_cons_succ])
  refine wpAnyH_done (by kernel_rfl) ?_ _
  clear t1 x2 hHeld hdel
  have a0 := (Blk.c6 (unhide X6)).1
  clear X6 T6 F6
  go_wp2_with fail
  go_ret
  exact ⟨rfl, unhide M6, unhide P6⟩
set_option maxRecDepth 100000 in
set_option maxHeartbeats 4000000 in
theorem act_drop (room : Int) (t b : Nat) (A B : List Fl) (fn fd : ByteArray) (fs : Int) (w : World) (hT : Blk w t [.int .i64 room, .map (some b)]) (hM : FMap w b (A ++ ⟨fn, fd, fs⟩ :: B)) (hr : Ris (A ++ ⟨fn, fd, fs⟩ :: B)) (hl : (A ++ ⟨fn, fd, fs⟩ :: B).length ≤ 8) (hn : fn.size ≤ maxLen) (hd : fd.size ≤ maxLen) (htb : ¬ t = b) :
    Calls Tryz.prog 45 #[.pointer (some ⟨t, 0, none⟩), actV 4 fn] w fun e w' => e = .returned .nilIface ∧ FMap w' b (A ++ B) ∧ Touch (fun q => q = b) w w' := by
  have hnil : ∀ wx, (binOp BinOp.neq 84 .nilIface .nilIface).run Tryz.prog wx = .ok (.bool false) wx := fun wx => by kernel_rfl
  have B0 := hide ((Below.refl w.heap.size w).alloc (Nat.le_refl _) (.cells #[.int .i64 4, .int .i64 0, .string fn, .string ⟨#[]⟩, .string ⟨#[]⟩, .slice none 0 0] 54))
  have X0 := Blk.new w #[.int .i64 4, .int .i64 0, .string fn, .string ⟨#[]⟩, .string ⟨#[]⟩, .slice none 0 0] 54 w.heap.size rfl
  have HC := hide (change_drop room t b A B fn fd fs (w.alloc (.cells #[.int .i64 4, .int .i64 0, .string fn, .string ⟨#[]⟩, .string ⟨#[]⟩, .slice none 0 0] 54)) (hT.alloc _) (hM.kept (unhide B0)) hr hl hn hd htb)
  obtain ⟨a0, a1, a2, a3, a4, a5⟩ := Blk.c6 X0
  unfold actV at HC ⊢
  clear X0 hT hM
  go_enter Tryz.func45, Tryz.ntmps45
  go_upto_region 2 with fail
  generalize w.alloc (.cells #[.int .i64 4, .int .i64 0, .string fn, .string ⟨#[]⟩, .string ⟨#[]⟩, .slice none 0 0] 54) = w0 at *
  go_wp2_with fail
  refine (unhide HC).mono ?_
  rintro e w2 ⟨rfl, hM2, hT2⟩
  have R := hide (And.intro hM2 ((Touch.ofBelow (T := fun q => q = b) (unhide B0)).trans hT2 (fun _ _ h => h)))
  have hnw := hnil w2
  clear hM2 hT2 HC B0 a0 a1 a2 a3 a4 a5 hnil
  go_wp2_with fail
  go_ret
  exact ⟨rfl, unhide R⟩
set_option maxRecDepth 100000 in
theorem fileCode_nil (w : World) : Calls Tryz.prog 44 #[.nilIface] w fun e w' => e = .returned (.int .i64 0) ∧ w' = w := by
  have hnil : (binOp BinOp.eql 84 .nilIface .nilIface).run Tryz.prog w = .ok (.bool true) w := by kernel_rfl
  go_enter Tryz.func44, Tryz.ntmps44
  go_wp2_with fail
  go_ret
  exact ⟨rfl, rfl⟩
end Go.Proofs.YtfihhkhdigbmiaaGreatDoor
