/- An act, as the specification does it: a sync, a drop. (Written by py/mpi.py.) -/
import Derived.Test.YtfihhkhdigbmiaaGreatDoorMpH
import Derived.Test.YtfihhkhdigbmiaaGreatDoorMpE
import Derived.Test.YtfihhkhdigbmiaaGreatDoorMpW
import Derived.Test.YtfihhkhdigbmiaaGreatDoorSpD
namespace Go.Proofs.YtfihhkhdigbmiaaGreatDoor
open Go.ChangeShapes Go.WideShapes Go.ChangeAt Go.RowKit Go.Maps Go.Sort
set_option linter.unusedVariables false
set_option linter.unusedSimpArgs false

theorem mid_get {A B : List Fl} {f : Fl} : (A ++ f :: B).getD A.length default = f := by
  rw [List.getD_eq_getElem?_getD, List.getElem?_append_right (Nat.le_refl _)]
  simp
theorem mid_no {A B : List Fl} {f : Fl} (h : Ris (A ++ f :: B)) (j : Nat) (hj : j < A.length) : ((A ++ f :: B).getD j default).n ≠ f.n := by
  have hno := (ris_mid h).2.2.2
  rw [List.getD_eq_getElem?_getD, List.getElem?_append_left hj, List.getElem?_eq_getElem hj]
  intro e
  exact hno A[j] (List.mem_append_left _ (List.getElem_mem hj)) (by unfold nmL; rw [show (A[j]).n = f.n from e])
set_option maxRecDepth 100000 in
set_option maxHeartbeats 8000000 in
theorem step_sync (room : Int) (v : Value) (A B : List Fl) (fn fd : ByteArray) (fs : Int) (w : World) (hL : Fls w v (A ++ ⟨fn, fd, fs⟩ :: B)) (hr : Ris (A ++ ⟨fn, fd, fs⟩ :: B)) (hl : (A ++ ⟨fn, fd, fs⟩ :: B).length ≤ 8) (hd : fd.size ≤ maxLen) :
    Calls Tryz.prog 35 #[.agg #[.int .i64 room, v], actV 2 fn] w fun e w' => ∃ a c, e = .returned (.tuple #[.agg #[.int .i64 room, .slice a (A ++ ⟨fn, fd, (fd.size : Int)⟩ :: B).length c], .int .i64 0]) ∧ OwnF w.heap.size w' (.slice a (A ++ ⟨fn, fd, (fd.size : Int)⟩ :: B).length c) (A ++ ⟨fn, fd, (fd.size : Int)⟩ :: B) ∧ Below w.heap.size w w' := by
  have hlen : (A ++ ⟨fn, fd, fs⟩ :: B).length = A.length + B.length + 1 := by simp; omega
  have HF := hide (fun wx (hx : Below w.heap.size w wx) => l03Find_any room v (A ++ ⟨fn, fd, fs⟩ :: B) fn A.length wx (hL.below hx) (by omega) (by omega) (by rw [mid_get]) (fun j hj => mid_no hr j hj))
  have HP := hide (fun wx (hx : Below w.heap.size w wx) => l03Put_any room v (A ++ ⟨fn, fd, fs⟩ :: B) fn fd (fd.size : Int) wx (hL.below hx) hr hl)
  rw [putL_mid (f := ⟨fn, fd, (fd.size : Int)⟩) (g := ⟨fn, fd, fs⟩) rfl hr] at HP
  obtain ⟨a, cap, rfl, hn, hm, hc⟩ := hL
  obtain ⟨b, off, rfl, hbl, hsrc⟩ : ∃ b off, a = some ⟨b, off, none⟩ ∧ b < w.heap.size ∧ ∀ i, i < (A ++ ⟨fn, fd, fs⟩ :: B).length → w.cell? ⟨b, off + i * 3, none⟩ = some (.string ((A ++ ⟨fn, fd, fs⟩ :: B).getD i default).n) ∧ w.cell? ⟨b, off + i * 3 + 1, none⟩ = some (.string ((A ++ ⟨fn, fd, fs⟩ :: B).getD i default).d) ∧ w.cell? ⟨b, off + i * 3 + 2, none⟩ = some (.int .i64 ((A ++ ⟨fn, fd, fs⟩ :: B).getD i default).s) := by
    rcases hc with h0 | h1
    · omega
    · exact h1
  obtain ⟨s0, s1, s2⟩ := hsrc A.length (by omega)
  rw [mid_get] at s0 s1 s2
  have hk0 : (0 : Int) ≤ (A.length : Int) := by omega
  have hk1 : (A.length : Int) < ((A ++ ⟨fn, fd, fs⟩ :: B).length : Int) := by omega
  have hk2 : ¬ (A.length : Int) < 0 := by omega
  unfold actV
  unfold maxLen at hm
  clear hc hsrc hr hlen
  generalize hA : A.length = k at *
  clear hA
  have hlb : (A ++ ⟨fn, fd, fs⟩ :: B).length ≤ 8 := hl
  have HRES := hide (show (A ++ ⟨fn, fd, (fd.size : Int)⟩ :: B) = (A ++ ⟨fn, fd, (fd.size : Int)⟩ :: B) from rfl)
  generalize (A ++ ⟨fn, fd, fs⟩ :: B) = l at *
  generalize (A ++ ⟨fn, fd, (fd.size : Int)⟩ :: B) = lr at *
  clear HRES
  have B0 := hide ((((Below.refl w.heap.size w).alloc (Nat.le_refl _) (.cells #[.int .i64 room, .slice (some ⟨b, off, none⟩) l.length cap] 28)).alloc (by simp) (.cells #[.int .i64 2, .int .i64 0, .string fn, .string ⟨#[]⟩, .string ⟨#[]⟩, .slice none 0 0] 54)).alloc (by simp; omega) (.cells #[.int .i64 0, .slice none 0 0] 28))
  have X0 := hide (((Blk.new w #[.int .i64 room, .slice (some ⟨b, off, none⟩) l.length cap] 28 w.heap.size rfl).alloc (.cells #[.int .i64 2, .int .i64 0, .string fn, .string ⟨#[]⟩, .string ⟨#[]⟩, .slice none 0 0] 54)).alloc (.cells #[.int .i64 0, .slice none 0 0] 28))
  have A0 := hide ((Blk.new (w.alloc (.cells #[.int .i64 room, .slice (some ⟨b, off, none⟩) l.length cap] 28)) #[.int .i64 2, .int .i64 0, .string fn, .string ⟨#[]⟩, .string ⟨#[]⟩, .slice none 0 0] 54 (w.heap.size + 1) (by simp)).alloc (.cells #[.int .i64 0, .slice none 0 0] 28))
  have D0 := hide (Blk.new ((w.alloc (.cells #[.int .i64 room, .slice (some ⟨b, off, none⟩) l.length cap] 28)).alloc (.cells #[.int .i64 2, .int .i64 0, .string fn, .string ⟨#[]⟩, .string ⟨#[]⟩, .slice none 0 0] 54)) #[.int .i64 0, .slice none 0 0] 28 (w.heap.size + 1 + 1) (by simp))
  go_enter Tryz.func35, Tryz.ntmps35
  go_upto_region 1 with fail
  generalize ((w.alloc (.cells #[.int .i64 room, .slice (some ⟨b, off, none⟩) l.length cap] 28)).alloc (.cells #[.int .i64 2, .int .i64 0, .string fn, .string ⟨#[]⟩, .string ⟨#[]⟩, .slice none 0 0] 54)).alloc (.cells #[.int .i64 0, .slice none 0 0] 28) = w0 at *
  obtain ⟨⟨x0, x1⟩, _⟩ := Blk.c2 (unhide X0)
  obtain ⟨a0, a1, a2, a3, a4, a5⟩ := Blk.c6 (unhide A0)
  go_upto_region 11 with fail
  go_wp2_with fail
  refine (unhide HF _ (unhide B0)).mono ?_
  rintro e w1 ⟨rfl, hb1⟩
  have B1 := hide ((unhide B0).trans (hb1.mono (unhide B0).size))
  have X1 := hide ((unhide X0).below hb1)
  have A1 := hide ((unhide A0).below hb1)
  have D1 := hide ((unhide D0).below hb1)
  clear HF hb1 B0 X0 A0 D0 x0 x1 a0 a1 a2 a3 a4 a5
  obtain ⟨⟨x0, x1⟩, _⟩ := Blk.c2 (unhide X1)
  obtain ⟨a0, a1, a2, a3, a4, a5⟩ := Blk.c6 (unhide A1)
  have c0 := ((unhide B1).cell (p := ⟨b, off + k * 3, none⟩) hbl).trans s0
  have c1 := ((unhide B1).cell (p := ⟨b, off + k * 3 + 1, none⟩) hbl).trans s1
  have c2 := ((unhide B1).cell (p := ⟨b, off + k * 3 + 2, none⟩) hbl).trans s2
  have hDl := (unhide D1).1
  have hAA := (Below.refl w1.heap.size w1).alloc (Nat.le_refl _) (.cells #[.string fn, .string fd, .int .i64 fs] 68)
  have B2 := hide ((unhide B1).trans (hAA.mono (unhide B1).size))
  have X2 := hide ((unhide X1).below hAA)
  have A2 := hide ((unhide A1).below hAA)
  have D2 := hide ((unhide D1).below hAA)
  have F2 := hide (Blk.new w1 #[.string fn, .string fd, .int .i64 fs] 68 w1.heap.size rfl)
  clear hAA B1 X1 A1 D1
  go_upto_region 15 with fail
  clear x0 x1 a0 a1 a2 a3 a4 a5 c0 c1 c2
  generalize w1.alloc (.cells #[.string fn, .string fd, .int .i64 fs] 68) = w2 at *
  generalize w1.heap.size = fb at *
  have a0 := (Blk.c6 (unhide A2)).1
  obtain ⟨⟨f0, f1, f2⟩, g0, g1, g2⟩ := Blk.c3 (unhide F2)
  have hS := (Touch.refl (fun q => q = fb) w2).setCell ⟨fb, 2, none⟩ (.int .i64 (fd.size : Int)) (fun _ => rfl)
  have B3 := hide ((unhide B2).trans (hS.below (unhide B2).size (fun q hq e => by omega)))
  have X3 := hide ((unhide X2).kept hS (by omega))
  have D3 := hide ((unhide D2).kept hS (by omega))
  have F3 := hide ((unhide F2).set 2 (.int .i64 (fd.size : Int)) (by simp))
  clear hS B2 X2 A2 D2 F2
  go_upto_region 18 with fail
  clear f0 f1 f2 g0 g1 g2 a0
  generalize w2.setCell ⟨fb, 2, none⟩ (.int .i64 (fd.size : Int)) = w3 at *
  obtain ⟨⟨x0, x1⟩, _⟩ := Blk.c2 (unhide X3)
  obtain ⟨⟨f0, f1, f2⟩, _⟩ := Blk.c3 (unhide F3)
  go_wp2_with fail
  refine (unhide HP _ (unhide B3)).mono ?_
  rintro e w4 ⟨pa, pc, rfl, ho, hb⟩
  have hw3 := (unhide B3).size
  have hD3 := (unhide D3).1
  have B4 := (unhide B3).trans (hb.mono (unhide B3).size)
  have D4 := (unhide D3).below hb
  have hT := ((Touch.refl (fun q => q = w.heap.size + 1 + 1) w4).setCell ⟨w.heap.size + 1 + 1, 0, none⟩ (.int .i64 room) (fun _ => rfl)).setCell ⟨w.heap.size + 1 + 1, 1, none⟩ (.slice pa lr.length pc) (fun _ => rfl)
  have HY := hide ((D4.set 0 (.int .i64 room) (by simp)).set 1 (.slice pa lr.length pc) (by simp))
  have HK := hide (B4.trans (hT.below B4.size (fun q hq e => by omega)))
  have HO := hide (ho.kept hT (fun q hq e => by have := (World.ownsRow.lt ho q hq).1; omega))
  obtain ⟨⟨d0, d1⟩, g0, g1⟩ := Blk.c2 D4
  clear HP ho hb B4 D4 hT B3 X3 D3
  go_wp2_with fail
  obtain ⟨⟨z0, z1⟩, _⟩ := Blk.c2 (unhide HY)
  refine bodyPost_ret (v := .tuple #[.agg #[.int .i64 room, .slice pa lr.length pc], .int .i64 0]) (by simp [results, Tryz.results35, go_sem, z0, z1]) rfl ?_
  exact ⟨pa, pc, rfl, World.ownsRow.mono (unhide HO) hw3, unhide HK⟩
set_option maxRecDepth 100000 in
set_option maxHeartbeats 8000000 in
theorem step_drop (room : Int) (v : Value) (A B : List Fl) (fn fd : ByteArray) (fs : Int) (w : World) (hL : Fls w v (A ++ ⟨fn, fd, fs⟩ :: B)) (hr : Ris (A ++ ⟨fn, fd, fs⟩ :: B)) (hl : (A ++ ⟨fn, fd, fs⟩ :: B).length ≤ 8) (hd : fd.size ≤ maxLen) :
    Calls Tryz.prog 35 #[.agg #[.int .i64 room, v], actV 4 fn] w fun e w' => ∃ a c, e = .returned (.tuple #[.agg #[.int .i64 room, .slice a (A ++ B).length c], .int .i64 0]) ∧ OwnF w.heap.size w' (.slice a (A ++ B).length c) (A ++ B) ∧ Below w.heap.size w w' := by
  have hlen : (A ++ ⟨fn, fd, fs⟩ :: B).length = A.length + B.length + 1 := by simp; omega
  have HF := hide (fun wx (hx : Below w.heap.size w wx) => l03Find_any room v (A ++ ⟨fn, fd, fs⟩ :: B) fn A.length wx (hL.below hx) (by omega) (by omega) (by rw [mid_get]) (fun j hj => mid_no hr j hj))
  have HP := hide (fun wx (hx : Below w.heap.size w wx) => l03Without_any room v A B ⟨fn, fd, fs⟩ wx (hL.below hx) hl)
  obtain ⟨a, cap, rfl, hn, hm, hc⟩ := hL
  obtain ⟨b, off, rfl, hbl, hsrc⟩ : ∃ b off, a = some ⟨b, off, none⟩ ∧ b < w.heap.size ∧ ∀ i, i < (A ++ ⟨fn, fd, fs⟩ :: B).length → w.cell? ⟨b, off + i * 3, none⟩ = some (.string ((A ++ ⟨fn, fd, fs⟩ :: B).getD i default).n) ∧ w.cell? ⟨b, off + i * 3 + 1, none⟩ = some (.string ((A ++ ⟨fn, fd, fs⟩ :: B).getD i default).d) ∧ w.cell? ⟨b, off + i * 3 + 2, none⟩ = some (.int .i64 ((A ++ ⟨fn, fd, fs⟩ :: B).getD i default).s) := by
    rcases hc with h0 | h1
    · omega
    · exact h1
  obtain ⟨s0, s1, s2⟩ := hsrc A.length (by omega)
  rw [mid_get] at s0 s1 s2
  have hk0 : (0 : Int) ≤ (A.length : Int) := by omega
  have hk1 : (A.length : Int) < ((A ++ ⟨fn, fd, fs⟩ :: B).length : Int) := by omega
  have hk2 : ¬ (A.length : Int) < 0 := by omega
  unfold actV
  unfold maxLen at hm
  clear hc hsrc hr hlen
  generalize hA : A.length = k at *
  clear hA
  have hlb : (A ++ ⟨fn, fd, fs⟩ :: B).length ≤ 8 := hl
  have HRES := hide (show (A ++ B) = (A ++ B) from rfl)
  generalize (A ++ ⟨fn, fd, fs⟩ :: B) = l at *
  generalize (A ++ B) = lr at *
  clear HRES
  have B0 := hide ((((Below.refl w.heap.size w).alloc (Nat.le_refl _) (.cells #[.int .i64 room, .slice (some ⟨b, off, none⟩) l.length cap] 28)).alloc (by simp) (.cells #[.int .i64 4, .int .i64 0, .string fn, .string ⟨#[]⟩, .string ⟨#[]⟩, .slice none 0 0] 54)).alloc (by simp; omega) (.cells #[.int .i64 0, .slice none 0 0] 28))
  have X0 := hide (((Blk.new w #[.int .i64 room, .slice (some ⟨b, off, none⟩) l.length cap] 28 w.heap.size rfl).alloc (.cells #[.int .i64 4, .int .i64 0, .string fn, .string ⟨#[]⟩, .string ⟨#[]⟩, .slice none 0 0] 54)).alloc (.cells #[.int .i64 0, .slice none 0 0] 28))
  have A0 := hide ((Blk.new (w.alloc (.cells #[.int .i64 room, .slice (some ⟨b, off, none⟩) l.length cap] 28)) #[.int .i64 4, .int .i64 0, .string fn, .string ⟨#[]⟩, .string ⟨#[]⟩, .slice none 0 0] 54 (w.heap.size + 1) (by simp)).alloc (.cells #[.int .i64 0, .slice none 0 0] 28))
  have D0 := hide (Blk.new ((w.alloc (.cells #[.int .i64 room, .slice (some ⟨b, off, none⟩) l.length cap] 28)).alloc (.cells #[.int .i64 4, .int .i64 0, .string fn, .string ⟨#[]⟩, .string ⟨#[]⟩, .slice none 0 0] 54)) #[.int .i64 0, .slice none 0 0] 28 (w.heap.size + 1 + 1) (by simp))
  go_enter Tryz.func35, Tryz.ntmps35
  go_upto_region 1 with fail
  generalize ((w.alloc (.cells #[.int .i64 room, .slice (some ⟨b, off, none⟩) l.length cap] 28)).alloc (.cells #[.int .i64 4, .int .i64 0, .string fn, .string ⟨#[]⟩, .string ⟨#[]⟩, .slice none 0 0] 54)).alloc (.cells #[.int .i64 0, .slice none 0 0] 28) = w0 at *
  obtain ⟨⟨x0, x1⟩, _⟩ := Blk.c2 (unhide X0)
  obtain ⟨a0, a1, a2, a3, a4, a5⟩ := Blk.c6 (unhide A0)
  go_upto_region 11 with fail
  go_wp2_with fail
  refine (unhide HF _ (unhide B0)).mono ?_
  rintro e w1 ⟨rfl, hb1⟩
  have B1 := hide ((unhide B0).trans (hb1.mono (unhide B0).size))
  have X1 := hide ((unhide X0).below hb1)
  have A1 := hide ((unhide A0).below hb1)
  have D1 := hide ((unhide D0).below hb1)
  clear HF hb1 B0 X0 A0 D0 x0 x1 a0 a1 a2 a3 a4 a5
  obtain ⟨⟨x0, x1⟩, _⟩ := Blk.c2 (unhide X1)
  obtain ⟨a0, a1, a2, a3, a4, a5⟩ := Blk.c6 (unhide A1)
  have c0 := ((unhide B1).cell (p := ⟨b, off + k * 3, none⟩) hbl).trans s0
  have c1 := ((unhide B1).cell (p := ⟨b, off + k * 3 + 1, none⟩) hbl).trans s1
  have c2 := ((unhide B1).cell (p := ⟨b, off + k * 3 + 2, none⟩) hbl).trans s2
  have hDl := (unhide D1).1
  have hAA := (Below.refl w1.heap.size w1).alloc (Nat.le_refl _) (.cells #[.string fn, .string fd, .int .i64 fs] 68)
  have B2 := hide ((unhide B1).trans (hAA.mono (unhide B1).size))
  have X2 := hide ((unhide X1).below hAA)
  have A2 := hide ((unhide A1).below hAA)
  have D2 := hide ((unhide D1).below hAA)
  have F2 := hide (Blk.new w1 #[.string fn, .string fd, .int .i64 fs] 68 w1.heap.size rfl)
  clear hAA B1 X1 A1 D1
  go_upto_region 15 with fail
  clear x0 x1 a0 a1 a2 a3 a4 a5 c0 c1 c2
  generalize w1.alloc (.cells #[.string fn, .string fd, .int .i64 fs] 68) = w2 at *
  generalize w1.heap.size = fb at *
  have a0 := (Blk.c6 (unhide A2)).1
  have B3 := B2
  have X3 := X2
  have D3 := D2
  clear F2 A2 B2 X2 D2
  generalize w2 = w3 at *
  obtain ⟨⟨x0, x1⟩, _⟩ := Blk.c2 (unhide X3)
  go_upto_region 20 with fail
  go_wp2_with fail
  refine (unhide HP _ (unhide B3)).mono ?_
  rintro e w4 ⟨pa, pc, rfl, ho, hb⟩
  have hw3 := (unhide B3).size
  have hD3 := (unhide D3).1
  have B4 := (unhide B3).trans (hb.mono (unhide B3).size)
  have D4 := (unhide D3).below hb
  have hT := ((Touch.refl (fun q => q = w.heap.size + 1 + 1) w4).setCell ⟨w.heap.size + 1 + 1, 0, none⟩ (.int .i64 room) (fun _ => rfl)).setCell ⟨w.heap.size + 1 + 1, 1, none⟩ (.slice pa lr.length pc) (fun _ => rfl)
  have HY := hide ((D4.set 0 (.int .i64 room) (by simp)).set 1 (.slice pa lr.length pc) (by simp))
  have HK := hide (B4.trans (hT.below B4.size (fun q hq e => by omega)))
  have HO := hide (ho.kept hT (fun q hq e => by have := (World.ownsRow.lt ho q hq).1; omega))
  obtain ⟨⟨d0, d1⟩, g0, g1⟩ := Blk.c2 D4
  clear HP ho hb B4 D4 hT B3 X3 D3
  go_wp2_with fail
  obtain ⟨⟨z0, z1⟩, _⟩ := Blk.c2 (unhide HY)
  refine bodyPost_ret (v := .tuple #[.agg #[.int .i64 room, .slice pa lr.length pc], .int .i64 0]) (by simp [results, Tryz.results35, go_sem, z0, z1]) rfl ?_
  exact ⟨pa, pc, rfl, World.ownsRow.mono (unhide HO) hw3, unhide HK⟩
end Go.Proofs.YtfihhkhdigbmiaaGreatDoor
