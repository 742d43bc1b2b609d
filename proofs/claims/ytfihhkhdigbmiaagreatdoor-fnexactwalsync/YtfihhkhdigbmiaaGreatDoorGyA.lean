/- An act, as the specification does it: a sync, a drop. (Written by py/mpi.py.) The last segment synced, as the specification does it. (Written by py/mpj.py.) The last segment synced, as the program does it. (Written by py/mpk.py.) -/
import Derived.Test.YtfihhkhdigbmiaaGreatDoorMpH
import Derived.Test.YtfihhkhdigbmiaaGreatDoorMpE
import Derived.Test.YtfihhkhdigbmiaaGreatDoorSpD
import Derived.Test.YtfihhkhdigbmiaaGreatDoorSpS
import Derived.Test.YtfihhkhdigbmiaaGreatDoorSeg
import Derived.Test.YtfihhkhdigbmiaaGreatDoorSmallD
import Derived.Test.YtfihhkhdigbmiaaGreatDoorFilP
import Derived.Test.YtfihhkhdigbmiaaGreatDoorMpF
import Derived.Test.YtfihhkhdigbmiaaGreatDoorSgR
namespace Go.Proofs.YtfihhkhdigbmiaaGreatDoor
open Go.ChangeShapes Go.WideShapes Go.ChangeAt Go.RowKit Go.Maps Go.Sort
set_option linter.unusedVariables false
set_option linter.unusedSimpArgs false

theorem mid_get {A B : List Fl} {f : Fl} : (A ++ f :: B).getD A.length default = f := by
  rw [List.getD_eq_getElem?_getD, List.getElem?_append_right (Nat.le_refl _)]
  simp
theorem mid_no {A B : List Fl} {f : Fl} (h : Ris (A ++ f :: B)) (j : Nat) (hj : j < A.length) : ((A ++ f :: B).getD j default).n ≠ f.n := by
  have hno := (ris_mid h).2.2.2
  rw [List.getD_eq_getElem?_getD, List.getElem?_append_left hj, List.getElem?_eq_getElem hj]
  intro e
  exact hno A[j] (List.mem_append_left _ (List.getElem_mem hj)) (by unfold nmL; rw [show (A[j]).n = f.n from e])
set_option maxRecDepth 100000 in
set_option maxHeartbeats 8000000 in
theorem step_sync (room : Int) (v : Value) (A B : List Fl) (fn fd : ByteArray) (fs : Int) (w : World) (hL : Fls w v (A ++ ⟨fn, fd, fs⟩ :: B)) (hr : Ris (A ++ ⟨fn, fd, fs⟩ :: B)) (hl : (A ++ ⟨fn, fd, fs⟩ :: B).length ≤ 8) (hd : fd.size ≤ maxLen) :
    Calls Tryz.prog 35 #[.agg #[.int .i64 room, v], actV 2 fn] w fun e w' => ∃ a c, e = .returned (.tuple #[.agg #[.int .i64 room, .slice a (A ++ ⟨fn, fd, (fd.size : Int)⟩ :: B).length c], .int .i64 0]) ∧ OwnF w.heap.size w' (.slice a (A ++ ⟨fn, fd, (fd.size : Int)⟩ :: B).length c) (A ++ ⟨fn, fd, (fd.size : Int)⟩ :: B) ∧ Below w.heap.size w w' := by
  have hlen : (A ++ ⟨fn, fd, fs⟩ :: B).length = A.length + B.length + 1 := by simp; omega
  have HF := hide (fun wx (hx : Below w.heap.size w wx) => l03Find_any room v (A ++ ⟨fn, fd, fs⟩ :: B) fn A.length wx (hL.below hx) (by omega) (by omega) (by rw [mid_get]) (fun j hj => mid_no hr j hj))
  have HP := hide (fun wx (hx : Below w.heap.size w wx) => l03Put_any room v (A ++ ⟨fn, fd, fs⟩ :: B) fn fd (fd.size : Int) wx (hL.below hx) hr hl)
  rw [putL_mid (f := ⟨fn, fd, (fd.size : Int)⟩) (g := ⟨fn, fd, fs⟩) rfl hr] at HP
  obtain ⟨a, cap, rfl, hn, hm, hc⟩ := hL
  obtain ⟨b, off, rfl, hbl, hsrc⟩ : ∃ b off, a = some ⟨b, off, none⟩ ∧ b < w.heap.size ∧ ∀ i, i < (A ++ ⟨fn, fd, fs⟩ :: B).length → w.cell? ⟨b, off + i * 3, none⟩ = some (.string ((A ++ ⟨fn, fd, fs⟩ :: B).getD i default).n) ∧ w.cell? ⟨b, off + i * 3 + 1, none⟩ = some (.string ((A ++ ⟨fn, fd, fs⟩ :: B).getD i default).d) ∧ w.cell? ⟨b, off + i * 3 + 2, none⟩ = some (.int .i64 ((A ++ ⟨fn, fd, fs⟩ :: B).getD i default).s) := by
    rcases hc with h0 | h1
    · omega
    · exact h1
  obtain ⟨s0, s1, s2⟩ := hsrc A.length (by omega)
  rw [mid_get] at s0 s1 s2
  have hk0 : (0 : Int) ≤ (A.length : Int) := by omega
  have hk1 : (A.length : Int) < ((A ++ ⟨fn, fd, fs⟩ :: B).length : Int) := by omega
  have hk2 : ¬ (A.length : Int) < 0 := by omega
  unfold actV
  unfold maxLen at hm
  clear hc hsrc hr hlen
  generalize hA : A.length = k at *
  clear hA
  have hlb : (A ++ ⟨fn, fd, fs⟩ :: B).length ≤ 8 := hl
  have HRES := hide (show (A ++ ⟨fn, fd, (fd.size : Int)⟩ :: B) = (A ++ ⟨fn, fd, (fd.size : Int)⟩ :: B) from rfl)
  generalize (A ++ ⟨fn, fd, fs⟩ :: B) = l at *
  generalize (A ++ ⟨fn, fd, (fd.size : Int)⟩ :: B) = lr at *
  clear HRES
  have B0 := hide ((((Below.refl w.heap.size w).alloc (Nat.le_refl _) (.cells #[.int .i64 room, .slice (some ⟨b, off, none⟩) l.length cap] 28)).alloc (by simp) (.cells #[.int .i64 2, .int .i64 0, .string fn, .string ⟨#[]⟩, .string ⟨#[]⟩, .slice none 0 0] 54)).alloc (by simp; omega) (.cells #[.int .i64 0, .slice none 0 0] 28))
  have X0 := hide (((Blk.new w #[.int .i64 room, .slice (some ⟨b, off, none⟩) l.length cap] 28 w.heap.size rfl).alloc (.cells #[.int .i64 2, .int .i64 0, .string fn, .string ⟨#[]⟩, .string ⟨#[]⟩, .slice none 0 0] 54)).alloc (.cells #[.int .i64 0, .slice none 0 0] 28))
  have A0 := hide ((Blk.new (w.alloc (.cells #[.int .i64 room, .slice (some ⟨b, off, none⟩) l.length cap] 28)) #[.int .i64 2, .int .i64 0, .string fn, .string ⟨#[]⟩, .string ⟨#[]⟩, .slice none 0 0] 54 (w.heap.size + 1) (by simp)).alloc (.cells #[.int .i64 0, .slice none 0 0] 28))
  have D0 := hide (Blk.new ((w.alloc (.cells #[.int .i64 room, .slice (some ⟨b, off, none⟩) l.length cap] 28)).alloc (.cells #[.int .i64 2, .int .i64 0, .string fn, .string ⟨#[]⟩, .string ⟨#[]⟩, .slice none 0 0] 54)) #[.int .i64 0, .slice none 0 0] 28 (w.heap.size + 1 + 1) (by simp))
  go_enter Tryz.func35, Tryz.ntmps35
  go_upto_region 1 with fail
  generalize ((w.alloc (.cells #[.int .i64 room, .slice (some ⟨b, off, none⟩) l.length cap] 28)).alloc (.cells #[.int .i64 2, .int .i64 0, .string fn, .string ⟨#[]⟩, .string ⟨#[]⟩, .slice none 0 0] 54)).alloc (.cells #[.int .i64 0, .slice none 0 0] 28) = w0 at *
  obtain ⟨⟨x0, x1⟩, _⟩ := Blk.c2 (unhide X0)
  obtain ⟨a0, a1, a2, a3, a4, a5⟩ := Blk.c6 (unhide A0)
  go_upto_region 11 with fail
  go_wp2_with fail
  refine (unhide HF _ (unhide B0)).mono ?_
  rintro e w1 ⟨rfl, hb1⟩
  have B1 := hide ((unhide B0).trans (hb1.mono (unhide B0).size))
  have X1 := hide ((unhide X0).below hb1)
  have A1 := hide ((unhide A0).below hb1)
  have D1 := hide ((unhide D0).below hb1)
  clear HF hb1 B0 X0 A0 D0 x0 x1 a0 a1 a2 a3 a4 a5
  obtain ⟨⟨x0, x1⟩, _⟩ := Blk.c2 (unhide X1)
  obtain ⟨a0, a1, a2, a3, a4, a5⟩ := Blk.c6 (unhide A1)
  have c0 := ((unhide B1).cell (p := ⟨b, off + k * 3, none⟩) hbl).trans s0
  have c1 := ((unhide B1).cell (p := ⟨b, off + k * 3 + 1, none⟩) hbl).trans s1
  have c2 := ((unhide B1).cell (p := ⟨b, off + k * 3 + 2, none⟩) hbl).trans s2
  have hDl := (unhide D1).1
  have hAA := (Below.refl w1.heap.size w1).alloc (Nat.le_refl _) (.cells #[.string fn, .string fd, .int .i64 fs] 68)
  have B2 := hide ((unhide B1).trans (hAA.mono (unhide B1).size))
  have X2 := hide ((unhide X1).below hAA)
  have A2 := hide ((unhide A1).below hAA)
  have D2 := hide ((unhide D1).below hAA)
  have F2 := hide (Blk.new w1 #[.string fn, .string fd, .int .i64 fs] 68 w1.heap.size rfl)
  clear hAA B1 X1 A1 D1
  go_upto_region 15 with fail
  clear x0 x1 a0 a1 a2 a3 a4 a5 c0 c1 c2
  generalize w1.alloc (.cells #[.string fn, .string fd, .int .i64 fs] 68) = w2 at *
  generalize w1.heap.size = fb at *
  have a0 := (Blk.c6 (unhide A2)).1
  obtain ⟨⟨f0, f1, f2⟩, g0, g1, g2⟩ := Blk.c3 (unhide F2)
  have hS := (Touch.refl (fun q => q = fb) w2).setCell ⟨fb, 2, none⟩ (.int .i64 (fd.size : Int)) (fun _ => rfl)
  have B3 := hide ((unhide B2).trans (hS.below (unhide B2).size (fun q hq e => by omega)))
  have X3 := hide ((unhide X2).kept hS (by omega))
  have D3 := hide ((unhide D2).kept hS (by omega))
  have F3 := hide ((unhide F2).set 2 (.int .i64 (fd.size : Int)) (by simp))
  clear hS B2 X2 A2 D2 F2
  go_upto_region 18 with fail
  clear f0 f1 f2 g0 g1 g2 a0
  generalize w2.setCell ⟨fb, 2, none⟩ (.int .i64 (fd.size : Int)) = w3 at *
  obtain ⟨⟨x0, x1⟩, _⟩ := Blk.c2 (unhide X3)
  obtain ⟨⟨f0, f1, f2⟩, _⟩ := Blk.c3 (unhide F3)
  go_wp2_with fail
  refine (unhide HP _ (unhide B3)).mono ?_
  rintro e w4 ⟨pa, pc, rfl, ho, hb⟩
  have hw3 := (unhide B3).size
  have hD3 := (unhide D3).1
  have B4 := (unhide B3).trans (hb.mono (unhide B3).size)
  have D4 := (unhide D3).below hb
  have hT := ((Touch.refl (fun q => q = w.heap.size + 1 + 1) w4).setCell ⟨w.heap.size + 1 + 1, 0, none⟩ (.int .i64 room) (fun _ => rfl)).setCell ⟨w.heap.size + 1 + 1, 1, none⟩ (.slice pa lr.length pc) (fun _ => rfl)
  have HY := hide ((D4.set 0 (.int .i64 room) (by simp)).set 1 (.slice pa lr.length pc) (by simp))
  have HK := hide (B4.trans (hT.below B4.size (fun q hq e => by omega)))
  have HO := hide (ho.kept hT (fun q hq e => by have := (World.ownsRow.lt ho q hq).1; omega))
  obtain ⟨⟨d0, d1⟩, g0, g1⟩ := Blk.c2 D4
  clear HP ho hb B4 D4 hT B3 X3 D3
  go_wp2_with fail
  obtain ⟨⟨z0, z1⟩, _⟩ := Blk.c2 (unhide HY)
  refine bodyPost_ret (v := .tuple #[.agg #[.int .i64 room, .slice pa lr.length pc], .int .i64 0]) (by simp [results, Tryz.results35, go_sem, z0, z1]) rfl ?_
  exact ⟨pa, pc, rfl, World.ownsRow.mono (unhide HO) hw3, unhide HK⟩
end Go.Proofs.YtfihhkhdigbmiaaGreatDoor
namespace Go.Proofs.YtfihhkhdigbmiaaGreatDoor
open Go.ChangeShapes Go.WideShapes Go.ChangeAt Go.RowKit Go.Maps Go.Sort
set_option linter.unusedVariables false
set_option linter.unusedSimpArgs false

/-- The files, the last segment sure. -/
def syncL (l : List Fl) : List Fl :=
  if (segsP l).length = 0 then l else l.map fun g => if nmL g = nmL ((segsP l).getD ((segsP l).length - 1) default) then ⟨g.n, g.d, (g.d.size : Int)⟩ else g
theorem seg_last {l : List Fl} (hr : Ris l) (h : ¬ (segsP l).length = 0) : ∃ A B f, l = A ++ f :: B ∧ (segsP l).getD ((segsP l).length - 1) default = f ∧ 0 < plcP f.n ∧ syncL l = A ++ ⟨f.n, f.d, (f.d.size : Int)⟩ :: B := by
  obtain ⟨f, hf⟩ : ∃ f, f = (segsP l).getD ((segsP l).length - 1) default := ⟨_, rfl⟩
  have hmem : f ∈ segsP l := by
    rw [hf, List.getD_eq_getElem?_getD, List.getElem?_eq_getElem (by omega)]
    exact List.getElem_mem _
  have hm2 := List.mem_filter.1 hmem
  obtain ⟨A, B, hl⟩ := List.append_of_mem hm2.1
  refine ⟨A, B, f, hl, hf.symm, of_decide_eq_true hm2.2, ?_⟩
  have hno := (ris_mid (hl ▸ hr)).2.2.2
  unfold syncL
  rw [if_neg h, ← hf]
  conv => lhs; arg 2; rw [hl]
  rw [List.map_append, List.map_cons, if_pos rfl]
  congr 1
  · refine (List.map_congr_left fun g hg => ?_).trans (List.map_id A)
    rw [if_neg (hno g (List.mem_append_left _ hg))]; rfl
  · congr 1
    refine (List.map_congr_left fun g hg => ?_).trans (List.map_id B)
    rw [if_neg (hno g (List.mem_append_right _ hg))]; rfl
set_option maxRecDepth 100000 in
set_option maxHeartbeats 8000000 in
theorem l04Sync_any (room : Int) (v : Value) (l : List Fl) (w : World) (hL : Fls w v l) (hr : Ris l) (hl : l.length ≤ 8) (hz : ∀ i, i < l.length → (l.getD i default).n.size ≤ 1048576) (hd : ∀ f ∈ l, f.d.size ≤ maxLen) :
    Calls Tryz.prog 17 #[.agg #[.int .i64 room, v]] w fun e w' => ∃ a c, e = .returned (.agg #[.int .i64 room, .slice a (syncL l).length c]) ∧ Fls w' (.slice a (syncL l).length c) (syncL l) ∧ Below w.heap.size w w' := by
  have HL := hide (fun wx (hx : Below w.heap.size w wx) => hL.below hx)
  obtain ⟨a, cap, rfl, hn, hm, _⟩ := id hL
  have HSG := hide (fun wx (hx : Below w.heap.size w wx) => l04Segments_any room (.slice a l.length cap) l wx (hL.below hx) hl hz)
  have B0 := hide (((Below.refl w.heap.size w).alloc (Nat.le_refl _) (.cells #[.int .i64 room, .slice a l.length cap] 28)).alloc (by simp) (.cells #[.int .i64 0, .slice none 0 0] 28))
  have X0 := hide ((Blk.new w #[.int .i64 room, .slice a l.length cap] 28 w.heap.size rfl).alloc (.cells #[.int .i64 0, .slice none 0 0] 28))
  have D0 := hide (Blk.new (w.alloc (.cells #[.int .i64 room, .slice a l.length cap] 28)) #[.int .i64 0, .slice none 0 0] 28 (w.heap.size + 1) (by simp))
  clear hL
  obtain ⟨so, hso⟩ : ∃ so, so = syncL l := ⟨_, rfl⟩
  rw [← hso]
  go_enter Tryz.func17, Tryz.ntmps17
  go_upto_region 1 with fail
  generalize (w.alloc (.cells #[.int .i64 room, .slice a l.length cap] 28)).alloc (.cells #[.int .i64 0, .slice none 0 0] 28) = w0 at *
  obtain ⟨⟨x0, x1⟩, _⟩ := Blk.c2 (unhide X0)
  go_wp2_with fail
  refine (unhide HSG _ (unhide B0)).mono ?_
  rintro e w1 ⟨nv, rfl, hN1, hb1⟩
  have B1 := hide ((unhide B0).trans (hb1.mono (unhide B0).size))
  have X1 := hide ((unhide X0).below hb1)
  have D1 := hide ((unhide D0).below hb1)
  have N1 := hide hN1
  have hnl : (numsP l).length = (segsP l).length := by simp [numsP]
  obtain ⟨na, nc, rfl⟩ : ∃ na nc, nv = .slice na (segsP l).length nc := by
    rw [← hnl]
    rcases own_shape hN1 with ⟨rfl, h0⟩ | ⟨g, c, rfl, _⟩
    · exact ⟨none, 0, by rw [h0]⟩
    · exact ⟨_, _, rfl⟩
  clear HSG hb1 B0 X0 D0 x0 x1 hN1
  obtain ⟨⟨x0, x1⟩, _⟩ := Blk.c2 (unhide X1)
  obtain ⟨⟨d0, d1⟩, g0, g1⟩ := Blk.c2 (unhide D1)
  by_cases h0 : (segsP l).length = 0
  · have hsy : l = so := (hso.trans (if_pos h0)).symm
    clear hso
    subst hsy
    have hq : (((segsP l).length : Int) == 0) = true := beq_iff_eq.2 (by omega)
    have hT := ((Touch.refl (fun q => q = w.heap.size + 1) w1).setCell ⟨w.heap.size + 1, 0, none⟩ (.int .i64 room) (fun _ => rfl)).setCell ⟨w.heap.size + 1, 1, none⟩ (.slice a l.length cap) (fun _ => rfl)
    have HY := hide (((unhide D1).set 0 (.int .i64 room) (by simp)).set 1 (.slice a l.length cap) (by simp))
    have HK := hide ((unhide B1).trans (hT.below (unhide B1).size (fun q hq e => by omega)))
    clear hT B1 X1 D1 N1 hnl
    go_wp2_with fail
    obtain ⟨⟨z0, z1⟩, _⟩ := Blk.c2 (unhide HY)
    refine bodyPost_ret (v := .agg #[.int .i64 room, .slice a l.length cap]) (by simp [results, Tryz.results17, go_sem, z0, z1]) rfl ?_
    exact ⟨a, cap, rfl, unhide HL _ (unhide HK), unhide HK⟩
  · have hq : (((segsP l).length : Int) == 0) = false := beq_eq_false_iff_ne.2 (by omega)
    obtain ⟨A, B, f, hcut, hlast, hpl, hsy⟩ := seg_last hr h0
    have hse := hso.trans hsy
    clear hso
    have hpr := plc_range f.n
    have HNM := hide (fun wx => l04Name_any (plcP f.n) wx hpr.1 hpr.2)
    rw [segN_plc hpl] at HNM
    have hfd : f.d.size ≤ maxLen := hd f (by rw [hcut]; exact List.mem_append_right _ (List.mem_cons_self ..))
    have HST := hide (fun wx (hx : Below w.heap.size w wx) => step_sync room (.slice a l.length cap) A B f.n f.d f.s wx (by have h9 := unhide HL wx hx; rw [hcut] at h9 ⊢; exact h9) (by rw [hcut] at hr; exact hr) (by rw [hcut] at hl; exact hl) hfd)
    have hnum : (numsP l).getD ((segsP l).length - 1) 0 = plcP f.n := by
      unfold numsP
      rw [List.getD_eq_getElem?_getD, List.getElem?_map]
      rw [List.getD_eq_getElem?_getD, List.getElem?_eq_getElem (by omega)] at hlast
      rw [List.getElem?_eq_getElem (by omega)]
      have e : (segsP l)[(segsP l).length - 1] = f := hlast
      rw [e]; rfl
    obtain ⟨g, hg⟩ : ∃ g, na = some ⟨g, 0, none⟩ := by
      rcases own_shape (unhide N1) with ⟨h, _⟩ | ⟨g, c, h, _⟩
      · obtain ⟨_, h2, _⟩ := Value.slice.inj h; omega
      · obtain ⟨h1, _, _⟩ := Value.slice.inj h; exact ⟨g, h1⟩
    subst hg
    have hcl := OwnN.cell (unhide N1) ((segsP l).length - 1) (by rw [hnl]; omega)
    rw [hnum] at hcl
    have hgl : g < w1.heap.size := (World.ownsRow.lt (unhide N1) g rfl).2
    have hsub : ((segsP l).length : Int) - 1 = (((segsP l).length - 1 : Nat) : Int) := by omega
    have hseg8 : (segsP l).length ≤ 8 := by
      have h1 := List.length_filter_le (fun f : Fl => decide (0 < plcP f.n)) l
      unfold segsP
      omega
    have hk0 : (0 : Int) ≤ (((segsP l).length - 1 : Nat) : Int) := by omega
    have hk1 : (((segsP l).length - 1 : Nat) : Int) < ((segsP l).length : Int) := by omega
    have hwrp : IntKind.i64.wrap (((segsP l).length - 1 : Nat) : Int) = (((segsP l).length - 1 : Nat) : Int) := wrapJ _ (by omega) (by omega)
    have hlrl : (A ++ Fl.mk f.n f.d (f.d.size : Int) :: B).length ≤ 8 := by have := hl; rw [hcut] at this; simpa using this
    rw [← hse] at HST hlrl
    clear hcut hlast hsy hnum hpl hpr hfd hse
    generalize (segsP l).length = sn at *
    generalize plcP f.n = pn at *
    generalize f.n = fn at *
    go_upto_region 4 with fail
    have hd1 : Below w1.heap.size w1 w1.drew := below_drewN (Below.refl w1.heap.size w1) 1
    clear x0 x1 d0 d1 g0 g1 N1 hnl hr hq h0
    have BB := hide ((unhide B1).trans (hd1.mono (unhide B1).size))
    have XX := hide ((unhide X1).below hd1)
    have DD := hide ((unhide D1).below hd1)
    have CC := hide ((hd1.cell (p := ⟨g, sn - 1, none⟩) hgl).trans hcl)
    have hgl1 : g < w1.drew.heap.size := Nat.lt_of_lt_of_le hgl hd1.size
    clear hd1 B1 X1 D1 hcl hgl
    have hSS := (Blk.c2 (unhide XX)).1
    refine wp_region_noPanic ?_
    refine wp_region_held_drew (S := (fun wx => wx.cell? ⟨w.heap.size, 0, none⟩ = some (.int .i64 room) ∧ wx.cell? ⟨w.heap.size, 1, none⟩ = some (.slice a l.length cap) ∧ wx.cell? ⟨g, sn - 1, none⟩ = some (.int .i64 pn))) (by kernel_rfl) ?_ (fun hHeld => ?_)
    · exact ⟨hSS.1, hSS.2, unhide CC⟩
    generalize w1.drew = wd at *
    clear hSS
    refine tkH 0 rfl ?_
    refine tkH 1 rfl ?_
    refine tkH 2 rfl ?_
    refine tkH 3 rfl ?_
    refine tkH 4 rfl ?_
    refine tkH 5 rfl ?_
    refine tkH 6 rfl ?_
    refine wpAnyH_ready (rs := [7, 13]) (by kernel_rfl) (by simp) ?_
    refine AllReadyH.cons (o := _) rfl (fun K hK => ?_) (AllReadyH.cons (o := _) rfl (fun K hK => ?_) AllReadyH.nil)
    · go_simp
      refine (unhide HNM _).mono ?_
      rintro e w1c ⟨rfl, hb⟩
      replace BB := hide ((unhide BB).trans (hb.mono (unhide BB).size))
      replace XX := hide ((unhide XX).below hb)
      replace DD := hide ((unhide DD).below hb)
      replace CC := hide ((hb.cell (p := ⟨g, sn - 1, none⟩) hgl1).trans (unhide CC))
      replace hgl1 := Nat.lt_of_lt_of_le hgl1 hb.size
      clear hb
      go_wp2_with fail
      refine hK.out _ _ ?_ (fun hHeld => ?_)
      · exact ⟨(Blk.c2 (unhide XX)).1.1, (Blk.c2 (unhide XX)).1.2, unhide CC⟩
      clear hK K
      (try simp only [Act.put, List.getElem_toArray, List.getElem_cons_succ, List.getElem_cons_zero, List.setIfInBounds_toArray, List.set_cons_zero, List.set_cons_succ])
      refine tkH 8 rfl ?_
      refine wpAnyH_ready (rs := [9, 13]) (by kernel_rfl) (by simp) ?_
      refine AllReadyH.cons (o := _) rfl (fun K hK => ?_) (AllReadyH.cons (o := _) rfl (fun K hK => ?_) AllReadyH.nil)
      · go_simp
        refine (unhide HST _ (unhide BB)).mono ?_
        rintro e w2c ⟨sa, sc, rfl, hO, hb⟩
        have hDs := (unhide DD).1
        have FF := hide (show OwnF (w.heap.size + 2) w2c (.slice sa so.length sc) so from World.ownsRow.mono hO (by omega))
        replace BB := hide ((unhide BB).trans (hb.mono (unhide BB).size))
        replace XX := hide ((unhide XX).below hb)
        replace DD := hide ((unhide DD).below hb)
        replace CC := hide ((hb.cell (p := ⟨g, sn - 1, none⟩) hgl1).trans (unhide CC))
        replace hgl1 := Nat.lt_of_lt_of_le hgl1 hb.size
        clear hb hO
        go_wp2_with fail
        refine hK.out _ _ ?_ (fun hHeld => ?_)
        · exact ⟨(Blk.c2 (unhide XX)).1.1, (Blk.c2 (unhide XX)).1.2, unhide CC⟩
        clear hK K
        (try simp only [Act.put, List.getElem_toArray, List.getElem_cons_succ, List.getElem_cons_zero, List.setIfInBounds_toArray, List.set_cons_zero, List.set_cons_succ])
        refine tkH 10 rfl ?_
        refine tkH 11 rfl ?_
        refine tkH 12 rfl ?_
        refine wpAnyH_ready (rs := [13]) (by kernel_rfl) (by simp) ?_
        refine AllReadyH.cons (o := _) rfl (fun K hK => ?_) AllReadyH.nil
        go_simp
        have hb := (Below.refl w2c.heap.size w2c).alloc (Nat.le_refl _) (.cells #[.int .i64 0, .slice none 0 0] 28)
        have OO := hide (Blk.new w2c #[.int .i64 0, .slice none 0 0] 28 w2c.heap.size rfl)
        have hob : w.heap.size + 1 < w2c.heap.size := (unhide DD).1
        have hgob : g < w2c.heap.size := hgl1
        replace BB := hide ((unhide BB).trans (hb.mono (unhide BB).size))
        replace XX := hide ((unhide XX).below hb)
        replace DD := hide ((unhide DD).below hb)
        replace CC := hide ((hb.cell (p := ⟨g, sn - 1, none⟩) hgl1).trans (unhide CC))
        replace hgl1 := Nat.lt_of_lt_of_le hgl1 hb.size
        have HNE := hide (fun (q : Nat) (hq : (Value.slice sa so.length sc).ownBlock = some q) => (show ¬ q = w2c.heap.size from by have := (World.ownsRow.lt (unhide FF) q hq).2; omega))
        replace FF := hide ((unhide FF).below hb)
        clear hb
        refine hK.out _ _ ?_ (fun hHeld => ?_)
        · exact ⟨(Blk.c2 (unhide XX)).1.1, (Blk.c2 (unhide XX)).1.2, unhide CC⟩
        clear hK K
        (try simp only [Act.put, List.getElem_toArray, List.getElem_cons_succ, List.getElem_cons_zero, List.setIfInBounds_toArray, List.set_cons_zero, List.set_cons_succ])
        generalize w2c.alloc (.cells #[.int .i64 0, .slice none 0 0] 28) = w3c at *
        generalize w2c.heap.size = ob at *
        have hS := ((Touch.refl (fun q => q = ob) w3c).setCell ⟨ob, 0, none⟩ (.int .i64 room) (fun _ => rfl)).setCell ⟨ob, 1, none⟩ (.slice sa so.length sc) (fun _ => rfl)
        have hrw := (unhide BB).size
        have X9 := (unhide XX).kept hS (by omega)
        have D9 := hide ((unhide DD).kept hS (by omega))
        have C9 := (hS.cell (p := ⟨g, sn - 1, none⟩) hgl1 (fun e => by have e2 : g = ob := e; omega)).trans (unhide CC)
        have B9 := hide ((unhide BB).trans (hS.below (unhide BB).size (fun q hq e => by omega)))
        have O9 := hide (((unhide OO).set 0 (.int .i64 room) (by simp)).set 1 (.slice sa so.length sc) (by simp))
        obtain ⟨⟨y0, y1⟩, h0, h1⟩ := Blk.c2 (unhide OO)
        clear BB XX DD OO
        refine wpAnyH_ready (rs := [14]) (by kernel_rfl) (by simp) ?_
        refine AllReadyH.cons (o := _) rfl (fun K hK => ?_) AllReadyH.nil
        go_simp
        refine hK.out _ _ ?_ (fun hHeld => ?_)
        · exact ⟨(Blk.c2 X9).1.1, (Blk.c2 X9).1.2, C9⟩
        clear hK K
        (try simp only [Act.put, List.getElem_toArray, List.getElem_cons_succ, List.getElem_cons_zero, List.setIfInBounds_toArray, List.set_cons_zero, List.set_cons_succ])
        refine tkH 15 rfl ?_
        refine wpAnyH_done (by kernel_rfl) (NoPanic.normal ?_) _
        clear hHeld y0 y1 h0 h1 X9 C9 CC
        have F9 := hide ((unhide FF).kept hS (fun q hq e => by have := unhide HNE q hq; omega))
        generalize (w3c.setCell ⟨ob, 0, none⟩ (.int .i64 room)).setCell ⟨ob, 1, none⟩ (.slice sa so.length sc) = w9 at *
        clear hS FF
        have hT := ((Touch.refl (fun q => q = w.heap.size + 1) w9).setCell ⟨w.heap.size + 1, 0, none⟩ (.int .i64 room) (fun _ => rfl)).setCell ⟨w.heap.size + 1, 1, none⟩ (.slice sa so.length sc) (fun _ => rfl)
        have HY := hide (((unhide D9).set 0 (.int .i64 room) (by simp)).set 1 (.slice sa so.length sc) (by simp))
        have HK := hide ((unhide B9).trans (hT.below (unhide B9).size (fun q hq e => by omega)))
        have FT := hide ((unhide F9).kept hT (fun q hq e => by have := World.ownsRow.lt (unhide F9) q hq; omega))
        obtain ⟨⟨y0, y1⟩, _⟩ := Blk.c2 (unhide O9)
        obtain ⟨⟨d0, d1⟩, g0, g1⟩ := Blk.c2 (unhide D9)
        clear hT F9 B9 D9 O9
        go_wp2_with fail
        obtain ⟨⟨z0, z1⟩, _⟩ := Blk.c2 (unhide HY)
        refine bodyPost_ret (v := .agg #[.int .i64 room, .slice sa so.length sc]) (by simp [results, Tryz.results17, go_sem, z0, z1]) rfl ?_
        exact ⟨sa, sc, rfl, (unhide FT).fls, unhide HK⟩
      · go_simp
        have hb := (Below.refl w1c.heap.size w1c).alloc (Nat.le_refl _) (.cells #[.int .i64 0, .slice none 0 0] 28)
        have OO := hide (Blk.new w1c #[.int .i64 0, .slice none 0 0] 28 w1c.heap.size rfl)
        have hob : w.heap.size + 1 < w1c.heap.size := (unhide DD).1
        have hgob : g < w1c.heap.size := hgl1
        replace BB := hide ((unhide BB).trans (hb.mono (unhide BB).size))
        replace XX := hide ((unhide XX).below hb)
        replace DD := hide ((unhide DD).below hb)
        replace CC := hide ((hb.cell (p := ⟨g, sn - 1, none⟩) hgl1).trans (unhide CC))
        replace hgl1 := Nat.lt_of_lt_of_le hgl1 hb.size
        clear hb
        refine hK.out _ _ ?_ (fun hHeld => ?_)
        · exact ⟨(Blk.c2 (unhide XX)).1.1, (Blk.c2 (unhide XX)).1.2, unhide CC⟩
        clear hK K
        (try simp only [Act.put, List.getElem_toArray, List.getElem_cons_succ, List.getElem_cons_zero, List.setIfInBounds_toArray, List.set_cons_zero, List.set_cons_succ])
        generalize w1c.alloc (.cells #[.int .i64 0, .slice none 0 0] 28) = w4c at *
        generalize w1c.heap.size = ob at *
        refine wpAnyH_ready (rs := [9]) (by kernel_rfl) (by simp) ?_
        refine AllReadyH.cons (o := _) rfl (fun K hK => ?_) AllReadyH.nil
        go_simp
        refine (unhide HST _ (unhide BB)).mono ?_
        rintro e w5c ⟨sa, sc, rfl, hO, hb⟩
        have hDs := (unhide DD).1
        have FF := hide (show OwnF (w.heap.size + 2) w5c (.slice sa so.length sc) so from World.ownsRow.mono hO (by omega))
        have HNE := hide (fun (q : Nat) (hq : (Value.slice sa so.length sc).ownBlock = some q) => (show ¬ q = ob from by have h1 := (World.ownsRow.lt hO q hq).1; have h2 := (unhide OO).1; omega))
        replace BB := hide ((unhide BB).trans (hb.mono (unhide BB).size))
        replace XX := hide ((unhide XX).below hb)
        replace DD := hide ((unhide DD).below hb)
        replace CC := hide ((hb.cell (p := ⟨g, sn - 1, none⟩) hgl1).trans (unhide CC))
        replace hgl1 := Nat.lt_of_lt_of_le hgl1 hb.size
        replace OO := hide ((unhide OO).below hb)
        clear hb hO
        go_wp2_with fail
        refine hK.out _ _ ?_ (fun hHeld => ?_)
        · exact ⟨(Blk.c2 (unhide XX)).1.1, (Blk.c2 (unhide XX)).1.2, unhide CC⟩
        clear hK K
        (try simp only [Act.put, List.getElem_toArray, List.getElem_cons_succ, List.getElem_cons_zero, List.setIfInBounds_toArray, List.set_cons_zero, List.set_cons_succ])
        refine tkH 10 rfl ?_
        refine tkH 11 rfl ?_
        refine tkH 12 rfl ?_
        have hS := ((Touch.refl (fun q => q = ob) w5c).setCell ⟨ob, 0, none⟩ (.int .i64 room) (fun _ => rfl)).setCell ⟨ob, 1, none⟩ (.slice sa so.length sc) (fun _ => rfl)
        have hrw := (unhide BB).size
        have X9 := (unhide XX).kept hS (by omega)
        have D9 := hide ((unhide DD).kept hS (by omega))
        have C9 := (hS.cell (p := ⟨g, sn - 1, none⟩) hgl1 (fun e => by have e2 : g = ob := e; omega)).trans (unhide CC)
        have B9 := hide ((unhide BB).trans (hS.below (unhide BB).size (fun q hq e => by omega)))
        have O9 := hide (((unhide OO).set 0 (.int .i64 room) (by simp)).set 1 (.slice sa so.length sc) (by simp))
        obtain ⟨⟨y0, y1⟩, h0, h1⟩ := Blk.c2 (unhide OO)
        clear BB XX DD OO
        refine wpAnyH_ready (rs := [14]) (by kernel_rfl) (by simp) ?_
        refine AllReadyH.cons (o := _) rfl (fun K hK => ?_) AllReadyH.nil
        go_simp
        refine hK.out _ _ ?_ (fun hHeld => ?_)
        · exact ⟨(Blk.c2 X9).1.1, (Blk.c2 X9).1.2, C9⟩
        clear hK K
        (try simp only [Act.put, List.getElem_toArray, List.getElem_cons_succ, List.getElem_cons_zero, List.setIfInBounds_toArray, List.set_cons_zero, List.set_cons_succ])
        refine tkH 15 rfl ?_
        refine wpAnyH_done (by kernel_rfl) (NoPanic.normal ?_) _
        clear hHeld y0 y1 h0 h1 X9 C9 CC
        have F9 := hide ((unhide FF).kept hS (fun q hq e => by have := unhide HNE q hq; omega))
        generalize (w5c.setCell ⟨ob, 0, none⟩ (.int .i64 room)).setCell ⟨ob, 1, none⟩ (.slice sa so.length sc) = w9 at *
        clear hS FF
        have hT := ((Touch.refl (fun q => q = w.heap.size + 1) w9).setCell ⟨w.heap.size + 1, 0, none⟩ (.int .i64 room) (fun _ => rfl)).setCell ⟨w.heap.size + 1, 1, none⟩ (.slice sa so.length sc) (fun _ => rfl)
        have HY := hide (((unhide D9).set 0 (.int .i64 room) (by simp)).set 1 (.slice sa so.length sc) (by simp))
        have HK := hide ((unhide B9).trans (hT.below (unhide B9).size (fun q hq e => by omega)))
        have FT := hide ((unhide F9).kept hT (fun q hq e => by have := World.ownsRow.lt (unhide F9) q hq; omega))
        obtain ⟨⟨y0, y1⟩, _⟩ := Blk.c2 (unhide O9)
        obtain ⟨⟨d0, d1⟩, g0, g1⟩ := Blk.c2 (unhide D9)
        clear hT F9 B9 D9 O9
        go_wp2_with fail
        obtain ⟨⟨z0, z1⟩, _⟩ := Blk.c2 (unhide HY)
        refine bodyPost_ret (v := .agg #[.int .i64 room, .slice sa so.length sc]) (by simp [results, Tryz.results17, go_sem, z0, z1]) rfl ?_
        exact ⟨sa, sc, rfl, (unhide FT).fls, unhide HK⟩
    · go_simp
      have hb := (Below.refl wd.heap.size wd).alloc (Nat.le_refl _) (.cells #[.int .i64 0, .slice none 0 0] 28)
      have OO := hide (Blk.new wd #[.int .i64 0, .slice none 0 0] 28 wd.heap.size rfl)
      have hob : w.heap.size + 1 < wd.heap.size := (unhide DD).1
      have hgob : g < wd.heap.size := hgl1
      replace BB := hide ((unhide BB).trans (hb.mono (unhide BB).size))
      replace XX := hide ((unhide XX).below hb)
      replace DD := hide ((unhide DD).below hb)
      replace CC := hide ((hb.cell (p := ⟨g, sn - 1, none⟩) hgl1).trans (unhide CC))
      replace hgl1 := Nat.lt_of_lt_of_le hgl1 hb.size
      clear hb
      refine hK.out _ _ ?_ (fun hHeld => ?_)
      · exact ⟨(Blk.c2 (unhide XX)).1.1, (Blk.c2 (unhide XX)).1.2, unhide CC⟩
      clear hK K
      (try simp only [Act.put, List.getElem_toArray, List.getElem_cons_succ, List.getElem_cons_zero, List.setIfInBounds_toArray, List.set_cons_zero, List.set_cons_succ])
      generalize wd.alloc (.cells #[.int .i64 0, .slice none 0 0] 28) = w6c at *
      generalize wd.heap.size = ob at *
      refine wpAnyH_ready (rs := [7]) (by kernel_rfl) (by simp) ?_
      refine AllReadyH.cons (o := _) rfl (fun K hK => ?_) AllReadyH.nil
      go_simp
      refine (unhide HNM _).mono ?_
      rintro e w7c ⟨rfl, hb⟩
      replace BB := hide ((unhide BB).trans (hb.mono (unhide BB).size))
      replace XX := hide ((unhide XX).below hb)
      replace DD := hide ((unhide DD).below hb)
      replace CC := hide ((hb.cell (p := ⟨g, sn - 1, none⟩) hgl1).trans (unhide CC))
      replace hgl1 := Nat.lt_of_lt_of_le hgl1 hb.size
      replace OO := hide ((unhide OO).below hb)
      clear hb
      go_wp2_with fail
      refine hK.out _ _ ?_ (fun hHeld => ?_)
      · exact ⟨(Blk.c2 (unhide XX)).1.1, (Blk.c2 (unhide XX)).1.2, unhide CC⟩
      clear hK K
      (try simp only [Act.put, List.getElem_toArray, List.getElem_cons_succ, List.getElem_cons_zero, List.setIfInBounds_toArray, List.set_cons_zero, List.set_cons_succ])
      refine tkH 8 rfl ?_
      refine wpAnyH_ready (rs := [9]) (by kernel_rfl) (by simp) ?_
      refine AllReadyH.cons (o := _) rfl (fun K hK => ?_) AllReadyH.nil
      go_simp
      refine (unhide HST _ (unhide BB)).mono ?_
      rintro e w8c ⟨sa, sc, rfl, hO, hb⟩
      have hDs := (unhide DD).1
      have FF := hide (show OwnF (w.heap.size + 2) w8c (.slice sa so.length sc) so from World.ownsRow.mono hO (by omega))
      have HNE := hide (fun (q : Nat) (hq : (Value.slice sa so.length sc).ownBlock = some q) => (show ¬ q = ob from by have h1 := (World.ownsRow.lt hO q hq).1; have h2 := (unhide OO).1; omega))
      replace BB := hide ((unhide BB).trans (hb.mono (unhide BB).size))
      replace XX := hide ((unhide XX).below hb)
      replace DD := hide ((unhide DD).below hb)
      replace CC := hide ((hb.cell (p := ⟨g, sn - 1, none⟩) hgl1).trans (unhide CC))
      replace hgl1 := Nat.lt_of_lt_of_le hgl1 hb.size
      replace OO := hide ((unhide OO).below hb)
      clear hb hO
      go_wp2_with fail
      refine hK.out _ _ ?_ (fun hHeld => ?_)
      · exact ⟨(Blk.c2 (unhide XX)).1.1, (Blk.c2 (unhide XX)).1.2, unhide CC⟩
      clear hK K
      (try simp only [Act.put, List.getElem_toArray, List.getElem_cons_succ, List.getElem_cons_zero, List.setIfInBounds_toArray, List.set_cons_zero, List.set_cons_succ])
      refine tkH 10 rfl ?_
      refine tkH 11 rfl ?_
      refine tkH 12 rfl ?_
      have hS := ((Touch.refl (fun q => q = ob) w8c).setCell ⟨ob, 0, none⟩ (.int .i64 room) (fun _ => rfl)).setCell ⟨ob, 1, none⟩ (.slice sa so.length sc) (fun _ => rfl)
      have hrw := (unhide BB).size
      have X9 := (unhide XX).kept hS (by omega)
      have D9 := hide ((unhide DD).kept hS (by omega))
      have C9 := (hS.cell (p := ⟨g, sn - 1, none⟩) hgl1 (fun e => by have e2 : g = ob := e; omega)).trans (unhide CC)
      have B9 := hide ((unhide BB).trans (hS.below (unhide BB).size (fun q hq e => by omega)))
      have O9 := hide (((unhide OO).set 0 (.int .i64 room) (by simp)).set 1 (.slice sa so.length sc) (by simp))
      obtain ⟨⟨y0, y1⟩, h0, h1⟩ := Blk.c2 (unhide OO)
      clear BB XX DD OO
      refine wpAnyH_ready (rs := [14]) (by kernel_rfl) (by simp) ?_
      refine AllReadyH.cons (o := _) rfl (fun K hK => ?_) AllReadyH.nil
      go_simp
      refine hK.out _ _ ?_ (fun hHeld => ?_)
      · exact ⟨(Blk.c2 X9).1.1, (Blk.c2 X9).1.2, C9⟩
      clear hK K
      (try simp only [Act.put, List.getElem_toArray, List.getElem_cons_succ, List.getElem_cons_zero, List.setIfInBounds_toArray, List.set_cons_zero, List.set_cons_succ])
      refine tkH 15 rfl ?_
      refine wpAnyH_done (by kernel_rfl) (NoPanic.normal ?_) _
      clear hHeld y0 y1 h0 h1 X9 C9 CC
      have F9 := hide ((unhide FF).kept hS (fun q hq e => by have := unhide HNE q hq; omega))
      generalize (w8c.setCell ⟨ob, 0, none⟩ (.int .i64 room)).setCell ⟨ob, 1, none⟩ (.slice sa so.length sc) = w9 at *
      clear hS FF
      have hT := ((Touch.refl (fun q => q = w.heap.size + 1) w9).setCell ⟨w.heap.size + 1, 0, none⟩ (.int .i64 room) (fun _ => rfl)).setCell ⟨w.heap.size + 1, 1, none⟩ (.slice sa so.length sc) (fun _ => rfl)
      have HY := hide (((unhide D9).set 0 (.int .i64 room) (by simp)).set 1 (.slice sa so.length sc) (by simp))
      have HK := hide ((unhide B9).trans (hT.below (unhide B9).size (fun q hq e => by omega)))
      have FT := hide ((unhide F9).kept hT (fun q hq e => by have := World.ownsRow.lt (unhide F9) q hq; omega))
      obtain ⟨⟨y0, y1⟩, _⟩ := Blk.c2 (unhide O9)
      obtain ⟨⟨d0, d1⟩, g0, g1⟩ := Blk.c2 (unhide D9)
      clear hT F9 B9 D9 O9
      go_wp2_with fail
      obtain ⟨⟨z0, z1⟩, _⟩ := Blk.c2 (unhide HY)
      refine bodyPost_ret (v := .agg #[.int .i64 room, .slice sa so.length sc]) (by simp [results, Tryz.results17, go_sem, z0, z1]) rfl ?_
      exact ⟨sa, sc, rfl, (unhide FT).fls, unhide HK⟩
/-- What a sync of the log leaves. -/
def wsOut (room : Int) (l : List Fl) : Int × List Fl × Int := if diskB room l = true then (room, syncL l, 0) else (0, [], 1)
def WsE (x : Int × List Fl × Int) (w : World) (e : Ending) (w' : World) : Prop := ∃ a c, e = .returned (.tuple #[.agg #[.int .i64 x.1, .slice a x.2.1.length c], .int .i64 x.2.2]) ∧ OwnF w.heap.size w' (.slice a x.2.1.length c) x.2.1 ∧ Below w.heap.size w w'
theorem wsE_bad {x : Int × List Fl × Int} {w w' : World} {e : Ending} (hx : x = (0, [], 1)) (he : e = .returned (.tuple #[.agg #[.int .i64 0, .slice none 0 0], .int .i64 1])) (hb : Below w.heap.size w w') : WsE x w e w' := by
  subst hx; exact ⟨none, 0, he, World.ownsRow_nil _ _ _ _, hb⟩
theorem disk_len8 {room : Int} {l : List Fl} (h : diskB room l = true) : l.length ≤ 8 := by
  unfold diskB at h
  simp only [Bool.and_eq_true, decide_eq_true_eq] at h
  exact h.1.1.2
theorem syncL_len (l : List Fl) : (syncL l).length = l.length := by
  unfold syncL; split
  · rfl
  · simp
theorem wsOut_len (room : Int) (l : List Fl) : (wsOut room l).2.1.length ≤ l.length := by
  unfold wsOut
  split
  · exact Nat.le_of_eq (syncL_len l)
  · exact Nat.zero_le _
set_option maxRecDepth 100000 in
set_option maxHeartbeats 4000000 in
theorem specWalSync_any (room : Int) (v : Value) (l : List Fl) (w : World) (hL : Fls w v l) (hs : Small l) :
    Calls Tryz.prog 6 #[.agg #[.int .i64 room, v]] w fun e w' => WsE (wsOut room l) w e w' := by
  have HL := hide (fun wx (hx : Below w.heap.size w wx) => hL.below hx)
  obtain ⟨a, cap, rfl, hn, hm, _⟩ := id hL
  have HDK := hide (fun wx (hx : Below w.heap.size w wx) => specDiskOK_any room (.slice a l.length cap) l wx (hL.below hx) hs)
  have B0 := hide (((Below.refl w.heap.size w).alloc (Nat.le_refl _) (.cells #[.int .i64 room, .slice a l.length cap] 28)).alloc (by simp) (.cells #[.int .i64 0, .slice none 0 0] 28))
  have X0 := hide ((Blk.new w #[.int .i64 room, .slice a l.length cap] 28 w.heap.size rfl).alloc (.cells #[.int .i64 0, .slice none 0 0] 28))
  have D0 := hide (Blk.new (w.alloc (.cells #[.int .i64 room, .slice a l.length cap] 28)) #[.int .i64 0, .slice none 0 0] 28 (w.heap.size + 1) (by simp))
  have HW := hide (show wsOut room l = if diskB room l = true then (room, syncL l, 0) else (0, [], 1) from rfl)
  generalize wsOut room l = x at *
  clear hL
  go_enter Tryz.func6, Tryz.ntmps6
  go_upto_region 1 with fail
  generalize (w.alloc (.cells #[.int .i64 room, .slice a l.length cap] 28)).alloc (.cells #[.int .i64 0, .slice none 0 0] 28) = w0 at *
  obtain ⟨⟨x0, x1⟩, _⟩ := Blk.c2 (unhide X0)
  go_wp2_with fail
  refine (unhide HDK _ (unhide B0)).mono ?_
  rintro e w1 ⟨rfl, hb⟩
  have B1 := hide ((unhide B0).trans (hb.mono (unhide B0).size))
  have X1 := hide ((unhide X0).below hb)
  have D1 := hide ((unhide D0).below hb)
  clear HDK hb B0 X0 D0 x0 x1
  obtain ⟨⟨x0, x1⟩, _⟩ := Blk.c2 (unhide X1)
  cases hdk : diskB room l with
  | false =>
    have E := hide ((unhide HW).trans (if_neg (by rw [hdk]; decide)))
    have hT := ((Touch.refl (fun q => q = w.heap.size + 1) w1).setCell ⟨w.heap.size + 1, 0, none⟩ (.int .i64 0) (fun _ => rfl)).setCell ⟨w.heap.size + 1, 1, none⟩ (.slice none 0 0) (fun _ => rfl)
    have HY := hide (((unhide D1).set 0 (.int .i64 0) (by simp)).set 1 (.slice none 0 0) (by simp))
    have HK := hide ((unhide B1).trans (hT.below (unhide B1).size (fun q hq e => by omega)))
    obtain ⟨⟨d0, d1⟩, g0, g1⟩ := Blk.c2 (unhide D1)
    clear hT B1 X1 D1 hdk HW
    go_wp2_with fail
    obtain ⟨⟨z0, z1⟩, _⟩ := Blk.c2 (unhide HY)
    refine bodyPost_ret (v := .tuple #[.agg #[.int .i64 0, .slice none 0 0], .int .i64 1]) (by simp [results, Tryz.results6, go_sem, z0, z1]) rfl ?_
    exact wsE_bad (unhide E) rfl (unhide HK)
  | true =>
    have E := hide ((unhide HW).trans (if_pos hdk))
    have hl8 := disk_len8 hdk
    have HSY := hide (fun wx (hx : Below w.heap.size w wx) => l04Sync_any room (.slice a l.length cap) l wx (unhide HL wx hx) (ris_of_disk hdk) hl8 (fun i hi => (hs.2.2 i).1) (fun f hf => by
      obtain ⟨i, hi, e⟩ := List.getElem_of_mem hf
      have h9 := (hs.2.2 i).2
      rw [List.getD_eq_getElem?_getD, List.getElem?_eq_getElem hi] at h9
      rw [← e]
      unfold maxLen
      have : l[i].d.size ≤ 1048576 := h9
      omega))
    have hsl : (syncL l).length ≤ 1048576 := by rw [syncL_len]; omega
    clear HW hdk hl8
    generalize syncL l = so at *
    go_wp2_with fail
    refine (unhide HSY _ (unhide B1)).mono ?_
    rintro e w2 ⟨sa, sc, rfl, hF, hb⟩
    have HOW := hide (l03Own_any room (.slice sa so.length sc) so w2 hF hsl)
    have B2 := hide ((unhide B1).trans (hb.mono (unhide B1).size))
    have D2 := hide ((unhide D1).below hb)
    clear HSY hF hb B1 X1 D1 x0 x1
    go_wp2_with fail
    refine (unhide HOW).mono ?_
    rintro e w3 ⟨oa, oc, rfl, hO, hb⟩
    have hw2 := (unhide B2).size
    have hD2 := (unhide D2).1
    have B3 := (unhide B2).trans (hb.mono (unhide B2).size)
    have D3 := (unhide D2).below hb
    have hT := ((Touch.refl (fun q => q = w.heap.size + 1) w3).setCell ⟨w.heap.size + 1, 0, none⟩ (.int .i64 room) (fun _ => rfl)).setCell ⟨w.heap.size + 1, 1, none⟩ (.slice oa so.length oc) (fun _ => rfl)
    have HY := hide ((D3.set 0 (.int .i64 room) (by simp)).set 1 (.slice oa so.length oc) (by simp))
    have HK := hide (B3.trans (hT.below B3.size (fun q hq e => by omega)))
    have HO := hide (hO.kept hT (fun q hq e => by have := (World.ownsRow.lt hO q hq).1; omega))
    obtain ⟨⟨d0, d1⟩, g0, g1⟩ := Blk.c2 D3
    clear HOW hO hb B2 D2 B3 D3 hT
    go_wp2_with fail
    obtain ⟨⟨z0, z1⟩, _⟩ := Blk.c2 (unhide HY)
    refine bodyPost_ret (v := .tuple #[.agg #[.int .i64 room, .slice oa so.length oc], .int .i64 0]) (by simp [results, Tryz.results6, go_sem, z0, z1]) rfl ?_
    rw [unhide E]
    exact ⟨oa, oc, rfl, World.ownsRow.mono (unhide HO) hw2, unhide HK⟩
end Go.Proofs.YtfihhkhdigbmiaaGreatDoor
namespace Go.Proofs.YtfihhkhdigbmiaaGreatDoor
open Go.ChangeShapes Go.WideShapes Go.ChangeAt Go.RowKit Go.Maps Go.Sort
set_option linter.unusedVariables false
set_option linter.unusedSimpArgs false

theorem okL_of {room : Int} {l : List Fl} (h : diskB room l = true) (hs : Small l) : OkL l :=
  ⟨ris_of_disk h, disk_len8 h, fun f hf => by
    obtain ⟨i, hi, e⟩ := List.getElem_of_mem hf
    have h9 := hs.2.2 i
    rw [List.getD_eq_getElem?_getD, List.getElem?_eq_getElem hi] at h9
    have h1 : l[i].n.size ≤ 1048576 := h9.1
    have h2 : l[i].d.size ≤ 1048576 := h9.2
    rw [← e]
    unfold maxLen
    omega⟩
theorem Blk.c5z {w : World} {b : Nat} {a0 a1 a2 a3 a4 : Value} (h : Blk w b [a0, a1, a2, a3, a4]) : (w.cell? ⟨b, 0, none⟩ = some a0 ∧ w.cell? ⟨b, 1, none⟩ = some a1 ∧ w.cell? ⟨b, 2, none⟩ = some a2 ∧ w.cell? ⟨b, 3, none⟩ = some a3 ∧ w.cell? ⟨b, 4, none⟩ = some a4) ∧ (w.frozen? ⟨b, 0, none⟩ = false ∧ w.frozen? ⟨b, 1, none⟩ = false ∧ w.frozen? ⟨b, 2, none⟩ = false ∧ w.frozen? ⟨b, 3, none⟩ = false ∧ w.frozen? ⟨b, 4, none⟩ = false) :=
  ⟨⟨h.cell 0 rfl, h.cell 1 rfl, h.cell 2 rfl, h.cell 3 rfl, h.cell 4 rfl⟩, h.fro 0, h.fro 1, h.fro 2, h.fro 3, h.fro 4⟩
set_option maxRecDepth 100000 in
set_option maxHeartbeats 4000000 in
theorem last_any (B : Nat) (gv : Value) (xs : List (Fl × Value)) (w : World) (hG : OwnG B w gv xs) (h0 : 0 < xs.length) (h8 : xs.length ≤ 1048576) :
    Calls Tryz.prog 22 #[.agg #[.int .i64 0, .slice none 0 0, .slice none 0 0, .int .i64 0, gv]] w fun e w' => (∃ (u1 : Int) (da : Option Addr) (dn dc : Nat) (u3 u4 : Int), e = .returned (.agg #[.string (xs.getD (xs.length - 1) default).1.n, .int .i64 u1, .slice da dn dc, .int .i64 u3, .int .i64 u4])) ∧ Below w.heap.size w w' := by
  obtain ⟨a, cap, rfl, hn, hm, hc⟩ := hG.form
  obtain ⟨g, rfl, _, hgl, hcell⟩ := hc (xs.length - 1) (by omega)
  have B0 := hide (((Below.refl w.heap.size w).alloc (Nat.le_refl _) (.cells #[.int .i64 0, .slice none 0 0, .slice none 0 0, .int .i64 0, .slice (some ⟨g, 0, none⟩) xs.length cap] 47)).alloc (by simp) (.cells #[.string ⟨#[]⟩, .int .i64 0, .slice none 0 0, .int .i64 0, .int .i64 0] 50))
  have X0 := hide ((Blk.new w #[.int .i64 0, .slice none 0 0, .slice none 0 0, .int .i64 0, .slice (some ⟨g, 0, none⟩) xs.length cap] 47 w.heap.size rfl).alloc (.cells #[.string ⟨#[]⟩, .int .i64 0, .slice none 0 0, .int .i64 0, .int .i64 0] 50))
  have D0 := hide (Blk.new (w.alloc (.cells #[.int .i64 0, .slice none 0 0, .slice none 0 0, .int .i64 0, .slice (some ⟨g, 0, none⟩) xs.length cap] 47)) #[.string ⟨#[]⟩, .int .i64 0, .slice none 0 0, .int .i64 0, .int .i64 0] 50 (w.heap.size + 1) (by simp))
  obtain ⟨x, hx⟩ : ∃ x, x = xs.getD (xs.length - 1) default := ⟨_, rfl⟩
  rw [← hx] at hcell ⊢
  have s0 := hcell 0 _ rfl
  have s1 := hcell 1 _ rfl
  have s2 := hcell 2 _ rfl
  have s3 := hcell 3 _ rfl
  have s4 := hcell 4 _ rfl
  obtain ⟨da, dn, dc, hfv⟩ : ∃ da dn dc, x.2 = .slice da dn dc := by
    have hxm : x ∈ xs := by
      rw [hx, List.getD_eq_getElem?_getD, List.getElem?_eq_getElem (by omega)]
      exact List.getElem_mem _
    rcases own_shape (hG.2 x hxm) with ⟨h, _⟩ | ⟨g, c, h, _⟩
    · exact ⟨_, _, _, h⟩
    · exact ⟨_, _, _, h⟩
  clear hcell hc hx hG
  generalize xs.length = n at *
  have hwrp : IntKind.i64.wrap ((n - 1 : Nat) : Int) = ((n - 1 : Nat) : Int) := wrapJ _ (by omega) (by omega)
  have hsub : (n : Int) - 1 = ((n - 1 : Nat) : Int) := by omega
  have hgt : decide ((n : Int) > 0) = true := decide_eq_true (by omega)
  have hn0 : (0 : Int) < (n : Int) := by omega
  have hk0 : (0 : Int) ≤ ((n - 1 : Nat) : Int) := by omega
  have hk1 : ((n - 1 : Nat) : Int) < (n : Int) := by omega
  obtain ⟨⟨fn, fd, fs⟩, fv⟩ := x
  generalize (fd.size : Int) = u1 at *
  generalize ((frF ⟨fn, fd, fs⟩).2.1 : Int) = u3 at *
  generalize (frF ⟨fn, fd, fs⟩).2.2 = u4 at *
  dsimp only at s0 s1 s2 s3 s4 hfv
  subst hfv
  have c0 := ((unhide B0).cell (p := ⟨g, (n - 1) * 5 + 0, none⟩) hgl).trans s0
  have c1 := ((unhide B0).cell (p := ⟨g, (n - 1) * 5 + 1, none⟩) hgl).trans s1
  have c2 := ((unhide B0).cell (p := ⟨g, (n - 1) * 5 + 2, none⟩) hgl).trans s2
  have c3 := ((unhide B0).cell (p := ⟨g, (n - 1) * 5 + 3, none⟩) hgl).trans s3
  have c4 := ((unhide B0).cell (p := ⟨g, (n - 1) * 5 + 4, none⟩) hgl).trans s4
  rw [Nat.add_zero] at c0
  clear s0 s1 s2 s3 s4
  go_enter Tryz.func22, Tryz.ntmps22
  go_upto_region 1 with fail
  generalize (w.alloc (.cells #[.int .i64 0, .slice none 0 0, .slice none 0 0, .int .i64 0, .slice (some ⟨g, 0, none⟩) n cap] 47)).alloc (.cells #[.string ⟨#[]⟩, .int .i64 0, .slice none 0 0, .int .i64 0, .int .i64 0] 50) = w0 at *
  obtain ⟨⟨x0, x1, x2, x3, x4⟩, _⟩ := Blk.c5z (unhide X0)
  obtain ⟨⟨d0, d1, d2, d3, d4⟩, g0, g1, g2, g3, g4⟩ := Blk.c5z (unhide D0)
  have hT := (((((Touch.refl (fun q => q = w.heap.size + 1) w0).setCell ⟨w.heap.size + 1, 0, none⟩ (.string fn) (fun _ => rfl)).setCell ⟨w.heap.size + 1, 1, none⟩ (.int .i64 u1) (fun _ => rfl)).setCell ⟨w.heap.size + 1, 2, none⟩ (.slice da dn dc) (fun _ => rfl)).setCell ⟨w.heap.size + 1, 3, none⟩ (.int .i64 u3) (fun _ => rfl)).setCell ⟨w.heap.size + 1, 4, none⟩ (.int .i64 u4) (fun _ => rfl)
  have HY := hide ((((((unhide D0).set 0 (.string fn) (by simp)).set 1 (.int .i64 u1) (by simp)).set 2 (.slice da dn dc) (by simp)).set 3 (.int .i64 u3) (by simp)).set 4 (.int .i64 u4) (by simp))
  have HK := hide ((unhide B0).trans (hT.below (unhide B0).size (fun q hq e => by omega)))
  clear hT B0 X0 D0
  go_wp2_with fail
  obtain ⟨⟨z0, z1, z2, z3, z4⟩, _⟩ := Blk.c5z (unhide HY)
  refine bodyPost_ret (v := .agg #[.string fn, .int .i64 u1, .slice da dn dc, .int .i64 u3, .int .i64 u4]) (by simp [results, Tryz.results22, go_sem, z0, z1, z2, z3, z4]) rfl ?_
  exact ⟨⟨_, _, _, _, _, _, rfl⟩, unhide HK⟩
set_option maxRecDepth 100000 in
set_option maxHeartbeats 8000000 in
theorem implWalSync_any (room : Int) (v : Value) (l : List Fl) (w : World) (hL : Fls w v l) (hs : Small l) :
    Calls Tryz.prog 8 #[.agg #[.int .i64 room, v]] w fun e w' => WsE (wsOut room l) w e w' := by
  have HL := hide (fun wx (hx : Below w.heap.size w wx) => hL.below hx)
  obtain ⟨a, cap, rfl, hn, hm, _⟩ := id hL
  have HDK := hide (fun wx (hx : Below w.heap.size w wx) => implDiskOK_any room (.slice a l.length cap) l wx (hL.below hx) hs)
  have B0 := hide (((Below.refl w.heap.size w).alloc (Nat.le_refl _) (.cells #[.int .i64 room, .slice a l.length cap] 28)).alloc (by simp) (.cells #[.int .i64 0, .slice none 0 0] 28))
  have X0 := hide ((Blk.new w #[.int .i64 room, .slice a l.length cap] 28 w.heap.size rfl).alloc (.cells #[.int .i64 0, .slice none 0 0] 28))
  have D0 := hide (Blk.new (w.alloc (.cells #[.int .i64 room, .slice a l.length cap] 28)) #[.int .i64 0, .slice none 0 0] 28 (w.heap.size + 1) (by simp))
  have HW := hide (show wsOut room l = if diskB room l = true then (room, syncL l, 0) else (0, [], 1) from rfl)
  generalize wsOut room l = x at *
  clear hL
  go_enter Tryz.func8, Tryz.ntmps8
  go_upto_region 1 with fail
  generalize (w.alloc (.cells #[.int .i64 room, .slice a l.length cap] 28)).alloc (.cells #[.int .i64 0, .slice none 0 0] 28) = w0 at *
  obtain ⟨⟨x0, x1⟩, _⟩ := Blk.c2 (unhide X0)
  go_wp2_with fail
  refine (unhide HDK _ (unhide B0)).mono ?_
  rintro e w1 ⟨rfl, hb⟩
  have B1 := hide ((unhide B0).trans (hb.mono (unhide B0).size))
  have X1 := hide ((unhide X0).below hb)
  have D1 := hide ((unhide D0).below hb)
  clear HDK hb B0 X0 D0 x0 x1
  obtain ⟨⟨x0, x1⟩, _⟩ := Blk.c2 (unhide X1)
  cases hdk : diskB room l with
  | false =>
    have E := hide ((unhide HW).trans (if_neg (by rw [hdk]; decide)))
    have hT := ((Touch.refl (fun q => q = w.heap.size + 1) w1).setCell ⟨w.heap.size + 1, 0, none⟩ (.int .i64 0) (fun _ => rfl)).setCell ⟨w.heap.size + 1, 1, none⟩ (.slice none 0 0) (fun _ => rfl)
    have HY := hide (((unhide D1).set 0 (.int .i64 0) (by simp)).set 1 (.slice none 0 0) (by simp))
    have HK := hide ((unhide B1).trans (hT.below (unhide B1).size (fun q hq e => by omega)))
    obtain ⟨⟨d0, d1⟩, g0, g1⟩ := Blk.c2 (unhide D1)
    clear hT B1 X1 D1 hdk HW
    go_wp2_with fail
    obtain ⟨⟨z0, z1⟩, _⟩ := Blk.c2 (unhide HY)
    refine bodyPost_ret (v := .tuple #[.agg #[.int .i64 0, .slice none 0 0], .int .i64 1]) (by simp [results, Tryz.results8, go_sem, z0, z1]) rfl ?_
    exact wsE_bad (unhide E) rfl (unhide HK)
  | true =>
    have E := hide ((unhide HW).trans (if_pos hdk))
    have hok := okL_of hdk hs
    have HSO := hide (fun wx (hx : Below w.heap.size w wx) => segmentsOf_any (.slice a l.length cap) l wx (unhide HL wx hx) hok.len (fun i hi => ⟨(hs.2.2 i).1, file_small hdk i hi⟩))
    have HRA := hide (fun wx av acts (hx : Below w.heap.size w wx) hac hst => runActs_any room l (syncL l) (.slice a l.length cap) av acts wx (unhide HL wx hx) hok hac hst)
    have hrs := hok.ris
    have hl8 := hok.len
    clear HW hdk hok hs
    go_upto_region 3 with fail
    go_wp2_with fail
    refine (unhide HSO _ (unhide B1)).mono ?_
    rintro e w2 ⟨gv, xs, rfl, hxs, hG, hb⟩
    obtain ⟨ga, gc, rfl, hgn, hgm, _⟩ := hG.form
    have hxl : xs.length = (segsP l).length := by rw [← hxs]; simp
    have HXL := hide hxl
    have hx8 : xs.length ≤ 8 := by
      have h1 := List.length_filter_le (fun f : Fl => decide (0 < plcP f.n)) l
      unfold segsP at hxl
      omega
    clear hxl
    have B2 := hide ((unhide B1).trans (hb.mono (unhide B1).size))
    have X2 := hide ((unhide X1).below hb)
    have D2 := hide ((unhide D1).below hb)
    have hAA := (Below.refl w2.heap.size w2).alloc (Nat.le_refl _) (.cells #[.int .i64 0, .slice none 0 0, .slice none 0 0, .int .i64 0, .slice ga xs.length gc] 47)
    have B3 := hide ((unhide B2).trans (hAA.mono (unhide B2).size))
    have X3 := hide ((unhide X2).below hAA)
    have D3 := hide ((unhide D2).below hAA)
    have G3 := hide (hG.below hAA)
    have L3 := hide (Blk.new w2 #[.int .i64 0, .slice none 0 0, .slice none 0 0, .int .i64 0, .slice ga xs.length gc] 47 w2.heap.size rfl)
    have hDw2 := (unhide D2).1
    clear HSO hb hAA B1 X1 D1 B2 X2 D2 x0 x1 hG
    go_upto_region 4 with fail
    generalize w2.alloc (.cells #[.int .i64 0, .slice none 0 0, .slice none 0 0, .int .i64 0, .slice ga xs.length gc] 47) = w3 at *
    generalize w2.heap.size = lb at *
    obtain ⟨⟨x0, x1⟩, _⟩ := Blk.c2 (unhide X3)
    obtain ⟨⟨y0, y1, y2, y3, y4⟩, _⟩ := Blk.c5z (unhide L3)
    by_cases h0 : xs.length = 0
    · have hq : ((xs.length : Int) == 0) = true := beq_iff_eq.2 (by omega)
      have hsy : syncL l = l := if_pos (by have := unhide HXL; omega)
      have HR := hide (unhide HRA w3 (.slice none 0 0) [] (unhide B3) ⟨none, 0, rfl, by unfold maxLen; decide, .inl rfl⟩ (by rw [hsy]; exact Steps.nil l))
      have hsl : (syncL l).length ≤ 8 := by rw [syncL_len]; exact hl8
      clear HRA hsy G3 hxs hrs
      generalize syncL l = so at *
      go_wp2_with fail
      refine (unhide HR).mono ?_
      rintro e w4 ⟨ra, rc, rfl, hO, hb⟩
      have hw3 := (unhide B3).size
      have hD3 := (unhide D3).1
      have B4 := (unhide B3).trans (hb.mono (unhide B3).size)
      have D4 := (unhide D3).below hb
      have hT := ((Touch.refl (fun q => q = w.heap.size + 1) w4).setCell ⟨w.heap.size + 1, 0, none⟩ (.int .i64 room) (fun _ => rfl)).setCell ⟨w.heap.size + 1, 1, none⟩ (.slice ra so.length rc) (fun _ => rfl)
      have HY := hide ((D4.set 0 (.int .i64 room) (by simp)).set 1 (.slice ra so.length rc) (by simp))
      have HK := hide (B4.trans (hT.below B4.size (fun q hq e => by omega)))
      have HO := hide (hO.kept hT (fun q hq e => by have := (World.ownsRow.lt hO q hq).1; omega))
      obtain ⟨⟨d0, d1⟩, g0, g1⟩ := Blk.c2 D4
      clear HR hO hb B3 D3 X3 L3 B4 D4 hT x0 x1 y0 y1 y2 y3 y4
      go_wp2_with fail
      obtain ⟨⟨z0, z1⟩, _⟩ := Blk.c2 (unhide HY)
      refine bodyPost_ret (v := .tuple #[.agg #[.int .i64 room, .slice ra so.length rc], .int .i64 0]) (by simp [results, Tryz.results8, go_sem, z0, z1]) rfl ?_
      rw [unhide E]
      exact ⟨ra, rc, rfl, World.ownsRow.mono (unhide HO) hw3, unhide HK⟩
    · have hq : ((xs.length : Int) == 0) = false := beq_eq_false_iff_ne.2 (by omega)
      obtain ⟨A, B, f, hcut, hlast, hpl, hsy⟩ := seg_last hrs (by have := unhide HXL; omega)
      have hfl : (xs.getD (xs.length - 1) default).1 = f := by
        rw [← hxs] at hlast
        rw [List.length_map, List.getD_eq_getElem?_getD, List.getElem?_map] at hlast
        rw [List.getD_eq_getElem?_getD]
        rw [List.getElem?_eq_getElem (show xs.length - 1 < xs.length by omega)] at hlast ⊢
        exact hlast
      have HLA := hide (fun wx (hx : Below w3.heap.size w3 wx) => last_any _ (.slice ga xs.length gc) xs wx ((unhide G3).below hx) (by omega) (by omega))
      rw [hfl] at HLA
      have HR := hide (fun wx av (hx : Below w.heap.size w wx) hac => unhide HRA wx av [(2, f.n)] hx hac (by rw [hsy, hcut]; exact Steps.sync A B f.n f.d f.s [] _ (Steps.nil _)))
      clear HRA hsy hxs hrs hfl hlast hpl hcut G3
      generalize f.n = fn at *
      generalize syncL l = so at *
      go_upto_region 6 with fail
      have hd1 : Below w3.heap.size w3 w3.drew := below_drewN (Below.refl w3.heap.size w3) 1
      have BQ := hide hd1
      have BB := hide ((unhide B3).trans (hd1.mono (unhide B3).size))
      have XX := hide ((unhide X3).below hd1)
      have DD := hide ((unhide D3).below hd1)
      have LL := hide ((unhide L3).below hd1)
      clear hd1 B3 X3 D3 L3 x0 x1 y0 y1 y2 y3 y4
      obtain ⟨⟨x0, x1⟩, _⟩ := Blk.c2 (unhide XX)
      obtain ⟨⟨y0, y1, y2, y3, y4⟩, _⟩ := Blk.c5z (unhide LL)
      refine wp_region_noPanic ?_
      refine wp_region_held_drew (S := (fun wx => wx.cell? ⟨w.heap.size, 0, none⟩ = some (.int .i64 room) ∧ wx.cell? ⟨w.heap.size, 1, none⟩ = some (.slice a l.length cap) ∧ wx.cell? ⟨lb, 0, none⟩ = some (.int .i64 0) ∧ wx.cell? ⟨lb, 1, none⟩ = some (.slice none 0 0) ∧ wx.cell? ⟨lb, 2, none⟩ = some (.slice none 0 0) ∧ wx.cell? ⟨lb, 3, none⟩ = some (.int .i64 0) ∧ wx.cell? ⟨lb, 4, none⟩ = some (.slice ga xs.length gc))) (by kernel_rfl) ?_ (fun hHeld => ?_)
      · exact ⟨x0, x1, y0, y1, y2, y3, y4⟩
      generalize w3.drew = wd at *
      clear x0 x1 y0 y1 y2 y3 y4
      refine tkH 0 rfl ?_
      refine tkH 1 rfl ?_
      refine wpAnyH_ready (rs := [2]) (by kernel_rfl) (by simp) ?_
      refine AllReadyH.cons (o := _) rfl (fun K hK => ?_) AllReadyH.nil
      go_simp
      refine (unhide HLA _ (unhide BQ)).mono ?_
      rintro e w5 ⟨⟨v1, va, vn, vc, v3, v4, rfl⟩, hb⟩
      replace BB := hide ((unhide BB).trans (hb.mono (unhide BB).size))
      replace XX := hide ((unhide XX).below hb)
      replace DD := hide ((unhide DD).below hb)
      replace LL := hide ((unhide LL).below hb)
      clear hb HLA BQ
      go_wp2_with fail
      refine hK.out _ _ ?_ (fun hHeld => ?_)
      · exact ⟨(Blk.c2 (unhide XX)).1.1, (Blk.c2 (unhide XX)).1.2, (Blk.c5z (unhide LL)).1.1, (Blk.c5z (unhide LL)).1.2.1, (Blk.c5z (unhide LL)).1.2.2.1, (Blk.c5z (unhide LL)).1.2.2.2.1, (Blk.c5z (unhide LL)).1.2.2.2.2⟩
      clear hK K
      (try simp only [Act.put, List.getElem_toArray, List.getElem_cons_succ, List.getElem_cons_zero, List.setIfInBounds_toArray, List.set_cons_zero, List.set_cons_succ])
      have hfld : ∀ wx, (Instr.field 50 (.agg #[.string fn, .int .i64 v1, .slice va vn vc, .int .i64 v3, .int .i64 v4]) 0).run Tryz.prog wx = .ok (.string fn) wx := fun wx => by first | rfl | kernel_rfl | simp [Instr.field, go_sem]
      refine tkH 3 rfl ?_
      refine tkH 4 rfl ?_
      refine wpAnyH_ready (rs := [5]) (by kernel_rfl) (by simp) ?_
      refine AllReadyH.cons (o := _) rfl (fun K hK => ?_) AllReadyH.nil
      go_simp
      have hb := (Below.refl w5.heap.size w5).alloc (Nat.le_refl _) (.cells #[.int .i64 2, .int .i64 0, .string fn, .string ⟨#[]⟩, .string ⟨#[]⟩, .slice none 0 0] 54)
      have hAC := Blk.new w5 #[.int .i64 2, .int .i64 0, .string fn, .string ⟨#[]⟩, .string ⟨#[]⟩, .slice none 0 0] 54 w5.heap.size rfl
      have hAcs : Acts (w5.alloc (.cells #[.int .i64 2, .int .i64 0, .string fn, .string ⟨#[]⟩, .string ⟨#[]⟩, .slice none 0 0] 54)) (.slice (some ⟨w5.heap.size, 0, none⟩) 1 1) [(2, fn)] := ⟨_, _, rfl, (by unfold maxLen; simp), .inr ⟨_, _, rfl, hAC.1, fun i hi => by
        obtain rfl : i = 0 := by simp at hi; omega
        exact Blk.c6 hAC⟩⟩
      replace BB := hide ((unhide BB).trans (hb.mono (unhide BB).size))
      replace XX := hide ((unhide XX).below hb)
      replace DD := hide ((unhide DD).below hb)
      replace LL := hide ((unhide LL).below hb)
      have ACS := hide hAcs
      clear hb hAC hAcs
      refine hK.out _ _ ?_ (fun hHeld => ?_)
      · exact ⟨(Blk.c2 (unhide XX)).1.1, (Blk.c2 (unhide XX)).1.2, (Blk.c5z (unhide LL)).1.1, (Blk.c5z (unhide LL)).1.2.1, (Blk.c5z (unhide LL)).1.2.2.1, (Blk.c5z (unhide LL)).1.2.2.2.1, (Blk.c5z (unhide LL)).1.2.2.2.2⟩
      clear hK K
      (try simp only [Act.put, List.getElem_toArray, List.getElem_cons_succ, List.getElem_cons_zero, List.setIfInBounds_toArray, List.set_cons_zero, List.set_cons_succ])
      generalize w5.alloc (.cells #[.int .i64 2, .int .i64 0, .string fn, .string ⟨#[]⟩, .string ⟨#[]⟩, .slice none 0 0] 54) = w6 at *
      generalize w5.heap.size = ab at *
      refine wpAnyH_ready (rs := [6]) (by kernel_rfl) (by simp) ?_
      refine AllReadyH.cons (o := _) rfl (fun K hK => ?_) AllReadyH.nil
      go_simp
      refine (unhide HR _ _ (unhide BB) (unhide ACS)).mono ?_
      rintro e w7 ⟨ra, rc, rfl, hO, hb⟩
      have hw6 := (unhide BB).size
      have hD6 := (unhide DD).1
      replace BB := hide ((unhide BB).trans (hb.mono (unhide BB).size))
      replace XX := hide ((unhide XX).below hb)
      replace DD := hide ((unhide DD).below hb)
      replace LL := hide ((unhide LL).below hb)
      have RO := hide hO
      clear hb hO HR ACS
      go_wp2_with fail
      refine hK.out _ _ ?_ (fun hHeld => ?_)
      · exact ⟨(Blk.c2 (unhide XX)).1.1, (Blk.c2 (unhide XX)).1.2, (Blk.c5z (unhide LL)).1.1, (Blk.c5z (unhide LL)).1.2.1, (Blk.c5z (unhide LL)).1.2.2.1, (Blk.c5z (unhide LL)).1.2.2.2.1, (Blk.c5z (unhide LL)).1.2.2.2.2⟩
      clear hK K
      (try simp only [Act.put, List.getElem_toArray, List.getElem_cons_succ, List.getElem_cons_zero, List.setIfInBounds_toArray, List.set_cons_zero, List.set_cons_succ])
      refine tkH 7 rfl ?_
      refine tkH 8 rfl ?_
      have hT := ((Touch.refl (fun q => q = w.heap.size + 1) w7).setCell ⟨w.heap.size + 1, 0, none⟩ (.int .i64 room) (fun _ => rfl)).setCell ⟨w.heap.size + 1, 1, none⟩ (.slice ra so.length rc) (fun _ => rfl)
      have HY := hide (((unhide DD).set 0 (.int .i64 room) (by simp)).set 1 (.slice ra so.length rc) (by simp))
      have HK := hide ((unhide BB).trans (hT.below (unhide BB).size (fun q hq e => by omega)))
      have HO := hide ((unhide RO).kept hT (fun q hq e => by have := (World.ownsRow.lt (unhide RO) q hq).1; omega))
      have XK := (unhide XX).kept hT (by omega)
      have LK := (unhide LL).kept hT (by omega)
      obtain ⟨⟨d0, d1⟩, g0, g1⟩ := Blk.c2 (unhide DD)
      clear BB XX DD LL RO hT
      refine wpAnyH_ready (rs := [9]) (by kernel_rfl) (by simp) ?_
      refine AllReadyH.cons (o := _) rfl (fun K hK => ?_) AllReadyH.nil
      go_simp
      refine hK.out _ _ ?_ (fun hHeld => ?_)
      · exact ⟨(Blk.c2 XK).1.1, (Blk.c2 XK).1.2, (Blk.c5z LK).1.1, (Blk.c5z LK).1.2.1, (Blk.c5z LK).1.2.2.1, (Blk.c5z LK).1.2.2.2.1, (Blk.c5z LK).1.2.2.2.2⟩
      clear hK K
      (try simp only [Act.put, List.getElem_toArray, List.getElem_cons_succ, List.getElem_cons_zero, List.setIfInBounds_toArray, List.set_cons_zero, List.set_cons_succ])
      refine tkH 10 rfl ?_
      refine wpAnyH_done (by kernel_rfl) (NoPanic.normal ?_) _
      clear d0 d1 g0 g1 hHeld XK LK
      go_wp2_with fail
      obtain ⟨⟨z0, z1⟩, _⟩ := Blk.c2 (unhide HY)
      refine bodyPost_ret (v := .tuple #[.agg #[.int .i64 room, .slice ra so.length rc], .int .i64 0]) (by simp [results, Tryz.results8, go_sem, z0, z1]) rfl ?_
      rw [unhide E]
      exact ⟨ra, rc, rfl, World.ownsRow.mono (unhide HO) hw6, unhide HK⟩
end Go.Proofs.YtfihhkhdigbmiaaGreatDoor
