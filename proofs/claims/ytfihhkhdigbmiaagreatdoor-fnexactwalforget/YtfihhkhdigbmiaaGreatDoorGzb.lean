/- spec.l04Read, walked. Both WalRead, walked. Segments forgotten, as the specification does it: what is told of a round, what is carried on. Segments forgotten, as the specification does it: spec.l04Forget. (Written by py/wfd.py.) spec.WalForget, walked. A small law on lists. A disk that came in, opened. Slices of texts, and the laws' marks: markText. A disk's marks laid: laws.markFileS, laws.markDisk. A disk's marks, known; and held. (Written by py/mkf.py out of MkD.) The wrap of a law whose row lists variables with what they hold, the world's shape kept. -/
import Derived.Test.YtfihhkhdigbmiaaGreatDoorGza
import Derived.Deep.DeepCutAuto
import Derived.Test.YtfihhkhdigbmiaaGreatDoorQb
import Derived.Test.YtfihhkhdigbmiaaGreatDoorMpG
import Derived.Test.YtfihhkhdigbmiaaGreatDoorBase
import Derived.Test.YtfihhkhdigbmiaaGreatDoorFilL
import Derived.Deep.Fields
import Derived.Deep.Slices
import Derived.Test.YtfihhkhdigbmiaaGreatDoorStrO
import Derived.Deep.RegionHeld3
import Derived.HandedShaped
import Derived.Stop.LaidErr
import Derived.MakeChecks
import Derived.Stop.Joined
import Derived.Test.YtfihhkhdigbmiaaGreatDoorRows
namespace Go.Proofs.YtfihhkhdigbmiaaGreatDoor
open Go.ChangeShapes Go.WideShapes Go.ChangeAt Go.RowKit
set_option linter.unusedVariables false
set_option linter.unusedSimpArgs false

theorem Blk.belowB {B b : Nat} {w w' : World} {vs : List Value} (h : Blk w b vs) (hb : Below B w w') (hlt : b < B) : Blk w' b vs :=
  h.kept (T := fun k => B ≤ k) ⟨hb.os, hb.tape, hb.output, hb.size, fun k _ hn => hb.block k (by omega)⟩ (by omega)
theorem touch_after {T : Nat → Prop} {wz w6 w7 : World} (hb : Below wz.drew.heap.size wz.drew w6) (h : Touch T w6 w7) : Touch T wz w7 :=
  ((Touch.refl T wz).drew).trans (T' := T) ((Touch.ofBelow (T := T) hb).trans h (fun _ _ e => e)) (fun _ _ e => e)
theorem add_off (b o j : Nat) : (⟨b, o, none⟩ : Addr).add j = ⟨b, o + j, none⟩ := by unfold Addr.add; split <;> simp_all
/-- The log copied into the answer's cells. -/
theorem sp_ret {w w1 wz : World} {lb : Nat} {lv : Value} {nums : List Int} {L : Lg} {rv nv : Value} (h : SpR (w.heap.size + 2) lb w1 lv nums L rv nv wz) (hr : Blk wz (w.heap.size + 1) [.int .i64 0, .slice none 0 0, .slice none 0 0, .int .i64 0]) (hb : Below w.heap.size w w1) (hle : w.heap.size ≤ w1.heap.size) :
    Blk ((((wz.setCell ⟨w.heap.size + 1, 0, none⟩ (.int .i64 L.first)).setCell ⟨w.heap.size + 1, 1, none⟩ rv).setCell ⟨w.heap.size + 1, 2, none⟩ nv).setCell ⟨w.heap.size + 1, 3, none⟩ (.int .i64 L.torn)) (w.heap.size + 1) [.int .i64 L.first, rv, nv, .int .i64 L.torn] ∧
    (OwnS (w.heap.size + 2) ((((wz.setCell ⟨w.heap.size + 1, 0, none⟩ (.int .i64 L.first)).setCell ⟨w.heap.size + 1, 1, none⟩ rv).setCell ⟨w.heap.size + 1, 2, none⟩ nv).setCell ⟨w.heap.size + 1, 3, none⟩ (.int .i64 L.torn)) rv L.recs ∧ OwnS (w.heap.size + 2) ((((wz.setCell ⟨w.heap.size + 1, 0, none⟩ (.int .i64 L.first)).setCell ⟨w.heap.size + 1, 1, none⟩ rv).setCell ⟨w.heap.size + 1, 2, none⟩ nv).setCell ⟨w.heap.size + 1, 3, none⟩ (.int .i64 L.torn)) nv L.names) ∧
    Below w.heap.size w ((((wz.setCell ⟨w.heap.size + 1, 0, none⟩ (.int .i64 L.first)).setCell ⟨w.heap.size + 1, 1, none⟩ rv).setCell ⟨w.heap.size + 1, 2, none⟩ nv).setCell ⟨w.heap.size + 1, 3, none⟩ (.int .i64 L.torn)) := by
  have T5 := (((((Touch.refl (fun k => k = w.heap.size + 1) wz).setCell ⟨w.heap.size + 1, 0, none⟩ (.int .i64 L.first) (fun _ => rfl)).setCell ⟨w.heap.size + 1, 1, none⟩ rv (fun _ => rfl)).setCell ⟨w.heap.size + 1, 2, none⟩ nv (fun _ => rfl)).setCell ⟨w.heap.size + 1, 3, none⟩ (.int .i64 L.torn) (fun _ => rfl))
  refine ⟨(((hr.set 0 (.int .i64 L.first) (by simp)).set 1 rv (by simp)).set 2 nv (by simp)).set 3 (.int .i64 L.torn) (by simp), ⟨h.rcs.kept T5 (fun k hk e => by have := (h.rcs.lt k hk).1; omega), h.nam.kept T5 (fun k hk e => by have := (h.nam.lt k hk).1; omega)⟩, ?_⟩
  have h1 := hb.trans (h.bel.mono (by omega))
  exact h1.trans (T5.below (B := w.heap.size) h1.size (fun k hk e => by omega))

set_option maxRecDepth 100000 in
set_option maxHeartbeats 2000000 in
theorem l04Read_any (room : Int) (v : Value) (l : List Fl) (w : World) (h : Fls w v l) (hd : diskB room l = true) (hs : Small l) :
    Calls Tryz.prog 49 #[.agg #[.int .i64 room, v]] w fun e w' => ∃ f ra rn rc na nn nc t, e = .returned (.tuple #[.agg #[.int .i64 f, .slice ra rn rc, .slice na nn nc, .int .i64 t], .int .i64 (lgRun (segsP l) 0).2]) ∧ ((lgRun (segsP l) 0).2 = 0 → f = (lgRun (segsP l) 0).1.first ∧ t = (lgRun (segsP l) 0).1.torn ∧ WalA (w.heap.size + 2) w' (lgRun (segsP l) 0).1 (.slice ra rn rc) (.slice na nn nc)) ∧ Below w.heap.size w w' := by
  have HF := hide h
  have HS := hide hs
  have HD := hide hd
  have HLn := hide (disk_len hd)
  obtain ⟨a, cap, rfl, hn, hm, hc⟩ := h
  clear hc hm hn hs hd
  have BA := ((((Below.refl w.heap.size w).alloc (Nat.le_refl _) (.cells #[.int .i64 room, .slice a l.length cap] 28)).alloc (by simp) (.cells #[.int .i64 0, .slice none 0 0, .slice none 0 0, .int .i64 0] 45)).alloc (by simp; omega) (.cells #[] 9)).alloc (by simp; omega) (.cells #[] 9)
  have X0 := (((((Blk.new w #[.int .i64 room, .slice a l.length cap] 28 w.heap.size rfl).alloc (.cells #[.int .i64 0, .slice none 0 0, .slice none 0 0, .int .i64 0] 45)).alloc (.cells #[] 9)).alloc (.cells #[] 9)).alloc (.cells #[.int .i64 0, .slice (some ⟨w.heap.size + 1 + 1, 0, none⟩) 0 0, .slice (some ⟨w.heap.size + 1 + 1 + 1, 0, none⟩) 0 0, .int .i64 0] 45))
  have R0 := ((((Blk.new (w.alloc (.cells #[.int .i64 room, .slice a l.length cap] 28)) #[.int .i64 0, .slice none 0 0, .slice none 0 0, .int .i64 0] 45 (w.heap.size + 1) (by simp)).alloc (.cells #[] 9)).alloc (.cells #[] 9)).alloc (.cells #[.int .i64 0, .slice (some ⟨w.heap.size + 1 + 1, 0, none⟩) 0 0, .slice (some ⟨w.heap.size + 1 + 1 + 1, 0, none⟩) 0 0, .int .i64 0] 45))
  have O1 := ownS_empty ((w.alloc (.cells #[.int .i64 room, .slice a l.length cap] 28)).alloc (.cells #[.int .i64 0, .slice none 0 0, .slice none 0 0, .int .i64 0] 45)) (w.heap.size + 2) (w.heap.size + 1 + 1) (by simp) (by simp)
  have O2 := ownS_empty (((w.alloc (.cells #[.int .i64 room, .slice a l.length cap] 28)).alloc (.cells #[.int .i64 0, .slice none 0 0, .slice none 0 0, .int .i64 0] 45)).alloc (.cells #[] 9)) (w.heap.size + 2) (w.heap.size + 1 + 1 + 1) (by simp) (by simp)
  have L0 := Blk.new ((((w.alloc (.cells #[.int .i64 room, .slice a l.length cap] 28)).alloc (.cells #[.int .i64 0, .slice none 0 0, .slice none 0 0, .int .i64 0] 45)).alloc (.cells #[] 9)).alloc (.cells #[] 9)) #[.int .i64 0, .slice (some ⟨w.heap.size + 1 + 1, 0, none⟩) 0 0, .slice (some ⟨w.heap.size + 1 + 1 + 1, 0, none⟩) 0 0, .int .i64 0] 45 (w.heap.size + 1 + 1 + 1 + 1) (by simp)
  have HX0 := hide X0
  have HR0 := hide R0
  have HL0 := hide L0
  have al : ∀ (w : World) (o : Obj), Below w.heap.size w (w.alloc o) := fun w o => (Below.refl _ w).alloc (Nat.le_refl _) o
  have HO1 := hide ((O1.below (al _ (.cells #[] 9))).below (al _ (.cells #[.int .i64 0, .slice (some ⟨w.heap.size + 1 + 1, 0, none⟩) 0 0, .slice (some ⟨w.heap.size + 1 + 1 + 1, 0, none⟩) 0 0, .int .i64 0] 45)))
  have HO2 := hide (O2.below (al _ (.cells #[.int .i64 0, .slice (some ⟨w.heap.size + 1 + 1, 0, none⟩) 0 0, .slice (some ⟨w.heap.size + 1 + 1 + 1, 0, none⟩) 0 0, .int .i64 0] 45)))
  have HB0 := hide (BA.alloc (by simp; omega) (.cells #[.int .i64 0, .slice (some ⟨w.heap.size + 1 + 1, 0, none⟩) 0 0, .slice (some ⟨w.heap.size + 1 + 1 + 1, 0, none⟩) 0 0, .int .i64 0] 45))
  clear BA X0 R0 O1 O2 L0 al
  go_enter Tryz.func49, Tryz.ntmps49
  go_wp2_with fail
  generalize ((((w.alloc (.cells #[.int .i64 room, .slice a l.length cap] 28)).alloc (.cells #[.int .i64 0, .slice none 0 0, .slice none 0 0, .int .i64 0] 45)).alloc (.cells #[] 9)).alloc (.cells #[] 9)).alloc (.cells #[.int .i64 0, .slice (some ⟨w.heap.size + 1 + 1, 0, none⟩) 0 0, .slice (some ⟨w.heap.size + 1 + 1 + 1, 0, none⟩) 0 0, .int .i64 0] 45) = w0 at *
  refine (l04Segments_any room _ l w0 ((unhide HF).below (unhide HB0)) (unhide HLn) (fun i hi => ((unhide HS).2.2 i).1)).mono ?_
  rintro e w1 ⟨lv, rfl, hN1, hb1⟩
  obtain ⟨la, ln, lc, rfl⟩ : ∃ la ln lc, lv = .slice la ln lc := by
    rcases own_shape hN1 with ⟨h, _⟩ | ⟨g, c, h, _⟩
    · exact ⟨_, _, _, h⟩
    · exact ⟨_, _, _, h⟩
  have hln : ln = (segsP l).length := by
    have h1 := nums_len l
    rcases own_shape hN1 with ⟨h, h0⟩ | ⟨g, c, h, _⟩
    · cases h; omega
    · cases h; omega
  have hz0 : w.heap.size + 5 ≤ w0.heap.size := (unhide HL0).1
  have HX1 := hide ((unhide HX0).below hb1)
  have HR1 := hide ((unhide HR0).below hb1)
  have HWB0 := hide ((unhide HB0).trans (hb1.mono (unhide HB0).size))
  have HSP : Hid (SpR (w.heap.size + 2) (w.heap.size + 1 + 1 + 1 + 1) w1 (.slice la ln lc) (numsP l) lg0 (.slice (some ⟨w.heap.size + 1 + 1, 0, none⟩) 0 0) (.slice (some ⟨w.heap.size + 1 + 1 + 1, 0, none⟩) 0 0) w1) := hide ⟨Below.refl _ _, (unhide HL0).below hb1, (unhide HO1).below hb1, (unhide HO2).below hb1, fun k hk e => by
    have h1 : w.heap.size + 1 + 1 = k := by simpa [Value.ownBlock] using hk
    have h2 : w.heap.size + 1 + 1 + 1 = k := by simpa [Value.ownBlock] using e
    omega, fun k hk => by
    have h1 : w.heap.size + 1 + 1 = k := by simpa [Value.ownBlock] using hk
    omega, fun k hk => by
    have h1 : w.heap.size + 1 + 1 + 1 = k := by simpa [Value.ownBlock] using hk
    omega, World.ownsRow.mono hN1 (by omega), fun k hk => by have := (World.ownsRow.lt hN1 k hk).1; omega, by omega, Nat.le_trans (by omega) hb1.size⟩
  have hz1 := hb1.size
  clear hN1 hb1 HX0 HR0 HL0 HO1 HO2 HB0
  have hsg8 := segs_len l (unhide HLn)
  have HSM : Hid (∀ k, k < (segsP l).length → ((segsP l).getD k default).d.size ≤ 3000 ∧ ((segsP l).getD k default).n.size ≤ 1048576) := hide (fun k hk => by
    obtain ⟨i0, hi, he, _⟩ := seg_at (unhide HD) k hk
    rw [← he]
    exact ⟨file_small (unhide HD) i0 hi, ((unhide HS).2.2 i0).1⟩)
  have HAT := hide (fun k hk => seg_at (unhide HD) k hk)
  have HNG := hide (fun k hk => nums_get l k hk)
  have HNLn := hide (nums_len l)
  have HRC := hide (lgAt_recs (segsP l) (fun f hf => seg_small (unhide HD) f (List.mem_filter.1 hf).1))
  generalize hsgg : segsP l = sg at *
  have HSGE := hide hsgg
  clear hsgg
  subst hln
  generalize w.heap.size + 1 + 1 + 1 + 1 = lb at *
  have hlast : IntKind.i64.wrap ((sg.length : Int) - 1) = (sg.length : Int) - 1 := wrapSg _ (by omega) (by omega)
  go_wp2_with fail
  go_loopw [6] (fun i wr => ∃ (k : Nat) (ra : Option Addr) (rn rc : Nat) (na : Option Addr) (nn nc : Nat), k ≤ sg.length ∧ i = .int .i64 k ∧ lgGood sg k ∧ SpR (w.heap.size + 2) lb w1 (.slice la sg.length lc) (numsP l) (lgAt sg k) (.slice ra rn rc) (.slice na nn nc) wr ∧ 0 ≤ (lgAt sg k).first ∧ (lgAt sg k).first < 4294967296) (fun i _ => sg.length - (intOf i).toNat)
  case atStart => exact ⟨0, _, _, _, _, _, _, Nat.zero_le _, rfl, lgGood.zero sg, unhide HSP, by show (0 : Int) ≤ 0; omega, by show (0 : Int) < 4294967296; omega⟩
  case round =>
    obtain ⟨k, ra, rn, rc, na, nn, nc, hk, rfl, hgood, hR, hBF⟩ := hrel
    have HBF := hide hBF
    have HGO := hide hgood
    have HR := hide hR
    have HRB := hide ((unhide HR1).belowB hR.bel (by omega))
    have hzr := hR.bel.size
    clear hBF hgood HSP
    by_cases hlt : k < sg.length
    · have HX := hide ((unhide HX1).belowB hR.bel (by omega))
      clear hR
      obtain ⟨i0, hi0, hfl, hpl, hno⟩ := unhide HAT k hlt
      obtain ⟨hds, hns⟩ := unhide HSM k hlt
      have hk0 : (0 : Int) ≤ (k : Int) := by omega
      have hk1 : (k : Int) < (sg.length : Int) := by omega
      have hll : l.length ≤ 1048576 := by have := unhide HLn; omega
      obtain ⟨g, rfl⟩ : ∃ g, la = some ⟨g, 0, none⟩ := by
        rcases own_shape (unhide HR).num with ⟨h, _⟩ | ⟨g, c, h, _⟩
        · obtain ⟨_, h2, _⟩ := Value.slice.inj h
          omega
        · obtain ⟨h1, _, _⟩ := Value.slice.inj h
          exact ⟨g, h1⟩
      have hpr := plc_range (sg.getD k default).n
      have hseg := segN_plc hpl
      have hcl := OwnN.cell (unhide HR).num k (by rw [unhide HNLn]; exact hlt)
      rw [unhide HNG k hlt] at hcl
      have HDT := hide (fun (p : Wb wr) => l04Data_any room (.slice a l.length cap) l (plcP (sg.getD k default).n) i0 p.at_ ((unhide HF).below (((unhide HWB0).trans ((unhide HR).bel.mono (by omega))).trans (p.below.mono (by have := (unhide HWB0).size; omega)))) hi0 hll hpr.1 hpr.2 (by rw [hfl, hseg]) (fun j hj => by rw [hseg]; exact hno j hj))
      have HNAME := hide (fun wx => l04Name_any (plcP (sg.getD k default).n) wx hpr.1 hpr.2)
      rw [hseg] at HNAME
      rw [hfl] at HDT
      have HPL := hide hpl
      clear hno hfl hseg hpl
      obtain ⟨f, hff⟩ : ∃ f, f = sg.getD k default := ⟨_, rfl⟩
      rw [← hff] at hds hns hcl HDT HNAME hpr HPL
      have HFX := hide hff.symm
      clear hff
      obtain ⟨fn, fd, fs⟩ := f
      dsimp only at hds hns hcl HDT HNAME hpr HPL
      have zb := (unhide HR).box.1
      have zx := (unhide HX).1
      have zl := World.block_lt_of_cell? wr _ hcl
      dsimp only at zl
      have d0 := Wb.cell ((unhide HX).cell 0 rfl) zx
      have d1 := Wb.cell ((unhide HX).cell 1 rfl) zx
      have d2 := Wb.cell hcl zl
      go_wp2_with fail
      refine wp_region_wb (by kernel_rfl) (by kernel_rfl) ?_
      repeat (go_big_quiet_step ((go_at_call 50; exact wb_of (unhide HDT _))))
      refine wpQuiet_nil ?_
      intro w2 hw'
      obtain ⟨⟨wq, hb2⟩, hq⟩ := hw'
      change w2 = wq at hq
      subst hq
      have HR2 := hide ((unhide HR).below hb2)
      have HRB2 := hide ((unhide HRB).below hb2)
      have hcl2 := (hb2.cell (p := ⟨g, k, none⟩) zl).trans hcl
      have hz2 := hb2.size
      have HNBW : Hid (∀ j, (Value.slice na nn nc).ownBlock = some j → j < wr.heap.size) := hide (fun j hj => ((unhide HR).nam.lt j hj).2)
      clear hb2 d0 d1 d2 HX HDT HR HRB hcl
      obtain ⟨cap3, w3, hcv, hRd3, hb3⟩ := str_bytes fd w2 (by unfold maxLen; omega)
      have HRd := hide hRd3
      have HR3 := hide ((unhide HR2).below hb3)
      have HRB3 := hide ((unhide HRB2).below hb3)
      have hcl3 := (hb3.cell (p := ⟨g, k, none⟩) (Nat.lt_of_lt_of_le zl hz2)).trans hcl2
      have hz3 := hb3.size
      go_wp2_with fail
      clear hcv hRd3 hb3 HR2 HRB2 hcl2
      refine (l02Frames_any _ _ (bytesI fd) w3 (unhide HRd) (by rw [bytesI_len2]; omega)).mono ?_
      rintro e w4 ⟨dv, rfl, hO4, hb4⟩
      have HR4 := hide ((unhide HR3).below hb4)
      have HRB4 := hide ((unhide HRB3).below hb4)
      have hcl4 := (hb4.cell (p := ⟨g, k, none⟩) (Nat.lt_of_lt_of_le zl (Nat.le_trans hz2 hz3))).trans hcl3
      have hz4 := hb4.size
      have HFR : Hid (frP (bytesI fd) 0 = frF ⟨fn, fd, fs⟩) := hide rfl
      rw [unhide HFR] at hO4 ⊢
      obtain ⟨da, dc, rfl⟩ : ∃ da dc, dv = .slice da (frF ⟨fn, fd, fs⟩).1.length dc := by
        obtain ⟨a', c', h'⟩ := ownS_form hO4
        rw [List.length_map] at h'
        exact ⟨a', c', h'⟩
      have HO4 := hide hO4
      have HDN : Hid (∀ j, (Value.slice da (frF ⟨fn, fd, fs⟩).1.length dc).ownBlock = some j → w3.heap.size ≤ j) := hide (fun j hj => (hO4.lt j hj).1)
      have hlen : (frF ⟨fn, fd, fs⟩).1.length ≤ 3000 := Nat.le_trans (frF_len ⟨fn, fd, fs⟩) hds
      have hpos := frF_pos ⟨fn, fd, fs⟩
      dsimp only at hpos
      clear hb4 hO4 HR3 HRB3 HRd hcl3
      obtain ⟨wh, hwh⟩ : ∃ wh : Nat, wh = (frF ⟨fn, fd, fs⟩).2.1 := ⟨_, rfl⟩
      obtain ⟨bh, hbh⟩ : ∃ bh : Int, bh = (frF ⟨fn, fd, fs⟩).2.2 := ⟨_, rfl⟩
      rw [← hwh] at hpos
      rw [← hwh, ← hbh]
      have HWB := hide (And.intro hwh hbh)
      clear hwh hbh
      obtain ⟨fl, hfl⟩ : ∃ fl : Nat, fl = (frF ⟨fn, fd, fs⟩).1.length := ⟨_, rfl⟩
      rw [← hfl] at hlen HO4 HDN ⊢
      have HFL := hide hfl
      clear hfl
      go_upto_region 9 with fail
      go_cut [52] (fun s wx => s = .bool (decide (bh = 8 ∨ (bh = 16 ∧ k + 1 < sg.length))) ∧ wx = w4)
      case first =>
        rcases (show bh = 8 ∨ (bh = 16 ∧ k + 1 < sg.length) ∨ (bh ≠ 8 ∧ bh ≠ 16) ∨ (bh = 16 ∧ k + 1 = sg.length) by omega) with hb8 | ⟨hb16, hk2⟩ | ⟨hn8, hn16⟩ | ⟨hb16, hk2⟩
        · have HDD := hide (show decide (bh = 8 ∨ (bh = 16 ∧ k + 1 < sg.length)) = true by rw [decide_eq_true_eq]; exact .inl hb8)
          have e8 : (bh == 8) = true := by rw [beq_iff_eq]; exact hb8
          clear hb8
          go_wp2_with fail
          go_meet
          exact ⟨congrArg Value.bool (unhide HDD).symm, rfl⟩
        · have HDD := hide (show decide (bh = 8 ∨ (bh = 16 ∧ k + 1 < sg.length)) = true by rw [decide_eq_true_eq]; exact .inr ⟨hb16, hk2⟩)
          have e8 : (bh == 8) = false := by rw [beq_eq_false_iff_ne]; omega
          have e16 : (bh == 16) = true := by rw [beq_iff_eq]; exact hb16
          have e3 : ((k : Int) == (sg.length : Int) - 1) = false := by rw [beq_eq_false_iff_ne]; omega
          clear hb16 hk2
          go_wp2_with fail
          go_meet
          exact ⟨congrArg Value.bool (unhide HDD).symm, rfl⟩
        · have HDD := hide (show decide (bh = 8 ∨ (bh = 16 ∧ k + 1 < sg.length)) = false by rw [decide_eq_false_iff_not]; omega)
          have e8 : (bh == 8) = false := by rw [beq_eq_false_iff_ne]; exact hn8
          have e16 : (bh == 16) = false := by rw [beq_eq_false_iff_ne]; exact hn16
          clear hn8 hn16
          go_wp2_with fail
          go_meet
          exact ⟨congrArg Value.bool (unhide HDD).symm, rfl⟩
        · have HDD := hide (show decide (bh = 8 ∨ (bh = 16 ∧ k + 1 < sg.length)) = false by rw [decide_eq_false_iff_not]; omega)
          have e8 : (bh == 8) = false := by rw [beq_eq_false_iff_ne]; omega
          have e16 : (bh == 16) = true := by rw [beq_iff_eq]; exact hb16
          have e3 : ((k : Int) == (sg.length : Int) - 1) = true := by rw [beq_iff_eq]; omega
          clear hb16 hk2
          go_wp2_with fail
          go_meet
          exact ⟨congrArg Value.bool (unhide HDD).symm, rfl⟩
      case rest =>
        obtain ⟨rfl, hwc⟩ := hcut
        have hwc2 := hwc.symm
        clear hwc
        subst hwc2
        cases hd5 : decide (bh = 8 ∨ (bh = 16 ∧ k + 1 < sg.length))
        case true =>
          have hc : lgCode sg k (lgAt sg k) = 8 := by
            unfold lgCode
            rw [unhide HFX, ← (unhide HWB).2, if_pos (of_decide_eq_true hd5)]
          have HDB := hide ((unhide HGO).bad hlt (by rw [hc]; decide))
          rw [hc] at HDB
          clear hc hd5
          have l0 := (unhide HR4).box.cell 0 rfl
          have l1 := (unhide HR4).box.cell 1 rfl
          have l2 := (unhide HR4).box.cell 2 rfl
          have l3 := (unhide HR4).box.cell 3 rfl
          have r0 := (unhide HRB4).cell 0 rfl
          have r1 := (unhide HRB4).cell 1 rfl
          have r2 := (unhide HRB4).cell 2 rfl
          have r3 := (unhide HRB4).cell 3 rfl
          have f0 := (unhide HRB4).fro 0
          have f1 := (unhide HRB4).fro 1
          have f2 := (unhide HRB4).fro 2
          have f3 := (unhide HRB4).fro 3
          have RT := hide (sp_ret (unhide HR4) (unhide HRB4) (unhide HWB0) (by omega))
          go_wp2_with fail
          generalize (((w4.setCell ⟨w.heap.size + 1, 0, none⟩ (.int .i64 ((lgAt sg k)).first)).setCell ⟨w.heap.size + 1, 1, none⟩ (.slice ra rn rc)).setCell ⟨w.heap.size + 1, 2, none⟩ (.slice na nn nc)).setCell ⟨w.heap.size + 1, 3, none⟩ (.int .i64 ((lgAt sg k)).torn) = wf at *
          have z0 := (unhide RT).1.cell 0 rfl
          have z1 := (unhide RT).1.cell 1 rfl
          have z2 := (unhide RT).1.cell 2 rfl
          have z3 := (unhide RT).1.cell 3 rfl
          refine bodyPost_ret (v := .tuple #[.agg #[.int .i64 ((lgAt sg k)).first, (.slice ra rn rc), (.slice na nn nc), .int .i64 ((lgAt sg k)).torn], .int .i64 8]) (by simp [results, Tryz.results49, go_sem, z0, z1, z2, z3]) rfl ?_
          rw [unhide HSGE, unhide HDB]
          exact ⟨_, _, _, _, _, _, _, _, rfl, fun h => absurd h (by decide), (unhide RT).2.2⟩
        have HA : Hid (¬ ((frF (sg.getD k default)).2.2 = 8 ∨ ((frF (sg.getD k default)).2.2 = 16 ∧ k + 1 < sg.length))) := by
          rw [unhide HFX, ← (unhide HWB).2]
          exact hide (of_decide_eq_false hd5)
        clear hd5
        go_wp2_with fail
        go_cut [68] (fun s wx => s = .bool (decide (0 < k ∧ plcP fn ≠ plcP (sg.getD (k - 1) default).n + 1)) ∧ ∃ n, wx = w4.drewN n)
        case first =>
          rcases Nat.eq_zero_or_pos k with hk00 | hkp
          · have HDD := hide (show decide (0 < k ∧ plcP fn ≠ plcP (sg.getD (k - 1) default).n + 1) = false by rw [decide_eq_false_iff_not]; omega)
            have p0d : decide (0 < k) = false := by rw [decide_eq_false_iff_not]; omega
            clear hk00
            go_quiet (fail)
            go_wp2_with fail
            go_meet
            exact ⟨congrArg Value.bool (unhide HDD).symm, nq, rfl⟩
          · obtain ⟨kp, hkp1⟩ : ∃ kp : Nat, kp + 1 = k := ⟨k - 1, by omega⟩
            have hki : (k : Int) - 1 = (kp : Int) := by omega
            have mk : IntKind.i64.wrap (kp : Int) = (kp : Int) := wrapSg _ (by omega) (by omega)
            have hkpl : kp < sg.length := by omega
            have hkpi : (kp : Int) < (sg.length : Int) := by omega
            have hkpz : (0 : Int) ≤ (kp : Int) := by omega
            have hkpd : decide (0 < k) = true := by simpa using hkp
            have p0 := OwnN.cell (unhide HR4).num kp (by rw [unhide HNLn]; exact hkpl)
            rw [unhide HNG kp hkpl] at p0
            have HEQ : Hid (decide (0 < k ∧ plcP fn ≠ plcP (sg.getD (k - 1) default).n + 1) = (plcP fn != plcP (sg.getD kp default).n + 1)) := by
              rw [show k - 1 = kp by omega]
              exact hide (by rw [Bool.eq_iff_iff]; simp [hkp])
            have r2 := plc_range (sg.getD kp default).n
            have m2 := wrapSg (plcP (sg.getD kp default).n + 1) (by omega) (by omega)
            clear hkp1
            generalize plcP (sg.getD kp default).n = pl2 at *
            generalize plcP fn = pl1 at *
            go_quiet (fail)
            go_wp2_with fail
            go_meet
            exact ⟨congrArg Value.bool (unhide HEQ).symm, nq, rfl⟩
        case rest =>
          obtain ⟨rfl, n2, rfl⟩ := hcut
          have hbd := below_drewN (Below.refl w4.heap.size w4) n2
          have HR5 := hide ((unhide HR4).below hbd)
          have HRB5 := hide ((unhide HRB4).below hbd)
          have HO5 := hide ((unhide HO4).below hbd)
          have hcl5 : (w4.drewN n2).cell? ⟨g, k, none⟩ = _ := hcl4
          have hz5 : w4.heap.size ≤ (w4.drewN n2).heap.size := hbd.size
          clear hbd HR4 HRB4 HO4 hcl4
          generalize w4.drewN n2 = w5 at *
          cases hd7 : decide (0 < k ∧ plcP fn ≠ plcP (sg.getD (k - 1) default).n + 1)
          case true =>
            have hc : lgCode sg k (lgAt sg k) = 3 := by
              unfold lgCode
              rw [if_neg (unhide HA), unhide HFX, if_pos (of_decide_eq_true hd7)]
            have HDB := hide ((unhide HGO).bad hlt (by rw [hc]; decide))
            rw [hc] at HDB
            clear hc hd7
            have l0 := (unhide HR5).box.cell 0 rfl
            have l1 := (unhide HR5).box.cell 1 rfl
            have l2 := (unhide HR5).box.cell 2 rfl
            have l3 := (unhide HR5).box.cell 3 rfl
            have r0 := (unhide HRB5).cell 0 rfl
            have r1 := (unhide HRB5).cell 1 rfl
            have r2 := (unhide HRB5).cell 2 rfl
            have r3 := (unhide HRB5).cell 3 rfl
            have f0 := (unhide HRB5).fro 0
            have f1 := (unhide HRB5).fro 1
            have f2 := (unhide HRB5).fro 2
            have f3 := (unhide HRB5).fro 3
            have RT := hide (sp_ret (unhide HR5) (unhide HRB5) (unhide HWB0) (by omega))
            go_wp2_with fail
            generalize (((w5.setCell ⟨w.heap.size + 1, 0, none⟩ (.int .i64 ((lgAt sg k)).first)).setCell ⟨w.heap.size + 1, 1, none⟩ (.slice ra rn rc)).setCell ⟨w.heap.size + 1, 2, none⟩ (.slice na nn nc)).setCell ⟨w.heap.size + 1, 3, none⟩ (.int .i64 ((lgAt sg k)).torn) = wf at *
            have z0 := (unhide RT).1.cell 0 rfl
            have z1 := (unhide RT).1.cell 1 rfl
            have z2 := (unhide RT).1.cell 2 rfl
            have z3 := (unhide RT).1.cell 3 rfl
            refine bodyPost_ret (v := .tuple #[.agg #[.int .i64 ((lgAt sg k)).first, (.slice ra rn rc), (.slice na nn nc), .int .i64 ((lgAt sg k)).torn], .int .i64 3]) (by simp [results, Tryz.results49, go_sem, z0, z1, z2, z3]) rfl ?_
            rw [unhide HSGE, unhide HDB]
            exact ⟨_, _, _, _, _, _, _, _, rfl, fun h => absurd h (by decide), (unhide RT).2.2⟩
          have HB7 : Hid (¬ (0 < k ∧ plcP (sg.getD k default).n ≠ plcP (sg.getD (k - 1) default).n + 1)) := by
            rw [unhide HFX]; exact hide (of_decide_eq_false hd7)
          clear hd7
          have HNL := hide (lgAt_names sg k)
          obtain ⟨bl, hbl⟩ : ∃ bl : Bool, bl = ((k : Int) == (sg.length : Int) - 1) := ⟨_, rfl⟩
          rw [← hbl]
          rcases Nat.eq_zero_or_pos fl with hf0 | hfp
          · have HEMP : Hid ((frF ⟨fn, fd, fs⟩).1 = []) := hide (List.eq_nil_of_length_eq_zero (by rw [← unhide HFL]; exact hf0))
            have e0 : ((fl : Int) == 0) = true := by rw [beq_iff_eq]; omega
            by_cases hla : k + 1 = sg.length
            · obtain rfl : bl = true := by rw [hbl, beq_iff_eq]; omega
              clear hbl
              have hc : lgCode sg k (lgAt sg k) = 0 := by
                unfold lgCode
                rw [if_neg (unhide HA), if_neg (unhide HB7), unhide HFX, if_pos (unhide HEMP), if_pos hla]
              have HDB := hide (((unhide HGO).next hlt hc).done (by omega))
              have hq : lgAt sg (k + 1) = ⟨(lgAt sg k).first, (lgAt sg k).recs, (lgAt sg k).names ++ [fn], (fd.size : Int)⟩ := by
                show lgNext sg k (lgAt sg k) = _
                unfold lgNext
                have h0 := frP_none (bytesI fd) 0 (unhide HEMP)
                have h1 : (frF ⟨fn, fd, fs⟩).2.1 = 0 := h0
                rw [unhide HFX, unhide HEMP, h1]; simp
              rw [hq] at HDB
              clear hc hq hf0 hla
              go_wp2_with fail
              go_cut [84] (fun s wx => ∃ ga gn gc, SpR (w.heap.size + 2) lb w1 (.slice (some ⟨g, 0, none⟩) sg.length lc) (numsP l) ⟨(lgAt sg k).first, (lgAt sg k).recs, (lgAt sg k).names ++ [fn], (lgAt sg k).torn⟩ (.slice ra rn rc) (.slice ga gn gc) wx ∧ Touch (fun k => (Value.slice na nn nc).ownBlock = some k ∨ k = lb) w5 wx)
              case first =>
                have hbd := below_drewN (Below.refl w5.heap.size w5) 1
                have HRd := hide ((unhide HR5).below hbd)
                have l2 := (unhide HR5).box.cell 2 rfl
                have hnl : (lgAt sg k).names.length ≤ 8 := by rw [unhide HNL]; omega
                obtain ⟨i0', hi, hz0', hz1', hz2'⟩ := info_parts infoS
                clear hbd
                go_region_law (first
                  | (refine step_append_lies _ (by rfl) _ _ _ (by rfl) (w.heap.size + 2) 9 i0' _ 1 16 Tryz.underlying43 hi hz0' hz1' hz2' rfl (by omega) (.slice na nn nc) (lgAt sg k).names.length ((lgAt sg k).names.map Value.string) (by rfl) (hR6.nam.below ((Below.refl w6.heap.size w6).alloc (Nat.le_refl _) (.cells #[.string fn] 9))) ⟨w6.heap.size, 0, none⟩ 1 1 [_] (by rfl) (by rfl) (World.news_of_block (cs := #[_]) (t := 9) (fr := (0, 0)) (heap_alloc_new w6 _)) (by simp [Value.oneCell']) (by omega) (by unfold maxLen; omega) (by omega) (by have := hR6.lw; have := hR6.bel.size; simp; omega) (w6.heap.size + 1) (by simp) ?_; intro gg capg w7 hown7 hgrow7 hat7 hlt7; have P7 := hR6.named hown7 hgrow7 hat7; have hc7 := P7.1; have hf7 := P7.2.1)
                  | (go_simp; go_at_call 36; refine (unhide HNAME _).mono ?_; rintro e w6 ⟨rfl, hb6⟩; have hR6 := (unhide HRd).below hb6; have l2b := hR6.box.cell 2 rfl; have l2c := (((Below.refl w6.heap.size w6).alloc (Nat.le_refl _) (.cells #[.string fn] 9)).cell (p := ⟨lb, 2, none⟩) hR6.box.1).trans l2b; go_simp))
                all_goals
                  go_wp2_with fail
                  go_meet
                  exact ⟨_, _, _, P7.2.2.1, touch_after hb6 P7.2.2.2⟩
              case rest =>
                obtain ⟨ga, gn, gc, hRn, hTn⟩ := hcut
                have HRN := hide (hRn.setTorn (fd.size : Int))
                have l3 := hRn.box.cell 3 rfl
                have f3x := hRn.box.fro 3
                have HRBN := hide ((unhide HR1).belowB (unhide HRN).bel (by omega))
                clear HR5 HRB5 hTn hRn
                go_upto_region 18 with fail
                clear l3 f3x
                generalize wc.setCell ⟨lb, 3, none⟩ (.int .i64 (fd.size : Int)) = w9 at *
                obtain ⟨M, hM⟩ : ∃ M : Lg, M = ⟨(lgAt sg k).first, (lgAt sg k).recs, (lgAt sg k).names ++ [fn], (fd.size : Int)⟩ := ⟨_, rfl⟩
                rw [← hM] at HDB
                have HRM : Hid (SpR (w.heap.size + 2) lb w1 (.slice (some ⟨g, 0, none⟩) sg.length lc) (numsP l) M (.slice ra rn rc) (.slice ga gn gc) w9) := by rw [hM]; exact HRN
                clear HRN hM
                have l0 := (unhide HRM).box.cell 0 rfl
                have l1 := (unhide HRM).box.cell 1 rfl
                have l2 := (unhide HRM).box.cell 2 rfl
                have l3 := (unhide HRM).box.cell 3 rfl
                have r0 := (unhide HRBN).cell 0 rfl
                have r1 := (unhide HRBN).cell 1 rfl
                have r2 := (unhide HRBN).cell 2 rfl
                have r3 := (unhide HRBN).cell 3 rfl
                have f0 := (unhide HRBN).fro 0
                have f1 := (unhide HRBN).fro 1
                have f2 := (unhide HRBN).fro 2
                have f3 := (unhide HRBN).fro 3
                have RT := hide (sp_ret (unhide HRM) (unhide HRBN) (unhide HWB0) (by omega))
                go_wp2_with fail
                generalize (((w9.setCell ⟨w.heap.size + 1, 0, none⟩ (.int .i64 (M).first)).setCell ⟨w.heap.size + 1, 1, none⟩ (.slice ra rn rc)).setCell ⟨w.heap.size + 1, 2, none⟩ (.slice ga gn gc)).setCell ⟨w.heap.size + 1, 3, none⟩ (.int .i64 (M).torn) = wf at *
                have z0 := (unhide RT).1.cell 0 rfl
                have z1 := (unhide RT).1.cell 1 rfl
                have z2 := (unhide RT).1.cell 2 rfl
                have z3 := (unhide RT).1.cell 3 rfl
                refine bodyPost_ret (v := .tuple #[.agg #[.int .i64 (M).first, (.slice ra rn rc), (.slice ga gn gc), .int .i64 (M).torn], .int .i64 0]) (by simp [results, Tryz.results49, go_sem, z0, z1, z2, z3]) rfl ?_
                rw [unhide HSGE, unhide HDB]
                exact ⟨_, _, _, _, _, _, _, _, rfl, fun _ => ⟨rfl, rfl, (unhide RT).2.1.1, (unhide RT).2.1.2, (unhide HRM).dis, ownS_form (unhide RT).2.1.1, ownS_form (unhide RT).2.1.2⟩, (unhide RT).2.2⟩
            · obtain rfl : bl = false := by rw [hbl, beq_eq_false_iff_ne]; omega
              clear hbl
              have hc : lgCode sg k (lgAt sg k) = 3 := by
                unfold lgCode
                rw [if_neg (unhide HA), if_neg (unhide HB7), unhide HFX, if_pos (unhide HEMP), if_neg hla]
              have HDB := hide ((unhide HGO).bad hlt (by rw [hc]; decide))
              rw [hc] at HDB
              clear hc hf0 hla
              have l0 := (unhide HR5).box.cell 0 rfl
              have l1 := (unhide HR5).box.cell 1 rfl
              have l2 := (unhide HR5).box.cell 2 rfl
              have l3 := (unhide HR5).box.cell 3 rfl
              have r0 := (unhide HRB5).cell 0 rfl
              have r1 := (unhide HRB5).cell 1 rfl
              have r2 := (unhide HRB5).cell 2 rfl
              have r3 := (unhide HRB5).cell 3 rfl
              have f0 := (unhide HRB5).fro 0
              have f1 := (unhide HRB5).fro 1
              have f2 := (unhide HRB5).fro 2
              have f3 := (unhide HRB5).fro 3
              have RT := hide (sp_ret (unhide HR5) (unhide HRB5) (unhide HWB0) (by omega))
              go_wp2_with fail
              generalize (((w5.setCell ⟨w.heap.size + 1, 0, none⟩ (.int .i64 ((lgAt sg k)).first)).setCell ⟨w.heap.size + 1, 1, none⟩ (.slice ra rn rc)).setCell ⟨w.heap.size + 1, 2, none⟩ (.slice na nn nc)).setCell ⟨w.heap.size + 1, 3, none⟩ (.int .i64 ((lgAt sg k)).torn) = wf at *
              have z0 := (unhide RT).1.cell 0 rfl
              have z1 := (unhide RT).1.cell 1 rfl
              have z2 := (unhide RT).1.cell 2 rfl
              have z3 := (unhide RT).1.cell 3 rfl
              refine bodyPost_ret (v := .tuple #[.agg #[.int .i64 ((lgAt sg k)).first, (.slice ra rn rc), (.slice na nn nc), .int .i64 ((lgAt sg k)).torn], .int .i64 3]) (by simp [results, Tryz.results49, go_sem, z0, z1, z2, z3]) rfl ?_
              rw [unhide HSGE, unhide HDB]
              exact ⟨_, _, _, _, _, _, _, _, rfl, fun h => absurd h (by decide), (unhide RT).2.2⟩
          · clear hbl
            have e0 : ((fl : Int) == 0) = false := by rw [beq_eq_false_iff_ne]; omega
            have HNE : Hid (¬ (frF ⟨fn, fd, fs⟩).1 = []) := hide (fun h => by have := unhide HFL; rw [h] at this; simp at this; omega)
            obtain ⟨dg, rfl⟩ : ∃ dg, da = some ⟨dg, 0, none⟩ := by
              rcases own_shape (unhide HO5) with ⟨h, _⟩ | ⟨dg, c, h, _⟩
              · obtain ⟨_, h2, _⟩ := Value.slice.inj h
                omega
              · obtain ⟨h1, _, _⟩ := Value.slice.inj h
                exact ⟨dg, h1⟩
            have hfl0 : (0 : Int) < (fl : Int) := by omega
            have hget0 : ((frF ⟨fn, fd, fs⟩).1.map strOfNums).getD 0 ByteArray.empty = strOfNums ((frF ⟨fn, fd, fs⟩).1.getD 0 []) := by
              have hp0 : 0 < (frF ⟨fn, fd, fs⟩).1.length := by rw [← unhide HFL]; exact hfp
              rw [List.getD_eq_getElem?_getD, List.getElem?_map, List.getD_eq_getElem?_getD, List.getElem?_eq_getElem hp0]; rfl
            have q0 := OwnS.cell (unhide HO5) 0 (by rw [List.length_map, ← unhide HFL]; exact hfp)
            rw [hget0] at q0
            have hs0 := frF_each ⟨fn, fd, fs⟩ 0
            have hr0 := frF_range ⟨fn, fd, fs⟩ 0
            have HIF3 : Hid (∀ L : Lg, (if (frF ⟨fn, fd, fs⟩).1 = [] then L.first else if k = 0 then dec ((frF ⟨fn, fd, fs⟩).1.getD 0 []) else L.first) = (if k = 0 then dec ((frF ⟨fn, fd, fs⟩).1.getD 0 []) else L.first)) := hide (fun L => by rw [if_neg (unhide HNE)])
            have HCODE : Hid (∀ L : Lg, lgCode sg k L = if ((frF ⟨fn, fd, fs⟩).1.getD 0 []).length ≠ 4 then 3 else if 0 < k ∧ dec ((frF ⟨fn, fd, fs⟩).1.getD 0 []) ≠ L.first + L.recs.length then 3 else 0) := hide (fun L => by
              unfold lgCode
              rw [if_neg (unhide HA), if_neg (unhide HB7), unhide HFX, if_neg (unhide HNE)])
            have HNEXT : Hid (∀ L : Lg, lgNext sg k L = ⟨if k = 0 then dec ((frF ⟨fn, fd, fs⟩).1.getD 0 []) else L.first, L.recs ++ ((frF ⟨fn, fd, fs⟩).1.drop 1).map strOfNums, L.names ++ [fn], (fd.size : Int) - (wh : Int)⟩) := hide (fun L => by
              unfold lgNext
              rw [unhide HFX, unhide HIF3 L, (unhide HWB).1])
            generalize (frF ⟨fn, fd, fs⟩).1.getD 0 [] = d0 at *
            have hsz0 := strOfNums_size d0
            have HSZ0 := hide hsz0
            clear hsz0 hget0
            by_cases h4 : d0.length = 4
            case neg =>
              have e4 : (((strOfNums d0).size : Int) == 4) = false := by rw [unhide HSZ0, beq_eq_false_iff_ne]; omega
              have hc : lgCode sg k (lgAt sg k) = 3 := by rw [unhide HCODE, if_pos h4]
              have HDB := hide ((unhide HGO).bad hlt (by rw [hc]; decide))
              rw [hc] at HDB
              clear hc h4
              have l0 := (unhide HR5).box.cell 0 rfl
              have l1 := (unhide HR5).box.cell 1 rfl
              have l2 := (unhide HR5).box.cell 2 rfl
              have l3 := (unhide HR5).box.cell 3 rfl
              have r0 := (unhide HRB5).cell 0 rfl
              have r1 := (unhide HRB5).cell 1 rfl
              have r2 := (unhide HRB5).cell 2 rfl
              have r3 := (unhide HRB5).cell 3 rfl
              have f0 := (unhide HRB5).fro 0
              have f1 := (unhide HRB5).fro 1
              have f2 := (unhide HRB5).fro 2
              have f3 := (unhide HRB5).fro 3
              have RT := hide (sp_ret (unhide HR5) (unhide HRB5) (unhide HWB0) (by omega))
              go_wp2_with fail
              generalize (((w5.setCell ⟨w.heap.size + 1, 0, none⟩ (.int .i64 ((lgAt sg k)).first)).setCell ⟨w.heap.size + 1, 1, none⟩ (.slice ra rn rc)).setCell ⟨w.heap.size + 1, 2, none⟩ (.slice na nn nc)).setCell ⟨w.heap.size + 1, 3, none⟩ (.int .i64 ((lgAt sg k)).torn) = wf at *
              have z0 := (unhide RT).1.cell 0 rfl
              have z1 := (unhide RT).1.cell 1 rfl
              have z2 := (unhide RT).1.cell 2 rfl
              have z3 := (unhide RT).1.cell 3 rfl
              refine bodyPost_ret (v := .tuple #[.agg #[.int .i64 ((lgAt sg k)).first, (.slice ra rn rc), (.slice na nn nc), .int .i64 ((lgAt sg k)).torn], .int .i64 3]) (by simp [results, Tryz.results49, go_sem, z0, z1, z2, z3]) rfl ?_
              rw [unhide HSGE, unhide HDB]
              exact ⟨_, _, _, _, _, _, _, _, rfl, fun h => absurd h (by decide), (unhide RT).2.2⟩
            have e4 : (((strOfNums d0).size : Int) == 4) = true := by rw [unhide HSZ0, beq_iff_eq]; omega
            have H4 := hide h4
            clear h4
            obtain ⟨cap6, w6, hcv, hRd6, hb6⟩ := str_bytes (strOfNums d0) w5 (by rw [unhide HSZ0]; unfold maxLen; omega)
            have hbk : bytesI (strOfNums d0) = d0 := by
              have := bytes_back2 d0 hr0
              unfold bytesI
              exact this.symm
            rw [hbk] at hcv hRd6
            have HSR : Hid (SR (w6.alloc (.cells #[.slice (some ⟨w5.heap.size, 0, none⟩) d0.length cap6, .int .i64 0, .bool false] 91)) w6.heap.size (some ⟨w5.heap.size, 0, none⟩) cap6 d0 0 false) := hide (by
              have hB := Blk.new w6 #[.slice (some ⟨w5.heap.size, 0, none⟩) d0.length cap6, .int .i64 0, .bool false] 91 w6.heap.size rfl
              exact ⟨hB.cell 0 rfl, hB.cell 1 rfl, hB.cell 2 rfl, hB.2.2, hB.1, Nat.zero_le _, hRd6.kept (T := fun _ => False) (Nat.le_refl _) ((Touch.refl _ _).alloc _) (fun _ _ h => h), by omega⟩)
            have HB7x := hide (hb6.trans (((Below.refl w6.heap.size w6).alloc (Nat.le_refl _) (.cells #[.slice (some ⟨w5.heap.size, 0, none⟩) d0.length cap6, .int .i64 0, .bool false] 91)).mono hb6.size))
            have hz6 := hb6.size
            go_wp2_with fail
            clear hcv hRd6 hb6 hbk
            generalize w6.alloc (.cells #[.slice (some ⟨w5.heap.size, 0, none⟩) d0.length cap6, .int .i64 0, .bool false] 91) = w7 at *
            generalize w6.heap.size = rb at *
            refine (specNumber_any 4 4 rfl rb _ _ d0 0 w7 (unhide HSR) (by omega)).mono ?_
            rintro e w8 ⟨num, qq, bad, rfl, _, hyes, _, hT8, _⟩
            have hB8 := (unhide HB7x).trans (hT8.below (B := w5.heap.size) (unhide HB7x).size (fun k hk e => by omega))
            have HNM : Hid (num = dec d0) := hide (by
              rw [(hyes (by rw [unhide H4]; omega)).1, List.drop_zero]
              unfold dec
              rw [unhide H4])
            have hnb := decN_lo d0 hr0 4
            have hnm2 : 0 ≤ num ∧ num < 4294967296 := by
              rw [unhide HNM]; unfold dec; rw [unhide H4]; simpa using hnb
            have HR8 := hide ((unhide HR5).below hB8)
            have HRB8 := hide ((unhide HRB5).below hB8)
            have HO8 := hide ((unhide HO5).below hB8)
            have hcl8 := (hB8.cell (p := ⟨g, k, none⟩) (by simp; omega)).trans hcl5
            have hz8 := hB8.size
            clear hyes hT8 hB8 HB7x HSR HR5 HRB5 HO5 hcl5 hnb q0 e4 e0
            have HNBs : Hid (∀ j, (Value.slice na nn nc).ownBlock = some j → j < w3.heap.size) := hide (fun j hj => Nat.lt_of_lt_of_le (unhide HNBW j hj) (Nat.le_trans hz2 hz3))
            have hrn : rn = (lgAt sg k).recs.length := by
              obtain ⟨a', c', h'⟩ := ownS_form (unhide HR8).rcs
              exact (Value.slice.inj h').2.1
            have hrl := unhide HRC k (by omega)
            have hrl2 : rn ≤ 24000 := by omega
            have HRN0 := hide hrn
            clear hrn hrl
            have mw := wrapSg ((lgAt sg k).first + (rn : Int)) (by have := unhide HBF; omega) (by have := unhide HBF; omega)
            go_upto_if 105 with fail
            go_cut [105] (fun s wx => SpR (w.heap.size + 2) lb w1 (.slice (some ⟨g, 0, none⟩) sg.length lc) (numsP l) ⟨if k = 0 then num else (lgAt sg k).first, (lgAt sg k).recs, (lgAt sg k).names, (lgAt sg k).torn⟩ (.slice ra rn rc) (.slice na nn nc) wx ∧ Touch (fun k => k = lb) w8 wx ∧ (0 < k → num = (lgAt sg k).first + (rn : Int)))
            case first =>
              rcases Nat.eq_zero_or_pos k with hk00 | hkp
              · have e1 : ((k : Int) == 0) = true := by rw [beq_iff_eq]; omega
                have HIF := hide (show (if k = 0 then num else (lgAt sg k).first) = num from if_pos hk00)
                have HK0 := hide hk00
                have y0 := (unhide HR8).box.cell 0 rfl
                have f0 := (unhide HR8).box.fro 0
                have HR9 := hide ((unhide HR8).setFirst num)
                have HT9 := hide ((Touch.refl (fun k => k = lb) w8).setCell ⟨lb, 0, none⟩ (.int .i64 num) (fun _ => rfl))
                clear hk00
                go_wp2_with fail
                go_meet
                rw [unhide HIF]
                exact ⟨unhide HR9, unhide HT9, fun h => absurd (unhide HK0) (by omega)⟩
              · have e1 : ((k : Int) == 0) = false := by rw [beq_eq_false_iff_ne]; omega
                have HIF := hide (show (if k = 0 then num else (lgAt sg k).first) = (lgAt sg k).first from if_neg (by omega))
                have y0 := (unhide HR8).box.cell 0 rfl
                have y1 := (unhide HR8).box.cell 1 rfl
                by_cases hne : num = (lgAt sg k).first + (rn : Int)
                · have en : (num == (lgAt sg k).first + (rn : Int)) = true := by rw [beq_iff_eq]; exact hne
                  have HNEq := hide hne
                  clear hkp hne
                  go_wp2_with fail
                  go_meet
                  rw [unhide HIF]
                  exact ⟨unhide HR8, Touch.refl _ _, fun _ => unhide HNEq⟩
                · have en : (num == (lgAt sg k).first + (rn : Int)) = false := by rw [beq_eq_false_iff_ne]; exact hne
                  have hc : lgCode sg k (lgAt sg k) = 3 := by
                    rw [unhide HCODE, if_neg (fun h => h (unhide H4)), if_pos ⟨hkp, by rw [← unhide HNM, ← unhide HRN0]; exact hne⟩]
                  have HDB := hide ((unhide HGO).bad hlt (by rw [hc]; decide))
                  rw [hc] at HDB
                  clear hc hkp hne
                  have l0 := (unhide HR8).box.cell 0 rfl
                  have l1 := (unhide HR8).box.cell 1 rfl
                  have l2 := (unhide HR8).box.cell 2 rfl
                  have l3 := (unhide HR8).box.cell 3 rfl
                  have r0 := (unhide HRB8).cell 0 rfl
                  have r1 := (unhide HRB8).cell 1 rfl
                  have r2 := (unhide HRB8).cell 2 rfl
                  have r3 := (unhide HRB8).cell 3 rfl
                  have f0 := (unhide HRB8).fro 0
                  have f1 := (unhide HRB8).fro 1
                  have f2 := (unhide HRB8).fro 2
                  have f3 := (unhide HRB8).fro 3
                  have RT := hide (sp_ret (unhide HR8) (unhide HRB8) (unhide HWB0) (by omega))
                  go_wp2_with fail
                  generalize (((w8.setCell ⟨w.heap.size + 1, 0, none⟩ (.int .i64 ((lgAt sg k)).first)).setCell ⟨w.heap.size + 1, 1, none⟩ (.slice ra rn rc)).setCell ⟨w.heap.size + 1, 2, none⟩ (.slice na nn nc)).setCell ⟨w.heap.size + 1, 3, none⟩ (.int .i64 ((lgAt sg k)).torn) = wf at *
                  have z0 := (unhide RT).1.cell 0 rfl
                  have z1 := (unhide RT).1.cell 1 rfl
                  have z2 := (unhide RT).1.cell 2 rfl
                  have z3 := (unhide RT).1.cell 3 rfl
                  refine bodyPost_ret (v := .tuple #[.agg #[.int .i64 ((lgAt sg k)).first, (.slice ra rn rc), (.slice na nn nc), .int .i64 ((lgAt sg k)).torn], .int .i64 3]) (by simp [results, Tryz.results49, go_sem, z0, z1, z2, z3]) rfl ?_
                  rw [unhide HSGE, unhide HDB]
                  exact ⟨_, _, _, _, _, _, _, _, rfl, fun h => absurd h (by decide), (unhide RT).2.2⟩
            case rest =>
              obtain ⟨hR9, hT9, hEQ⟩ := hcut
              have HEQ := hide hEQ
              obtain ⟨M, hM⟩ : ∃ M : Lg, M = ⟨if k = 0 then num else (lgAt sg k).first, (lgAt sg k).recs, (lgAt sg k).names, (lgAt sg k).torn⟩ := ⟨_, rfl⟩
              rw [← hM] at hR9
              have HMN : Hid (M.names.length ≤ 8) := hide (by rw [hM]; show (lgAt sg k).names.length ≤ 8; rw [unhide HNL]; omega)
              have HMR : Hid (M.recs.length = rn) := hide (by rw [hM]; exact (unhide HRN0).symm)
              have HNX : Hid (lgGood sg (k + 1) ∧ lgAt sg (k + 1) = ⟨M.first, M.recs ++ ((frF ⟨fn, fd, fs⟩).1.drop 1).map strOfNums, M.names ++ [fn], (fd.size : Int) - (wh : Int)⟩ ∧ 0 ≤ (lgAt sg (k + 1)).first ∧ (lgAt sg (k + 1)).first < 4294967296) := by
                have hc : lgCode sg k (lgAt sg k) = 0 := by
                  rw [unhide HCODE, if_neg (fun h => h (unhide H4)), if_neg (fun h => h.2 (by rw [← unhide HNM, ← unhide HRN0]; exact unhide HEQ h.1))]
                have hq : lgAt sg (k + 1) = ⟨M.first, M.recs ++ ((frF ⟨fn, fd, fs⟩).1.drop 1).map strOfNums, M.names ++ [fn], (fd.size : Int) - (wh : Int)⟩ := by
                  show lgNext sg k (lgAt sg k) = _
                  rw [unhide HNEXT, ← unhide HNM, hM]
                rw [hq]
                refine hide ⟨(unhide HGO).next hlt hc, rfl, ?_⟩
                rw [hM]
                show 0 ≤ (if k = 0 then num else (lgAt sg k).first) ∧ (if k = 0 then num else (lgAt sg k).first) < 4294967296
                split
                · exact hnm2
                · exact unhide HBF
              have HR9 := hide hR9
              have HO9 := hide ((unhide HO8).kept hT9 (fun j hj e => by have := unhide HDN j hj; omega))
              have hcl9 := (hT9.cell (p := ⟨g, k, none⟩) (by simp; omega) (fun e => (unhide HR8).lne g rfl e)).trans hcl8
              have hz9 := hT9.size
              clear hR9 hT9 hEQ hM HR8 HRB8 HO8 hcl8
              generalize wc = w9 at *
              go_wp2_with fail
              go_cut [125] (fun s wx => ∃ ga gn gc, SpR (w.heap.size + 2) lb w1 (.slice (some ⟨g, 0, none⟩) sg.length lc) (numsP l) ⟨(M).first, (M).recs, (M).names ++ [fn], (M).torn⟩ (.slice ra rn rc) (.slice ga gn gc) wx ∧ Touch (fun k => (Value.slice na nn nc).ownBlock = some k ∨ k = lb) w9 wx)
              case first =>
                have hbd := below_drewN (Below.refl w9.heap.size w9) 1
                have HRd := hide ((unhide HR9).below hbd)
                have l2 := (unhide HR9).box.cell 2 rfl
                have hnl : (M).names.length ≤ 8 := unhide HMN
                obtain ⟨i0', hi, hz0', hz1', hz2'⟩ := info_parts infoS
                clear hbd
                go_region_law (first
                  | (refine step_append_lies _ (by rfl) _ _ _ (by rfl) (w.heap.size + 2) 9 i0' _ 1 16 Tryz.underlying43 hi hz0' hz1' hz2' rfl (by omega) (.slice na nn nc) (M).names.length ((M).names.map Value.string) (by rfl) (hR6.nam.below ((Below.refl w6.heap.size w6).alloc (Nat.le_refl _) (.cells #[.string fn] 9))) ⟨w6.heap.size, 0, none⟩ 1 1 [_] (by rfl) (by rfl) (World.news_of_block (cs := #[_]) (t := 9) (fr := (0, 0)) (heap_alloc_new w6 _)) (by simp [Value.oneCell']) (by omega) (by unfold maxLen; omega) (by omega) (by have := hR6.lw; have := hR6.bel.size; simp; omega) (w6.heap.size + 1) (by simp) ?_; intro gg capg w7 hown7 hgrow7 hat7 hlt7; have P7 := hR6.named hown7 hgrow7 hat7; have hc7 := P7.1; have hf7 := P7.2.1)
                  | (go_simp; go_at_call 36; refine (unhide HNAME _).mono ?_; rintro e w6 ⟨rfl, hb6⟩; have hR6 := (unhide HRd).below hb6; have l2b := hR6.box.cell 2 rfl; have l2c := (((Below.refl w6.heap.size w6).alloc (Nat.le_refl _) (.cells #[.string fn] 9)).cell (p := ⟨lb, 2, none⟩) hR6.box.1).trans l2b; go_simp))
                all_goals
                  go_wp2_with fail
                  go_meet
                  exact ⟨_, _, _, P7.2.2.1, touch_after hb6 P7.2.2.2⟩
              case rest =>
                obtain ⟨ga, gn, gc, hRn, hTn⟩ := hcut
                have HO10 := hide ((unhide HO9).kept hTn (fun j hj e => by
                  have h1 := unhide HDN j hj
                  rcases e with e | e
                  · have := unhide HNBs j e; omega
                  · omega))
                have HRn := hide hRn
                clear hRn hTn HR9 HO9
                generalize wc = w10 at *
                have hdc : fl ≤ dc ∧ dc ≤ maxLen := by
                  rcases own_shape (unhide HO10) with ⟨h, _⟩ | ⟨dg', c, h, _, _, hn, hm⟩
                  · obtain ⟨_, h2, _⟩ := Value.slice.inj h
                    omega
                  · obtain ⟨_, _, h3⟩ := Value.slice.inj h
                    rw [List.length_map, ← unhide HFL] at hn
                    omega
                have htl : (((frF ⟨fn, fd, fs⟩).1.drop 1).map strOfNums).length = fl - 1 := by rw [List.length_map, List.length_drop, ← unhide HFL]
                have HRW : Hid (∀ wx, OwnS w3.heap.size wx (.slice (some ⟨dg, 0, none⟩) fl dc) ((frF ⟨fn, fd, fs⟩).1.map strOfNums) → ∀ j u, (((frF ⟨fn, fd, fs⟩).1.drop 1).map strOfNums |>.map Value.string)[j]? = some u → wx.cell? ⟨dg, 1 + j, none⟩ = some u) := hide (fun wx ho j u hu => by
                  have hj : j < fl - 1 := by
                    rcases Nat.lt_or_ge j (fl - 1) with h | h
                    · exact h
                    · rw [List.getElem?_eq_none (by rw [List.length_map, htl]; exact h)] at hu; cases hu
                  have h1 := ho.cell (1 + j) (by rw [List.length_map, ← unhide HFL]; omega)
                  rw [h1, ← hu]
                  rw [List.getElem?_map, List.getElem?_map, List.getElem?_drop, List.getD_eq_getElem?_getD, List.getElem?_map]
                  have hj2 : 1 + j < (frF ⟨fn, fd, fs⟩).1.length := by rw [← unhide HFL]; omega
                  rw [List.getElem?_eq_getElem hj2]; rfl)
                generalize ((frF ⟨fn, fd, fs⟩).1.drop 1).map strOfNums = ts at *
                have HTL := hide htl
                clear htl
                have q1 : (1 : Int) ≤ (fl : Int) := by omega
                have q2 : (fl : Int) ≤ (dc : Int) := by omega
                have q3 : dc ≤ 9223372036854775807 := by have := hdc.2; unfold maxLen at this; omega
                go_wp2_with fail
                go_cut [131] (fun s wx => ∃ xa xn xc, SpR (w.heap.size + 2) lb w1 (.slice (some ⟨g, 0, none⟩) sg.length lc) (numsP l) ⟨M.first, M.recs ++ ts, M.names ++ [fn], M.torn⟩ (.slice xa xn xc) (.slice ga gn gc) wx)
                case first =>
                  have hbd := below_drewN (Below.refl w10.heap.size w10) 1
                  have HRd := hide ((unhide HRn).below hbd)
                  have HOd := hide ((unhide HO10).below hbd)
                  have l1 := (unhide HRn).box.cell 1 rfl
                  obtain ⟨i0', hi, hz0', hz1', hz2'⟩ := info_parts infoS
                  have hml : M.recs.length + ts.length ≤ 30000 := by rw [unhide HMR, unhide HTL]; omega
                  clear hbd
                  rcases Nat.eq_or_lt_of_le (show 1 ≤ dc by omega) with hd1 | hd1
                  · have hf1 : fl = 1 := by omega
                    have HT0 := hide (show ts.length = 0 by rw [unhide HTL]; omega)
                    subst hf1
                    obtain rfl : dc = 1 := hd1.symm
                    go_region_law (refine step_append_row (by rfl) _ _ _ (by rfl) (w.heap.size + 2) 9 i0' _ 1 16 Tryz.underlying43 hi hz0' hz1' hz2' rfl (by omega) (.slice ra rn rc) M.recs.length (M.recs.map Value.string) (by rfl) (unhide HRd).rcs _ ts.length (ts.map Value.string) (by rfl) (by rw [unhide HT0]; exact ⟨_, _, rfl, .inl rfl⟩) (by simp) (by simp [Value.oneCell']) (by unfold maxLen; omega) (by omega) (Nat.le_trans (unhide HRd).lw (unhide HRd).bel.size) ?_; intro a7 c7 w7 hown7 hgrow7 hat7; have P7 := (unhide HRd).recorded hown7 hgrow7 hat7; have hc7 := P7.1; have hf7 := P7.2.1)
                    all_goals
                      go_wp2_with fail
                      go_meet
                      exact ⟨_, _, _, P7.2.2⟩
                  · have hdn : ¬ dc = 1 := by omega
                    go_region_law (refine step_append_row (by rfl) _ _ _ (by rfl) (w.heap.size + 2) 9 i0' _ 1 16 Tryz.underlying43 hi hz0' hz1' hz2' rfl (by omega) (.slice ra rn rc) M.recs.length (M.recs.map Value.string) (by rfl) (unhide HRd).rcs (.slice (some ⟨dg, 1, none⟩) (fl - 1) (dc - 1)) ts.length (ts.map Value.string) (by rfl) (by rw [unhide HTL]; exact ⟨_, _, rfl, .inr ⟨_, rfl, fun j u hu => by have := unhide HRW _ (unhide HOd) j u hu; rw [add_off]; exact this⟩⟩) (by simp) (by simp [Value.oneCell']) (by unfold maxLen; omega) (by omega) (Nat.le_trans (unhide HRd).lw (unhide HRd).bel.size) ?_; intro a7 c7 w7 hown7 hgrow7 hat7; have P7 := (unhide HRd).recorded hown7 hgrow7 hat7; have hc7 := P7.1; have hf7 := P7.2.1)
                    all_goals
                      go_wp2_with fail
                      go_meet
                      exact ⟨_, _, _, P7.2.2⟩
                case rest =>
                  obtain ⟨xa, xn, xc, hR11⟩ := hcut
                  have hw12 : IntKind.i64.wrap ((fd.size : Int) - (wh : Int)) = (fd.size : Int) - (wh : Int) := wrapSg _ (by omega) (by omega)
                  have l3 := hR11.box.cell 3 rfl
                  have f3x := hR11.box.fro 3
                  have HRF := hide (hR11.setTorn ((fd.size : Int) - (wh : Int)))
                  clear hR11
                  go_wp2_with fail
                  refine ⟨⟨k + 1, xa, xn, xc, ga, gn, gc, by omega, by go_num, (unhide HNX).1, ?_, (unhide HNX).2.2⟩, ?_⟩
                  · rw [(unhide HNX).2.1]; exact unhide HRF
                  · simp [intOf]; omega
    · obtain rfl : k = sg.length := by omega
      have HDB := hide ((unhide HGO).done (by omega))
      clear hR
      have l0 := (unhide HR).box.cell 0 rfl
      have l1 := (unhide HR).box.cell 1 rfl
      have l2 := (unhide HR).box.cell 2 rfl
      have l3 := (unhide HR).box.cell 3 rfl
      have r0 := (unhide HRB).cell 0 rfl
      have r1 := (unhide HRB).cell 1 rfl
      have r2 := (unhide HRB).cell 2 rfl
      have r3 := (unhide HRB).cell 3 rfl
      have f0 := (unhide HRB).fro 0
      have f1 := (unhide HRB).fro 1
      have f2 := (unhide HRB).fro 2
      have f3 := (unhide HRB).fro 3
      have RT := hide (sp_ret (unhide HR) (unhide HRB) (unhide HWB0) (by omega))
      go_wp2_with fail
      generalize (((wr.setCell ⟨w.heap.size + 1, 0, none⟩ (.int .i64 ((lgAt sg sg.length)).first)).setCell ⟨w.heap.size + 1, 1, none⟩ (.slice ra rn rc)).setCell ⟨w.heap.size + 1, 2, none⟩ (.slice na nn nc)).setCell ⟨w.heap.size + 1, 3, none⟩ (.int .i64 ((lgAt sg sg.length)).torn) = wf at *
      have z0 := (unhide RT).1.cell 0 rfl
      have z1 := (unhide RT).1.cell 1 rfl
      have z2 := (unhide RT).1.cell 2 rfl
      have z3 := (unhide RT).1.cell 3 rfl
      refine bodyPost_ret (v := .tuple #[.agg #[.int .i64 ((lgAt sg sg.length)).first, (.slice ra rn rc), (.slice na nn nc), .int .i64 ((lgAt sg sg.length)).torn], .int .i64 0]) (by simp [results, Tryz.results49, go_sem, z0, z1, z2, z3]) rfl ?_
      rw [unhide HSGE, unhide HDB]
      exact ⟨_, _, _, _, _, _, _, _, rfl, fun _ => ⟨rfl, rfl, (unhide RT).2.1.1, (unhide RT).2.1.2, (unhide HR).dis, ownS_form (unhide RT).2.1.1, ownS_form (unhide RT).2.1.2⟩, (unhide RT).2.2⟩
end Go.Proofs.YtfihhkhdigbmiaaGreatDoor
namespace Go.Proofs.YtfihhkhdigbmiaaGreatDoor
open Go.ChangeShapes Go.WideShapes Go.ChangeAt Go.RowKit
set_option linter.unusedVariables false
set_option linter.unusedSimpArgs false

/-- An answer of four cells laid into its block. -/
theorem wal_set {w w1 wz : World} {f t : Int} {ra na : Option Addr} {rn rc nn nc : Nat} {L : Lg} (hb : Below w.heap.size w wz) (hr : Blk wz (w.heap.size + 1) [.int .i64 0, .slice none 0 0, .slice none 0 0, .int .i64 0]) (hA : WalA (w.heap.size + 2) wz L (.slice ra rn rc) (.slice na nn nc)) :
    Blk ((((wz.setCell ⟨w.heap.size + 1, 0, none⟩ (.int .i64 f)).setCell ⟨w.heap.size + 1, 1, none⟩ (.slice ra rn rc)).setCell ⟨w.heap.size + 1, 2, none⟩ (.slice na nn nc)).setCell ⟨w.heap.size + 1, 3, none⟩ (.int .i64 t)) (w.heap.size + 1) [.int .i64 f, .slice ra rn rc, .slice na nn nc, .int .i64 t] ∧
    WalA (w.heap.size + 2) ((((wz.setCell ⟨w.heap.size + 1, 0, none⟩ (.int .i64 f)).setCell ⟨w.heap.size + 1, 1, none⟩ (.slice ra rn rc)).setCell ⟨w.heap.size + 1, 2, none⟩ (.slice na nn nc)).setCell ⟨w.heap.size + 1, 3, none⟩ (.int .i64 t)) L (.slice ra rn rc) (.slice na nn nc) ∧
    Below w.heap.size w ((((wz.setCell ⟨w.heap.size + 1, 0, none⟩ (.int .i64 f)).setCell ⟨w.heap.size + 1, 1, none⟩ (.slice ra rn rc)).setCell ⟨w.heap.size + 1, 2, none⟩ (.slice na nn nc)).setCell ⟨w.heap.size + 1, 3, none⟩ (.int .i64 t)) := by
  have T5 := (((((Touch.refl (fun k => k = w.heap.size + 1) wz).setCell ⟨w.heap.size + 1, 0, none⟩ (.int .i64 f) (fun _ => rfl)).setCell ⟨w.heap.size + 1, 1, none⟩ (.slice ra rn rc) (fun _ => rfl)).setCell ⟨w.heap.size + 1, 2, none⟩ (.slice na nn nc) (fun _ => rfl)).setCell ⟨w.heap.size + 1, 3, none⟩ (.int .i64 t) (fun _ => rfl))
  exact ⟨(((hr.set 0 (.int .i64 f) (by simp)).set 1 (.slice ra rn rc) (by simp)).set 2 (.slice na nn nc) (by simp)).set 3 (.int .i64 t) (by simp), hA.kept T5 (fun k hk => by omega), hb.trans (T5.below (B := w.heap.size) hb.size (fun k hk e => by omega))⟩

set_option maxRecDepth 100000 in
set_option maxHeartbeats 2000000 in
theorem specWalRead_any (room : Int) (v : Value) (l : List Fl) (w : World) (h : Fls w v l) (hs : Small l) :
    Calls Tryz.prog 26 #[.agg #[.int .i64 room, v]] w fun e w' => ∃ ra rn rc na nn nc, e = .returned (.tuple #[.agg #[.int .i64 (walOut room l).1.first, .slice ra rn rc, .slice na nn nc, .int .i64 (walOut room l).1.torn], .int .i64 (walOut room l).2]) ∧ WalA (w.heap.size + 2) w' (walOut room l).1 (.slice ra rn rc) (.slice na nn nc) ∧ Below w.heap.size w w' := by
  have HF := hide h
  have HS := hide hs
  obtain ⟨a, cap, rfl, hn, hm, hc⟩ := h
  clear hc hm hn hs
  have B0 := hide (((Below.refl w.heap.size w).alloc (Nat.le_refl _) (.cells #[.int .i64 room, .slice a l.length cap] 28)).alloc (by simp) (.cells #[.int .i64 0, .slice none 0 0, .slice none 0 0, .int .i64 0] 45))
  have X0 := hide ((Blk.new w #[.int .i64 room, .slice a l.length cap] 28 w.heap.size rfl).alloc (.cells #[.int .i64 0, .slice none 0 0, .slice none 0 0, .int .i64 0] 45))
  have R0 := hide (Blk.new (w.alloc (.cells #[.int .i64 room, .slice a l.length cap] 28)) #[.int .i64 0, .slice none 0 0, .slice none 0 0, .int .i64 0] 45 (w.heap.size + 1) (by simp))
  go_enter Tryz.func26, Tryz.ntmps26
  go_wp2_with fail
  generalize (w.alloc (.cells #[.int .i64 room, .slice a l.length cap] 28)).alloc (.cells #[.int .i64 0, .slice none 0 0, .slice none 0 0, .int .i64 0] 45) = w0 at *
  refine (specDiskOK_any room _ l w0 ((unhide HF).below (unhide B0)) (unhide HS)).mono ?_
  rintro e w1 ⟨rfl, hb1⟩
  have B1 := hide ((unhide B0).trans (hb1.mono (unhide B0).size))
  have X1 := hide ((unhide X0).below hb1)
  have R1 := hide ((unhide R0).below hb1)
  clear hb1 B0 X0 R0
  cases hd : diskB room l
  · have HW := hide (show walOut room l = (lg0, 1) by unfold walOut; rw [hd]; rfl)
    have W1 := hide (wal_set (w1 := w) (f := 0) (t := 0) (unhide B1) (unhide R1) (WalA.none _ _))
    have r0 := (unhide R1).cell 0 rfl
    have r1 := (unhide R1).cell 1 rfl
    have r2 := (unhide R1).cell 2 rfl
    have r3 := (unhide R1).cell 3 rfl
    have f0 := (unhide R1).fro 0
    have f1 := (unhide R1).fro 1
    have f2 := (unhide R1).fro 2
    have f3 := (unhide R1).fro 3
    go_wp2_with fail
    generalize (((w1.setCell ⟨w.heap.size + 1, 0, none⟩ (.int .i64 0)).setCell ⟨w.heap.size + 1, 1, none⟩ (.slice none 0 0)).setCell ⟨w.heap.size + 1, 2, none⟩ (.slice none 0 0)).setCell ⟨w.heap.size + 1, 3, none⟩ (.int .i64 0) = wf at *
    have z0 := (unhide W1).1.cell 0 rfl
    have z1 := (unhide W1).1.cell 1 rfl
    have z2 := (unhide W1).1.cell 2 rfl
    have z3 := (unhide W1).1.cell 3 rfl
    refine bodyPost_ret (v := .tuple #[.agg #[.int .i64 0, .slice none 0 0, .slice none 0 0, .int .i64 0], .int .i64 1]) (by simp [results, Tryz.results26, go_sem, z0, z1, z2, z3]) rfl ?_
    rw [unhide HW]
    exact ⟨_, _, _, _, _, _, rfl, (unhide W1).2.1, (unhide W1).2.2⟩
  have HW := hide (show walOut room l = lgRun (segsP l) 0 by unfold walOut; rw [hd]; rfl)
  have x0 := (unhide X1).cell 0 rfl
  have x1 := (unhide X1).cell 1 rfl
  have hz1 := (unhide R1).1
  go_wp2_with fail
  refine (l04Read_any room _ l w1 ((unhide HF).below (unhide B1)) hd (unhide HS)).mono ?_
  rintro e w2 ⟨f, ra, rn, rc, na, nn, nc, t, rfl, hgood, hb2⟩
  have AA := (Below.refl w2.heap.size w2).alloc (Nat.le_refl _) (.cells #[.int .i64 f, .slice ra rn rc, .slice na nn nc, .int .i64 t] 45)
  have B3 := hide (((unhide B1).trans (hb2.mono (unhide B1).size)).trans (AA.mono (Nat.le_trans (unhide B1).size hb2.size)))
  have R3 := hide (((unhide R1).below hb2).below AA)
  have Y3 := hide (Blk.new w2 #[.int .i64 f, .slice ra rn rc, .slice na nn nc, .int .i64 t] 45 w2.heap.size rfl)
  have HG : Hid ((lgRun (segsP l) 0).2 = 0 → f = (lgRun (segsP l) 0).1.first ∧ t = (lgRun (segsP l) 0).1.torn ∧ WalA (w.heap.size + 2) (w2.alloc (.cells #[.int .i64 f, .slice ra rn rc, .slice na nn nc, .int .i64 t] 45)) (lgRun (segsP l) 0).1 (.slice ra rn rc) (.slice na nn nc)) := hide (fun h0 => ⟨(hgood h0).1, (hgood h0).2.1, ((hgood h0).2.2.below AA).mono (by omega)⟩)
  have HBAD := hide (lgRun_bad (segsP l) _ 0 rfl)
  have r0 := (unhide R3).cell 0 rfl
  have r1 := (unhide R3).cell 1 rfl
  have r2 := (unhide R3).cell 2 rfl
  have r3 := (unhide R3).cell 3 rfl
  have f0 := (unhide R3).fro 0
  have f1 := (unhide R3).fro 1
  have f2 := (unhide R3).fro 2
  have f3 := (unhide R3).fro 3
  clear hgood hb2 AA B1 X1 R1 x0 x1 hd
  generalize lgRun (segsP l) 0 = out at *
  obtain ⟨L, cd⟩ := out
  dsimp only at HG HBAD ⊢
  go_upto_region 4 with fail
  generalize w2.alloc (.cells #[.int .i64 f, .slice ra rn rc, .slice na nn nc, .int .i64 t] 45) = w3 at *
  generalize w2.heap.size = yb at *
  by_cases hc0 : cd = 0
  · obtain ⟨hf, ht, hA⟩ := unhide HG hc0
    have y0 := (unhide Y3).cell 0 rfl
    have y1 := (unhide Y3).cell 1 rfl
    have y2 := (unhide Y3).cell 2 rfl
    have y3 := (unhide Y3).cell 3 rfl
    have W1 := hide (wal_set (w1 := w) (f := f) (t := t) (unhide B3) (unhide R3) hA)
    have HFT := hide (And.intro hf ht)
    clear hf ht hA HG HBAD
    subst hc0
    go_wp2_with fail
    generalize (((w3.setCell ⟨w.heap.size + 1, 0, none⟩ (.int .i64 f)).setCell ⟨w.heap.size + 1, 1, none⟩ (.slice ra rn rc)).setCell ⟨w.heap.size + 1, 2, none⟩ (.slice na nn nc)).setCell ⟨w.heap.size + 1, 3, none⟩ (.int .i64 t) = wf at *
    have z0 := (unhide W1).1.cell 0 rfl
    have z1 := (unhide W1).1.cell 1 rfl
    have z2 := (unhide W1).1.cell 2 rfl
    have z3 := (unhide W1).1.cell 3 rfl
    refine bodyPost_ret (v := .tuple #[.agg #[.int .i64 f, .slice ra rn rc, .slice na nn nc, .int .i64 t], .int .i64 0]) (by simp [results, Tryz.results26, go_sem, z0, z1, z2, z3]) rfl ?_
    rw [unhide HW]
    refine ⟨_, _, _, _, _, _, ?_, (unhide W1).2.1, (unhide W1).2.2⟩
    rw [(unhide HFT).1, (unhide HFT).2]
  · have HL : Hid ((L, cd) = (lg0, cd)) := hide (unhide HBAD hc0)
    have hcb : (cd == 0) = false := by rw [beq_eq_false_iff_ne]; exact hc0
    have W1 := hide (wal_set (w1 := w) (f := 0) (t := 0) (unhide B3) (unhide R3) (WalA.none _ _))
    clear HG HBAD hc0
    go_wp2_with fail
    generalize (((w3.setCell ⟨w.heap.size + 1, 0, none⟩ (.int .i64 0)).setCell ⟨w.heap.size + 1, 1, none⟩ (.slice none 0 0)).setCell ⟨w.heap.size + 1, 2, none⟩ (.slice none 0 0)).setCell ⟨w.heap.size + 1, 3, none⟩ (.int .i64 0) = wf at *
    have z0 := (unhide W1).1.cell 0 rfl
    have z1 := (unhide W1).1.cell 1 rfl
    have z2 := (unhide W1).1.cell 2 rfl
    have z3 := (unhide W1).1.cell 3 rfl
    refine bodyPost_ret (v := .tuple #[.agg #[.int .i64 0, .slice none 0 0, .slice none 0 0, .int .i64 0], .int .i64 cd]) (by simp [results, Tryz.results26, go_sem, z0, z1, z2, z3]) rfl ?_
    rw [unhide HW, unhide HL]
    exact ⟨_, _, _, _, _, _, rfl, (unhide W1).2.1, (unhide W1).2.2⟩
end Go.Proofs.YtfihhkhdigbmiaaGreatDoor
namespace Go.Proofs.YtfihhkhdigbmiaaGreatDoor
open Go.ChangeShapes Go.WideShapes Go.ChangeAt Go.RowKit Go.Maps Go.Sort
set_option linter.unusedVariables false
set_option linter.unusedSimpArgs false

theorem seg_of (l : List Fl) (k : Nat) (hk : k < (segsP l).length) : (segsP l).getD k default ∈ l ∧ 0 < plcP ((segsP l).getD k default).n := by
  have := seg_in l 0 k (Nat.zero_le _) hk
  rwa [dropL_zero] at this
/-- A round: segment k is there, and so is the next one. -/
theorem wf_round {l : List Fl} (hok : OkL l) (hd : ∀ f ∈ l, f.d.size ≤ 3000) (k : Nat) (hk : k + 1 < (segsP l).length) :
    (∃ A B, dropL k l = A ++ (segsP l).getD k default :: B ∧ dropL (k + 1) l = A ++ B) ∧ Ris (dropL k l) ∧ (dropL k l).length ≤ 8 ∧ (dropL (k + 1) l).length ≤ 8 ∧
    (∃ i0, i0 < (dropL k l).length ∧ (dropL k l).getD i0 default = (segsP l).getD (k + 1) default ∧ ∀ j, j < i0 → ((dropL k l).getD j default).n ≠ ((segsP l).getD (k + 1) default).n) ∧
    0 < plcP ((segsP l).getD k default).n ∧ 0 < plcP ((segsP l).getD (k + 1) default).n ∧ ((segsP l).getD k default).d.size ≤ 3000 ∧ ((segsP l).getD (k + 1) default).d.size ≤ 3000 ∧
    (numsP l).getD k 0 = plcP ((segsP l).getD k default).n ∧ (numsP l).getD (k + 1) 0 = plcP ((segsP l).getD (k + 1) default).n := by
  have h1 := seg_of l k (by omega)
  have h2 := seg_of l (k + 1) hk
  have hr := ris_sub (dropL_sub l k) hok.ris
  have h3 := seg_in l k (k + 1) (by omega) hk
  exact ⟨dropL_cut l k (by omega), hr, Nat.le_trans (dropL_sub l k).length_le hok.len, Nat.le_trans (dropL_sub l (k + 1)).length_le hok.len, ris_at hr h3.1, h1.2, h2.2, hd _ h1.1, hd _ h2.1, nums_get l k (by omega), nums_get l (k + 1) hk⟩
/-- Files that can be read, apart from the boxes q and q + 1. -/
def FlsX (q : Nat) (w : World) (a : Option Addr) (cap : Nat) (l : List Fl) : Prop :=
  Fls w (.slice a l.length cap) l ∧ (l.length = 0 ∨ ∃ b off, a = some ⟨b, off, none⟩ ∧ (b < q ∨ q + 2 ≤ b))
theorem FlsX.kept {T : Nat → Prop} {q : Nat} {w w' : World} {a : Option Addr} {cap : Nat} {l : List Fl} (h : FlsX q w a cap l) (ht : Touch T w w') (hT : ∀ j, T j → j = q ∨ j = q + 1) : FlsX q w' a cap l := by
  obtain ⟨⟨a', cap', hv, hn, hm, hc⟩, h2⟩ := h
  obtain ⟨rfl, _, rfl⟩ := Value.slice.inj hv
  refine ⟨⟨_, _, rfl, hn, hm, ?_⟩, h2⟩
  rcases hc with h0 | ⟨b, off, ha, hlt, hc⟩
  · exact .inl h0
  · rcases h2 with h0 | ⟨b2, off2, ha2, hb2⟩
    · exact .inl h0
    · obtain ⟨rfl, rfl⟩ : b = b2 ∧ off = off2 := by rw [ha] at ha2; simpa using ha2
      have hnb : ¬ T b := fun e => by have := hT b e; omega
      exact .inr ⟨b, off, ha, Nat.lt_of_lt_of_le hlt ht.size, fun i hi => ⟨(ht.cell (p := ⟨b, off + i * 3, none⟩) hlt hnb).trans (hc i hi).1, (ht.cell (p := ⟨b, off + i * 3 + 1, none⟩) hlt hnb).trans (hc i hi).2.1, (ht.cell (p := ⟨b, off + i * 3 + 2, none⟩) hlt hnb).trans (hc i hi).2.2⟩⟩
theorem FlsX.own {q B : Nat} {w : World} {a : Option Addr} {cap : Nat} {l : List Fl} (h : OwnF B w (.slice a l.length cap) l) (hB : q + 2 ≤ B) : FlsX q w a cap l := by
  refine ⟨h.fls, ?_⟩
  rcases own_shape h with ⟨hv, h0⟩ | ⟨g, c, hv, hb, _⟩
  · exact .inl h0
  · obtain ⟨ha, _, _⟩ := Value.slice.inj hv
    exact .inr ⟨g, 0, ha, .inr (by omega)⟩
/-- What is carried on: the disk's box, the result's, the files, the segments' numbers. -/
structure Wf (w : World) (room : Int) (l : List Fl) (nv : Value) (k : Nat) (sa : Option Addr) (sc : Nat) (wr : World) : Prop where
  b : Below w.heap.size w wr
  x : Blk wr w.heap.size [.int .i64 room, .slice sa (dropL k l).length sc]
  y : Blk wr (w.heap.size + 1) [.int .i64 0, .slice none 0 0]
  f : FlsX w.heap.size wr sa sc (dropL k l)
  n : OwnN (w.heap.size + 2) wr nv (numsP l)
theorem Wf.below {w : World} {room : Int} {l : List Fl} {nv : Value} {k : Nat} {sa : Option Addr} {sc : Nat} {wr w' : World} (h : Wf w room l nv k sa sc wr) (hb : Below wr.heap.size wr w') : Wf w room l nv k sa sc w' :=
  ⟨h.b.trans (hb.mono h.b.size), h.x.below hb, h.y.below hb, h.f.kept (T := fun _ => False) (Touch.ofBelow hb) (fun _ h => h.elim), h.n.below hb⟩
theorem Wf.step {w : World} {room : Int} {l : List Fl} {nv : Value} {k : Nat} {sa sb : Option Addr} {sc c B : Nat} {wx : World} (h : Wf w room l nv k sa sc wx) (hO : OwnF B wx (.slice sb (dropL (k + 1) l).length c) (dropL (k + 1) l)) (hB : w.heap.size + 2 ≤ B) :
    Wf w room l nv (k + 1) sb c ((wx.setCell ⟨w.heap.size, 0, none⟩ (.int .i64 room)).setCell ⟨w.heap.size, 1, none⟩ (.slice sb (dropL (k + 1) l).length c)) := by
  have hT := ((Touch.refl (fun q => q = w.heap.size) wx).setCell ⟨w.heap.size, 0, none⟩ (.int .i64 room) (fun _ => rfl)).setCell ⟨w.heap.size, 1, none⟩ (.slice sb (dropL (k + 1) l).length c) (fun _ => rfl)
  exact ⟨h.b.trans (hT.below h.b.size (fun j hj e => by omega)), (h.x.set 0 (.int .i64 room) (by simp)).set 1 _ (by simp), h.y.kept hT (by omega), (FlsX.own hO hB).kept hT (fun j hj => .inl hj), own_kept h.n hT (fun j hj e => by have := (World.ownsRow.lt h.n j hj).1; omega)⟩
theorem Wf.fin {w : World} {room : Int} {l : List Fl} {nv : Value} {k : Nat} {sa : Option Addr} {sc : Nat} {wx : World} (h : Wf w room l nv k sa sc wx) :
    Blk ((wx.setCell ⟨w.heap.size + 1, 0, none⟩ (.int .i64 room)).setCell ⟨w.heap.size + 1, 1, none⟩ (.slice sa (dropL k l).length sc)) (w.heap.size + 1) [.int .i64 room, .slice sa (dropL k l).length sc] ∧
    Fls ((wx.setCell ⟨w.heap.size + 1, 0, none⟩ (.int .i64 room)).setCell ⟨w.heap.size + 1, 1, none⟩ (.slice sa (dropL k l).length sc)) (.slice sa (dropL k l).length sc) (dropL k l) ∧
    Below w.heap.size w ((wx.setCell ⟨w.heap.size + 1, 0, none⟩ (.int .i64 room)).setCell ⟨w.heap.size + 1, 1, none⟩ (.slice sa (dropL k l).length sc)) := by
  have hT := ((Touch.refl (fun q => q = w.heap.size + 1) wx).setCell ⟨w.heap.size + 1, 0, none⟩ (.int .i64 room) (fun _ => rfl)).setCell ⟨w.heap.size + 1, 1, none⟩ (.slice sa (dropL k l).length sc) (fun _ => rfl)
  exact ⟨(h.y.set 0 (.int .i64 room) (by simp)).set 1 _ (by simp), (h.f.kept hT (fun j hj => .inr hj)).1, h.b.trans (hT.below h.b.size (fun j hj e => by omega))⟩
end Go.Proofs.YtfihhkhdigbmiaaGreatDoor
namespace Go.Proofs.YtfihhkhdigbmiaaGreatDoor
open Go.ChangeShapes Go.WideShapes Go.ChangeAt Go.RowKit Go.Maps Go.Sort
set_option linter.unusedVariables false
set_option linter.unusedSimpArgs false

set_option maxRecDepth 100000 in
set_option maxHeartbeats 16000000 in
theorem l04Forget_any (room below : Int) (v : Value) (l : List Fl) (w : World) (hL : Fls w v l) (hok : OkL l) (hz : ∀ i, i < l.length → (l.getD i default).n.size ≤ 1048576) (hd : ∀ f ∈ l, f.d.size ≤ 3000) (hh : ∀ i, i < (segsP l).length → (frF ((segsP l).getD i default)).1 = [] ∨ ((frF ((segsP l).getD i default)).1.getD 0 []).length = 4) :
    Calls Tryz.prog 27 #[.agg #[.int .i64 room, v], .int .i64 below] w fun e w' => ∃ a c, e = .returned (.agg #[.int .i64 room, .slice a (dropL (fgN (segsP l) below 0) l).length c]) ∧ Fls w' (.slice a (dropL (fgN (segsP l) below 0) l).length c) (dropL (fgN (segsP l) below 0) l) ∧ Below w.heap.size w w' := by
  have HL := hide (fun wx (hx : Below w.heap.size w wx) => hL.below hx)
  have hlx := hL
  obtain ⟨a, cap, rfl, hn, hm, hc⟩ := hL
  have hFX : FlsX w.heap.size w a cap l := ⟨hlx, by
    rcases hc with h0 | ⟨b, off, ha, hb, _⟩
    · exact .inl h0
    · exact .inr ⟨b, off, ha, .inl hb⟩⟩
  have HSG := hide (fun wx (hx : Below w.heap.size w wx) => l04Segments_any room (.slice a l.length cap) l wx (unhide HL wx hx) hok.len hz)
  have B0 := hide (((Below.refl w.heap.size w).alloc (Nat.le_refl _) (.cells #[.int .i64 room, .slice a l.length cap] 28)).alloc (by simp) (.cells #[.int .i64 0, .slice none 0 0] 28))
  have X0 := hide ((Blk.new w #[.int .i64 room, .slice a l.length cap] 28 w.heap.size rfl).alloc (.cells #[.int .i64 0, .slice none 0 0] 28))
  have D0 := hide (Blk.new (w.alloc (.cells #[.int .i64 room, .slice a l.length cap] 28)) #[.int .i64 0, .slice none 0 0] 28 (w.heap.size + 1) (by simp))
  have F0 := hide (hFX.kept (T := fun _ => False) (Touch.ofBelow (unhide B0)) (fun _ h => h.elim))
  have hw0z : ((w.alloc (.cells #[.int .i64 room, .slice a l.length cap] 28)).alloc (.cells #[.int .i64 0, .slice none 0 0] 28)).heap.size = w.heap.size + 2 := by simp
  have HRD := hide (fun k (hk : k + 1 < (segsP l).length) => wf_round hok hd k hk)
  have HH := hide hh
  have hsl : (segsP l).length ≤ 8 := segs_len l hok.len
  have hnl : (numsP l).length = (segsP l).length := nums_len l
  obtain ⟨so, hso⟩ : ∃ so, so = dropL (fgN (segsP l) below 0) l := ⟨_, rfl⟩
  have HSO := hide hso
  rw [← hso]
  clear hlx hn hm hc hFX hok hz hd hh hso HL
  go_enter Tryz.func27, Tryz.ntmps27
  go_upto_region 1 with fail
  generalize (w.alloc (.cells #[.int .i64 room, .slice a l.length cap] 28)).alloc (.cells #[.int .i64 0, .slice none 0 0] 28) = w0 at *
  obtain ⟨⟨x0, x1⟩, _⟩ := Blk.c2 (unhide X0)
  go_wp2_with fail
  refine (unhide HSG _ (unhide B0)).mono ?_
  rintro e w1 ⟨nv, rfl, hN1, hb1⟩
  rw [hw0z] at hN1
  have W1 := hide (show Wf w room l nv 0 a cap w1 from by
    have hd0 : dropL 0 l = l := dropL_zero l
    refine ⟨(unhide B0).trans (hb1.mono (unhide B0).size), ?_, (unhide D0).below hb1, ?_, hN1⟩
    · rw [hd0]; exact (unhide X0).below hb1
    · rw [hd0]; exact (unhide F0).kept (T := fun _ => False) (Touch.ofBelow hb1) (fun _ h => h.elim))
  obtain ⟨na, nc, rfl⟩ : ∃ na nc, nv = .slice na (segsP l).length nc := by
    rw [← hnl]
    rcases own_shape hN1 with ⟨rfl, h0⟩ | ⟨g, c, rfl, _⟩
    · exact ⟨none, 0, by rw [h0]⟩
    · exact ⟨_, _, rfl⟩
  clear HSG hb1 hN1 B0 X0 D0 F0 x0 x1 hw0z
  generalize hsge : segsP l = sg at *
  clear hsge
  go_wp2_with fail
  go_loopw [6] (fun i wr => ∃ (k : Nat) (sa : Option Addr) (sc : Nat), i = .int .i64 k ∧ k ≤ sg.length ∧ fgN sg below 0 = fgN sg below k ∧ Wf w room l (.slice na sg.length nc) k sa sc wr) (fun i _ => sg.length - (intOf i).toNat)
  case atStart => exact ⟨0, a, cap, rfl, Nat.zero_le _, rfl, unhide W1⟩
  case round =>
    obtain ⟨k, sa, sc, rfl, hk, hN, hW⟩ := hrel
    have HN := hide hN
    have WW := hide hW
    clear hN hW W1
    have hwrp : IntKind.i64.wrap ((k : Int) + 1) = (k : Int) + 1 := wrapJ _ (by omega) (by omega)
    have hk0 : (0 : Int) ≤ (k : Int) := by omega
    have hm0 : (0 : Int) ≤ (k : Int) + 1 := by omega
    by_cases hlt : k + 1 < sg.length
    · obtain ⟨⟨A, B, hA1, hA2⟩, hri, hl8, hl9, ⟨i0, hi0, hfl, hno⟩, hp1, hp2, hs1, hs2, hn1, hn2⟩ := unhide HRD k hlt
      have hhd := unhide HH (k + 1) hlt
      have hk1 : (k : Int) < (sg.length : Int) := by omega
      have hm1 : (k : Int) + 1 < (sg.length : Int) := by omega
      obtain ⟨g, rfl⟩ : ∃ g, na = some ⟨g, 0, none⟩ := by
        rcases own_shape (unhide WW).n with ⟨h, _⟩ | ⟨g, c, h, _⟩
        · obtain ⟨_, h2, _⟩ := Value.slice.inj h; omega
        · obtain ⟨h1, _, _⟩ := Value.slice.inj h; exact ⟨g, h1⟩
      have hcl := OwnN.cell (unhide WW).n k (by rw [hnl]; omega)
      have hcl2 := OwnN.cell (unhide WW).n (k + 1) (by rw [hnl]; omega)
      have hgg := World.ownsRow.lt (unhide WW).n g rfl
      rw [hn1] at hcl
      rw [hn2] at hcl2
      have HGQ : Hid (w.heap.size + 2 ≤ g) := hide hgg.1
      have hpr1 := plc_range (sg.getD k default).n
      have hpr2 := plc_range (sg.getD (k + 1) default).n
      have HNM := hide (fun wx => l04Name_any (plcP (sg.getD k default).n) wx hpr1.1 hpr1.2)
      rw [segN_plc hp1] at HNM
      have HDT := hide (fun (p : Wb wr) => l04Data_any room (.slice sa (dropL k l).length sc) (dropL k l) (plcP (sg.getD (k + 1) default).n) i0 p.at_ (((unhide WW).below p.below).f.1) hi0 (by omega) hpr2.1 hpr2.2 (by rw [hfl, segN_plc hp2]) (fun j hj => by rw [segN_plc hp2]; exact hno j hj))
      rw [hfl] at HDT
      have hsy := hhd
      obtain ⟨f1, hf1⟩ : ∃ f1, f1 = sg.getD k default := ⟨_, rfl⟩
      obtain ⟨f2, hf2⟩ : ∃ f2, f2 = sg.getD (k + 1) default := ⟨_, rfl⟩
      rw [← hf1] at hA1 hcl HNM hs1
      rw [← hf2] at hcl2 HDT hs2 hsy
      have hFG : Hid (fgB sg below k ↔ (frF f2).1 ≠ [] ∧ dec ((frF f2).1.getD 0 []) ≤ below) := hide (by unfold fgB; rw [hf2])
      clear hno hfl hp1 hp2 hn1 hn2 hpr1 hpr2 hf1 hf2 hhd hi0
      have HST := hide (fun wx (hx : Below wr.heap.size wr wx) => step_drop room (.slice sa (dropL k l).length sc) A B f1.n f1.d f1.s wx (by have h9 := ((unhide WW).below hx).f.1; rw [hA1] at h9 ⊢; exact h9) (by rw [hA1] at hri; exact hri) (by rw [hA1] at hl8; exact hl8) (by unfold maxLen; omega))
      rw [← hA2] at HST
      clear hA1 hA2 hri hs1
      generalize plcP f1.n = pn at *
      generalize plcP f2.n = pn2 at *
      obtain ⟨fn2, fd, fs2⟩ := f2
      generalize f1.n = fn at *
      dsimp only at HDT hs2
      have hfr := frF_range ⟨fn2, fd, fs2⟩ 0
      have hflen := frF_len ⟨fn2, fd, fs2⟩
      have HFE : Hid (frP (bytesI fd) 0 = frF ⟨fn2, fd, fs2⟩) := hide rfl
      obtain ⟨x0, x1⟩ := (Blk.c2 (unhide WW).x).1
      have zx := (unhide WW).x.1
      have zl := World.block_lt_of_cell? wr _ hcl
      dsimp only at zl
      have d0 := Wb.cell x0 zx
      have d1 := Wb.cell x1 zx
      have d2 := Wb.cell hcl2 zl
      have HCL := hide hcl
      clear hcl hcl2 x0 x1 hgg
      go_upto_region 5 with fail
      refine wp_region_wb (by kernel_rfl) (by kernel_rfl) ?_
      repeat (go_big_quiet_step ((go_at_call 50; exact wb_of (unhide HDT _))))
      refine wpQuiet_nil ?_
      intro w2 hw'
      obtain ⟨⟨wq, hb2⟩, hq⟩ := hw'
      change w2 = wq at hq
      subst hq
      have W2 := hide ((unhide WW).below hb2)
      have BB := hide hb2
      clear hb2 d0 d1 d2 HDT WW
      obtain ⟨cap3, w3, hcv, hRd3, hb3⟩ := str_bytes fd w2 (by unfold maxLen; omega)
      have HRd := hide hRd3
      have W3 := hide ((unhide W2).below hb3)
      replace BB := hide ((unhide BB).trans (hb3.mono (unhide BB).size))
      clear hRd3 hb3 W2
      go_wp2_with fail
      clear hcv
      refine (l02Frames_any _ _ (bytesI fd) w3 (unhide HRd) (by rw [bytesI_len2]; omega)).mono ?_
      rintro e w4 ⟨dv, rfl, hO4, hb4⟩
      rw [unhide HFE] at hO4 ⊢
      have W4 := hide ((unhide W3).below hb4)
      replace BB := hide ((unhide BB).trans (hb4.mono (unhide BB).size))
      have hds : (frF ⟨fn2, fd, fs2⟩).1.length ≤ 3000 := Nat.le_trans hflen hs2
      generalize ((frF ⟨fn2, fd, fs2⟩).2.1 : Int) = wh at *
      generalize (frF ⟨fn2, fd, fs2⟩).2.2 = bh at *
      obtain ⟨ds, hdse⟩ : ∃ ds, ds = (frF ⟨fn2, fd, fs2⟩).1 := ⟨_, rfl⟩
      rw [← hdse] at hO4 hds hfr hsy hFG
      obtain ⟨da, dc, rfl⟩ : ∃ da dc, dv = .slice da ds.length dc := by
        obtain ⟨a', c', h'⟩ := ownS_form hO4
        rw [List.length_map] at h'
        exact ⟨a', c', h'⟩
      have HO4 := hide hO4
      clear hb4 hO4 W3 HRd HFE hdse hflen
      cases ds with
      | nil =>
        have HE : Hid (fgN sg below k = k) := hide (fgN_stop (fun hx => ((unhide hFG).1 hx).1 rfl))
        clear hFG HO4 hfr hsy hds HST HNM HCL BB
        rw [List.length_nil]
        obtain ⟨⟨x0, x1⟩, _⟩ := Blk.c2 (unhide W4).x
        obtain ⟨⟨d0, d1⟩, g0, g1⟩ := Blk.c2 (unhide W4).y
        have FIN := hide (unhide W4).fin
        clear W4
        go_wp2_with fail
        obtain ⟨⟨z0, z1⟩, _⟩ := Blk.c2 (unhide FIN).1
        refine bodyPost_ret (v := .agg #[.int .i64 room, .slice sa (dropL k l).length sc]) (by simp [results, Tryz.results27, go_sem, z0, z1]) rfl ?_
        rw [unhide HSO, unhide HN, unhide HE]
        exact ⟨sa, sc, rfl, (unhide FIN).2.1, (unhide FIN).2.2⟩

      | cons d0 ds =>
        have h4 : d0.length = 4 := by
          rcases hsy with h | h
          · cases h
          · simpa using h
        have hr0 : ∀ i, 0 ≤ d0.getD i 0 ∧ d0.getD i 0 ≤ 255 := by simpa using hfr
        have HFB : Hid (fgB sg below k ↔ dec d0 ≤ below) := hide (by rw [unhide hFG]; simp)
        obtain ⟨gd, rfl⟩ : ∃ gd, da = some ⟨gd, 0, none⟩ := by
          rcases own_shape (unhide HO4) with ⟨h, _⟩ | ⟨g, c, h, _⟩
          · obtain ⟨_, h2, _⟩ := Value.slice.inj h; simp at h2
          · obtain ⟨h1, _, _⟩ := Value.slice.inj h; exact ⟨g, h1⟩
        have c0 : w4.cell? ⟨gd, 0, none⟩ = some (.string (strOfNums d0)) := (unhide HO4).cell 0 (by simp)
        have hz0 : (strOfNums d0).size = 4 := by unfold strOfNums; simp [h4, ByteArray.size]
        obtain ⟨cap6, w6, hcv, hRd6, hb6⟩ := str_bytes (strOfNums d0) w4 (by rw [hz0]; unfold maxLen; omega)
        have hbk : bytesI (strOfNums d0) = d0 := by
          have := bytes_back2 d0 hr0
          unfold bytesI
          exact this.symm
        rw [hbk] at hcv hRd6
        have HSR : Hid (SR (w6.alloc (.cells #[.slice (some ⟨w4.heap.size, 0, none⟩) d0.length cap6, .int .i64 0, .bool false] 91)) w6.heap.size (some ⟨w4.heap.size, 0, none⟩) cap6 d0 0 false) := hide (by
          have hB := Blk.new w6 #[.slice (some ⟨w4.heap.size, 0, none⟩) d0.length cap6, .int .i64 0, .bool false] 91 w6.heap.size rfl
          exact ⟨hB.cell 0 rfl, hB.cell 1 rfl, hB.cell 2 rfl, hB.2.2, hB.1, Nat.zero_le _, hRd6.kept (T := fun _ => False) (Nat.le_refl _) ((Touch.refl _ _).alloc _) (fun _ _ h => h), by omega⟩)
        have HB7 := hide (hb6.trans (((Below.refl w6.heap.size w6).alloc (Nat.le_refl _) (.cells #[.slice (some ⟨w4.heap.size, 0, none⟩) d0.length cap6, .int .i64 0, .bool false] 91)).mono hb6.size))
        have hz6 := hb6.size
        have hlp : (0 : Int) < ((ds.length + 1 : Nat) : Int) := by omega
        have hne : (((ds.length + 1 : Nat) : Int) == 0) = false := beq_eq_false_iff_ne.2 (by omega)
        have hne2 : ((ds.length : Int) + 1 == 0) = false := beq_eq_false_iff_ne.2 (by omega)
        have hlp2 : (0 : Int) < (ds.length : Int) + 1 := by omega
        rw [List.length_cons] at hds ⊢
        have H4 := hide h4
        clear hRd6 hb6 hbk hfr hsy hFG HO4 hz0 h4
        generalize ds.length = dl at *
        go_upto_region 9 with fail
        clear hcv c0
        generalize w6.alloc (.cells #[.slice (some ⟨w4.heap.size, 0, none⟩) d0.length cap6, .int .i64 0, .bool false] 91) = w7 at *
        generalize w6.heap.size = rb at *
        go_wp2_with fail
        refine (specNumber_any 4 4 rfl rb _ _ d0 0 w7 (unhide HSR) (by omega)).mono ?_
        rintro e w8 ⟨num, qq, bad, rfl, _, hyes, _, hT8, _⟩
        have hB8 := (unhide HB7).trans (hT8.below (B := w4.heap.size) (unhide HB7).size (fun k hk e => by omega))
        have HNUM : Hid (num = dec d0) := hide (by
          rw [(hyes (by have := unhide H4; omega)).1, List.drop_zero]
          unfold dec
          rw [unhide H4])
        have W8 := hide ((unhide W4).below hB8)
        replace BB := hide ((unhide BB).trans (hB8.mono (unhide BB).size))
        have HGO : Hid (num ≤ below → fgN sg below k = fgN sg below (k + 1)) := hide (fun hle => fgN_go hlt ((unhide HFB).2 (by rw [← unhide HNUM]; exact hle)))
        have HSTO : Hid (num > below → fgN sg below k = k) := hide (fun hle => fgN_stop (fun hx => absurd ((unhide HFB).1 hx) (by rw [← unhide HNUM]; omega)))
        clear hyes hT8 hB8 HB7 HSR W4 HNUM HFB H4 hr0 hlp hne hne2 hlp2
        by_cases hbel : num ≤ below
        · have hng : ¬ num > below := by omega
          have HGE := hide (unhide HGO hbel)
          clear HGO HSTO hbel
          go_upto_region 10 with fail
          have hd1 : Below w8.heap.size w8 w8.drew := below_drewN (Below.refl w8.heap.size w8) 1
          have BQ := hide ((unhide BB).trans (hd1.mono (unhide BB).size))
          have WW := hide ((unhide W8).below hd1)
          have CC := hide (((unhide BQ).cell (p := ⟨g, k, none⟩) zl).trans (unhide HCL))
          have hgl1 : g < w8.drew.heap.size := Nat.lt_of_lt_of_le zl (unhide BQ).size
          have HQZ : Hid (w.heap.size + 1 < wr.heap.size) := hide (by have := unhide HGQ; omega)
          clear hd1 BB W8 HCL
          refine wp_region_noPanic ?_
          refine wp_region_held_drew (S := (fun wx => wx.cell? ⟨g, k, none⟩ = some (.int .i64 pn))) (by kernel_rfl) ?_ (fun hHeld => ?_)
          · exact unhide CC
          generalize w8.drew = wd at *
          refine tkH 1 rfl ?_
          refine tkH 2 rfl ?_
          refine tkH 3 rfl ?_
          refine tkH 4 rfl ?_
          refine wpAnyH_ready (rs := [0, 5]) (by kernel_rfl) (by simp) ?_
          refine AllReadyH.cons (o := _) rfl (fun K hK => ?_) (AllReadyH.cons (o := _) rfl (fun K hK => ?_) AllReadyH.nil)
          · obtain ⟨⟨x0, x1⟩, _⟩ := Blk.c2 (unhide WW).x
            go_simp
            clear x0 x1
            refine hK.out _ _ ?_ (fun hHeld => ?_)
            · exact unhide CC
            clear hK K
            (try simp only [Act.put, List.getElem_toArray, List.getElem_cons_succ, List.getElem_cons_zero, List.setIfInBounds_toArray, List.set_cons_zero, List.set_cons_succ])
            refine wpAnyH_ready (rs := [5]) (by kernel_rfl) (by simp) ?_
            refine AllReadyH.cons (o := _) rfl (fun K hK => ?_) AllReadyH.nil
            go_simp
            refine (unhide HNM _).mono ?_
            rintro e wn ⟨rfl, hb⟩
            replace WW := hide ((unhide WW).below hb)
            replace CC := hide ((hb.cell (p := ⟨g, k, none⟩) hgl1).trans (unhide CC))
            replace BQ := hide ((unhide BQ).trans (hb.mono (unhide BQ).size))
            replace hgl1 := Nat.lt_of_lt_of_le hgl1 hb.size
            clear hb
            go_wp2_with fail
            refine hK.out _ _ ?_ (fun hHeld => ?_)
            · exact unhide CC
            clear hK K
            (try simp only [Act.put, List.getElem_toArray, List.getElem_cons_succ, List.getElem_cons_zero, List.setIfInBounds_toArray, List.set_cons_zero, List.set_cons_succ])
            refine tkH 6 rfl ?_
            refine wpAnyH_ready (rs := [7]) (by kernel_rfl) (by simp) ?_
            refine AllReadyH.cons (o := _) rfl (fun K hK => ?_) AllReadyH.nil
            go_simp
            refine (unhide HST _ (unhide BQ)).mono ?_
            rintro e ws ⟨sb, sd, rfl, hO, hb⟩
            replace WW := hide ((unhide WW).below hb)
            replace CC := hide ((hb.cell (p := ⟨g, k, none⟩) hgl1).trans (unhide CC))
            replace hgl1 := Nat.lt_of_lt_of_le hgl1 hb.size
            have WN := hide ((unhide WW).step hO (by have := (unhide BQ).size; have := unhide HQZ; omega))
            clear hb hO HST BQ
            go_wp2_with fail
            refine hK.out _ _ ?_ (fun hHeld => ?_)
            · exact unhide CC
            clear hK K
            (try simp only [Act.put, List.getElem_toArray, List.getElem_cons_succ, List.getElem_cons_zero, List.setIfInBounds_toArray, List.set_cons_zero, List.set_cons_succ])
            refine tkH 8 rfl ?_
            refine tkH 9 rfl ?_
            refine tkH 10 rfl ?_
            obtain ⟨⟨x0, x1⟩, g0, g1⟩ := Blk.c2 (unhide WW).x
            have hS := ((Touch.refl (fun q => q = w.heap.size) ws).setCell ⟨w.heap.size, 0, none⟩ (.int .i64 room) (fun _ => rfl)).setCell ⟨w.heap.size, 1, none⟩ (.slice sb (dropL (k + 1) l).length sd) (fun _ => rfl)
            have C9 := (hS.cell (p := ⟨g, k, none⟩) hgl1 (fun e => by have e2 : g = w.heap.size := e; have := unhide HGQ; omega)).trans (unhide CC)
            clear hS WW CC
            refine wpAnyH_ready (rs := [11]) (by kernel_rfl) (by simp) ?_
            refine AllReadyH.cons (o := _) rfl (fun K hK => ?_) AllReadyH.nil
            go_simp
            refine hK.out _ _ ?_ (fun hHeld => ?_)
            · exact C9
            clear hK K
            (try simp only [Act.put, List.getElem_toArray, List.getElem_cons_succ, List.getElem_cons_zero, List.setIfInBounds_toArray, List.set_cons_zero, List.set_cons_succ])
            refine wpAnyH_done (by kernel_rfl) (NoPanic.normal ?_) _
            clear x0 x1 g0 g1 hHeld C9
            generalize (ws.setCell ⟨w.heap.size, 0, none⟩ (.int .i64 room)).setCell ⟨w.heap.size, 1, none⟩ (.slice sb (dropL (k + 1) l).length sd) = wz at *
            go_wp2_with fail
            refine ⟨⟨k + 1, sb, sd, by go_num, by omega, (unhide HN).trans (unhide HGE), unhide WN⟩, ?_⟩
            simp [intOf]; omega
          · go_simp
            refine (unhide HNM _).mono ?_
            rintro e wn ⟨rfl, hb⟩
            replace WW := hide ((unhide WW).below hb)
            replace CC := hide ((hb.cell (p := ⟨g, k, none⟩) hgl1).trans (unhide CC))
            replace BQ := hide ((unhide BQ).trans (hb.mono (unhide BQ).size))
            replace hgl1 := Nat.lt_of_lt_of_le hgl1 hb.size
            clear hb
            go_wp2_with fail
            refine hK.out _ _ ?_ (fun hHeld => ?_)
            · exact unhide CC
            clear hK K
            (try simp only [Act.put, List.getElem_toArray, List.getElem_cons_succ, List.getElem_cons_zero, List.setIfInBounds_toArray, List.set_cons_zero, List.set_cons_succ])
            refine tkH 6 rfl ?_
            refine wpAnyH_ready (rs := [0]) (by kernel_rfl) (by simp) ?_
            refine AllReadyH.cons (o := _) rfl (fun K hK => ?_) AllReadyH.nil
            obtain ⟨⟨x0, x1⟩, _⟩ := Blk.c2 (unhide WW).x
            go_simp
            clear x0 x1
            refine hK.out _ _ ?_ (fun hHeld => ?_)
            · exact unhide CC
            clear hK K
            (try simp only [Act.put, List.getElem_toArray, List.getElem_cons_succ, List.getElem_cons_zero, List.setIfInBounds_toArray, List.set_cons_zero, List.set_cons_succ])
            refine wpAnyH_ready (rs := [7]) (by kernel_rfl) (by simp) ?_
            refine AllReadyH.cons (o := _) rfl (fun K hK => ?_) AllReadyH.nil
            go_simp
            refine (unhide HST _ (unhide BQ)).mono ?_
            rintro e ws ⟨sb, sd, rfl, hO, hb⟩
            replace WW := hide ((unhide WW).below hb)
            replace CC := hide ((hb.cell (p := ⟨g, k, none⟩) hgl1).trans (unhide CC))
            replace hgl1 := Nat.lt_of_lt_of_le hgl1 hb.size
            have WN := hide ((unhide WW).step hO (by have := (unhide BQ).size; have := unhide HQZ; omega))
            clear hb hO HST BQ
            go_wp2_with fail
            refine hK.out _ _ ?_ (fun hHeld => ?_)
            · exact unhide CC
            clear hK K
            (try simp only [Act.put, List.getElem_toArray, List.getElem_cons_succ, List.getElem_cons_zero, List.setIfInBounds_toArray, List.set_cons_zero, List.set_cons_succ])
            refine tkH 8 rfl ?_
            refine tkH 9 rfl ?_
            refine tkH 10 rfl ?_
            obtain ⟨⟨x0, x1⟩, g0, g1⟩ := Blk.c2 (unhide WW).x
            have hS := ((Touch.refl (fun q => q = w.heap.size) ws).setCell ⟨w.heap.size, 0, none⟩ (.int .i64 room) (fun _ => rfl)).setCell ⟨w.heap.size, 1, none⟩ (.slice sb (dropL (k + 1) l).length sd) (fun _ => rfl)
            have C9 := (hS.cell (p := ⟨g, k, none⟩) hgl1 (fun e => by have e2 : g = w.heap.size := e; have := unhide HGQ; omega)).trans (unhide CC)
            clear hS WW CC
            refine wpAnyH_ready (rs := [11]) (by kernel_rfl) (by simp) ?_
            refine AllReadyH.cons (o := _) rfl (fun K hK => ?_) AllReadyH.nil
            go_simp
            refine hK.out _ _ ?_ (fun hHeld => ?_)
            · exact C9
            clear hK K
            (try simp only [Act.put, List.getElem_toArray, List.getElem_cons_succ, List.getElem_cons_zero, List.setIfInBounds_toArray, List.set_cons_zero, List.set_cons_succ])
            refine wpAnyH_done (by kernel_rfl) (NoPanic.normal ?_) _
            clear x0 x1 g0 g1 hHeld C9
            generalize (ws.setCell ⟨w.heap.size, 0, none⟩ (.int .i64 room)).setCell ⟨w.heap.size, 1, none⟩ (.slice sb (dropL (k + 1) l).length sd) = wz at *
            go_wp2_with fail
            refine ⟨⟨k + 1, sb, sd, by go_num, by omega, (unhide HN).trans (unhide HGE), unhide WN⟩, ?_⟩
            simp [intOf]; omega
        · have hng : num > below := by omega
          have HE := hide (unhide HSTO hng)
          clear HGO HSTO hbel HST HNM HCL BB
          obtain ⟨⟨x0, x1⟩, _⟩ := Blk.c2 (unhide W8).x
          obtain ⟨⟨d0, d1⟩, g0, g1⟩ := Blk.c2 (unhide W8).y
          have FIN := hide (unhide W8).fin
          clear W8
          go_wp2_with fail
          obtain ⟨⟨z0, z1⟩, _⟩ := Blk.c2 (unhide FIN).1
          refine bodyPost_ret (v := .agg #[.int .i64 room, .slice sa (dropL k l).length sc]) (by simp [results, Tryz.results27, go_sem, z0, z1]) rfl ?_
          rw [unhide HSO, unhide HN, unhide HE]
          exact ⟨sa, sc, rfl, (unhide FIN).2.1, (unhide FIN).2.2⟩
    · have HE : Hid (fgN sg below k = k) := hide (fgN_end hlt)
      have hm1 : ¬ (k : Int) + 1 < (sg.length : Int) := by omega
      obtain ⟨⟨x0, x1⟩, _⟩ := Blk.c2 (unhide WW).x
      obtain ⟨⟨d0, d1⟩, g0, g1⟩ := Blk.c2 (unhide WW).y
      have FIN := hide (unhide WW).fin
      clear WW
      go_wp2_with fail
      obtain ⟨⟨z0, z1⟩, _⟩ := Blk.c2 (unhide FIN).1
      refine bodyPost_ret (v := .agg #[.int .i64 room, .slice sa (dropL k l).length sc]) (by simp [results, Tryz.results27, go_sem, z0, z1]) rfl ?_
      rw [unhide HSO, unhide HN, unhide HE]
      exact ⟨sa, sc, rfl, (unhide FIN).2.1, (unhide FIN).2.2⟩
end Go.Proofs.YtfihhkhdigbmiaaGreatDoor
namespace Go.Proofs.YtfihhkhdigbmiaaGreatDoor
open Go.ChangeShapes Go.WideShapes Go.ChangeAt Go.RowKit Go.Maps Go.Sort
set_option linter.unusedVariables false
set_option linter.unusedSimpArgs false

set_option maxRecDepth 100000 in
set_option maxHeartbeats 8000000 in
theorem specWalForget_any (room below : Int) (v : Value) (l : List Fl) (w : World) (hL : Fls w v l) (hs : Small l) :
    Calls Tryz.prog 12 #[.agg #[.int .i64 room, v], .int .i64 below] w fun e w' => WsE (wfOut room l below) w e w' := by
  have HL := hide (fun wx (hx : Below w.heap.size w wx) => hL.below hx)
  obtain ⟨a, cap, rfl, hn, hm, _⟩ := id hL
  have HRL := hide (fun wx (hx : Below w.heap.size w wx) => specWalRead_any room (.slice a l.length cap) l wx (hL.below hx) hs)
  have HFA := hide (fun (h : (walOut room l).2 = 0) => (show OkL l ∧ diskB room l = true ∧ ∀ i, i < (segsP l).length → (frF ((segsP l).getD i default)).1 = [] ∨ ((frF ((segsP l).getD i default)).1.getD 0 []).length = 4 from ⟨okL_of (wal_ok h).1 hs, wal_ok h⟩))
  have HNS := hide (fun i (_ : i < l.length) => (hs.2.2 i).1)
  have B0 := hide (((Below.refl w.heap.size w).alloc (Nat.le_refl _) (.cells #[.int .i64 room, .slice a l.length cap] 28)).alloc (by simp) (.cells #[.int .i64 0, .slice none 0 0] 28))
  have X0 := hide ((Blk.new w #[.int .i64 room, .slice a l.length cap] 28 w.heap.size rfl).alloc (.cells #[.int .i64 0, .slice none 0 0] 28))
  have D0 := hide (Blk.new (w.alloc (.cells #[.int .i64 room, .slice a l.length cap] 28)) #[.int .i64 0, .slice none 0 0] 28 (w.heap.size + 1) (by simp))
  have HW := hide (show wfOut room l below = if (walOut room l).2 = 0 then (if below < 0 then (0, [], 4) else (room, dropL (fgN (segsP l) below 0) l, 0)) else (0, [], (walOut room l).2) from rfl)
  generalize wfOut room l below = x at *
  clear hL hs
  go_enter Tryz.func12, Tryz.ntmps12
  go_upto_region 1 with fail
  generalize (w.alloc (.cells #[.int .i64 room, .slice a l.length cap] 28)).alloc (.cells #[.int .i64 0, .slice none 0 0] 28) = w0 at *
  obtain ⟨⟨x0, x1⟩, _⟩ := Blk.c2 (unhide X0)
  go_wp2_with fail
  refine (unhide HRL _ (unhide B0)).mono ?_
  rintro e w1 ⟨ra, rn, rc, na, nn, nc, rfl, _, hb⟩
  have hAA := (Below.refl w1.heap.size w1).alloc (Nat.le_refl _) (.cells #[.int .i64 (walOut room l).1.first, .slice ra rn rc, .slice na nn nc, .int .i64 (walOut room l).1.torn] 45)
  have B2 := hide (((unhide B0).trans (hb.mono (unhide B0).size)).trans (hAA.mono (Nat.le_trans (unhide B0).size hb.size)))
  have X2 := hide (((unhide X0).below hb).below hAA)
  have D2 := hide (((unhide D0).below hb).below hAA)
  clear hb hAA HRL B0 X0 D0 x0 x1
  generalize (walOut room l).1.first = fi at *
  generalize (walOut room l).1.torn = tn at *
  generalize (walOut room l).2 = cd at *
  go_upto_region 2 with fail
  generalize w1.alloc (.cells #[.int .i64 fi, .slice ra rn rc, .slice na nn nc, .int .i64 tn] 45) = w2 at *
  generalize w1.heap.size = lb at *
  obtain ⟨⟨d0, d1⟩, g0, g1⟩ := Blk.c2 (unhide D2)
  by_cases hc0 : cd = 0
  · subst hc0
    have HX := (unhide HW).trans (if_pos rfl)
    by_cases hneg : below < 0
    · have E := hide (HX.trans (if_pos hneg))
      have hT := ((Touch.refl (fun q => q = w.heap.size + 1) w2).setCell ⟨w.heap.size + 1, 0, none⟩ (.int .i64 0) (fun _ => rfl)).setCell ⟨w.heap.size + 1, 1, none⟩ (.slice none 0 0) (fun _ => rfl)
      have HY := hide (((unhide D2).set 0 (.int .i64 0) (by simp)).set 1 (.slice none 0 0) (by simp))
      have HK := hide ((unhide B2).trans (hT.below (unhide B2).size (fun q hq e => by omega)))
      clear hT B2 X2 D2 HX HW HFA
      go_wp2_with fail
      obtain ⟨⟨z0, z1⟩, _⟩ := Blk.c2 (unhide HY)
      refine bodyPost_ret (v := .tuple #[.agg #[.int .i64 0, .slice none 0 0], .int .i64 4]) (by simp [results, Tryz.results12, go_sem, z0, z1]) rfl ?_
      exact wsE_none (unhide E) rfl (unhide HK)
    · have E := hide (HX.trans (if_neg hneg))
      obtain ⟨hok, hd, hh⟩ := unhide HFA rfl
      have hsl : (dropL (fgN (segsP l) below 0) l).length ≤ 8 := Nat.le_trans (dropL_sub l _).length_le hok.len
      have HFG := hide (fun wx (hx : Below w.heap.size w wx) => l04Forget_any room below (.slice a l.length cap) l wx (unhide HL wx hx) hok (unhide HNS) (seg_small hd) hh)
      clear HX HW HFA HNS hok hd hh d0 d1 g0 g1 HL
      generalize dropL (fgN (segsP l) below 0) l = so at *
      obtain ⟨⟨x0, x1⟩, _⟩ := Blk.c2 (unhide X2)
      go_wp2_with fail
      refine (unhide HFG _ (unhide B2)).mono ?_
      rintro e w3 ⟨sa, sc, rfl, hF, hb⟩
      have HOW := hide (l03Own_any room (.slice sa so.length sc) so w3 hF (by omega))
      have B3 := hide ((unhide B2).trans (hb.mono (unhide B2).size))
      have D3 := hide ((unhide D2).below hb)
      clear HFG hF hb B2 X2 D2 x0 x1
      go_wp2_with fail
      refine (unhide HOW).mono ?_
      rintro e w4 ⟨oa, oc, rfl, hO, hb⟩
      have hw2 := (unhide B3).size
      have hD2 := (unhide D3).1
      have B4 := (unhide B3).trans (hb.mono (unhide B3).size)
      have D4 := (unhide D3).below hb
      have hT := ((Touch.refl (fun q => q = w.heap.size + 1) w4).setCell ⟨w.heap.size + 1, 0, none⟩ (.int .i64 room) (fun _ => rfl)).setCell ⟨w.heap.size + 1, 1, none⟩ (.slice oa so.length oc) (fun _ => rfl)
      have HY := hide ((D4.set 0 (.int .i64 room) (by simp)).set 1 (.slice oa so.length oc) (by simp))
      have HK := hide (B4.trans (hT.below B4.size (fun q hq e => by omega)))
      have HO := hide (hO.kept hT (fun q hq e => by have := (World.ownsRow.lt hO q hq).1; omega))
      obtain ⟨⟨d0, d1⟩, g0, g1⟩ := Blk.c2 D4
      clear HOW hO hb B3 D3 B4 D4 hT
      go_wp2_with fail
      obtain ⟨⟨z0, z1⟩, _⟩ := Blk.c2 (unhide HY)
      refine bodyPost_ret (v := .tuple #[.agg #[.int .i64 room, .slice oa so.length oc], .int .i64 0]) (by simp [results, Tryz.results12, go_sem, z0, z1]) rfl ?_
      rw [unhide E]
      exact ⟨oa, oc, rfl, World.ownsRow.mono (unhide HO) hw2, unhide HK⟩
  · have E := hide ((unhide HW).trans (if_neg hc0))
    have hcb : (cd == 0) = false := by rw [beq_eq_false_iff_ne]; exact hc0
    have hT := ((Touch.refl (fun q => q = w.heap.size + 1) w2).setCell ⟨w.heap.size + 1, 0, none⟩ (.int .i64 0) (fun _ => rfl)).setCell ⟨w.heap.size + 1, 1, none⟩ (.slice none 0 0) (fun _ => rfl)
    have HY := hide (((unhide D2).set 0 (.int .i64 0) (by simp)).set 1 (.slice none 0 0) (by simp))
    have HK := hide ((unhide B2).trans (hT.below (unhide B2).size (fun q hq e => by omega)))
    clear hT B2 X2 D2 HW HFA
    go_wp2_with fail
    obtain ⟨⟨z0, z1⟩, _⟩ := Blk.c2 (unhide HY)
    refine bodyPost_ret (v := .tuple #[.agg #[.int .i64 0, .slice none 0 0], .int .i64 cd]) (by simp [results, Tryz.results12, go_sem, z0, z1]) rfl ?_
    exact wsE_none (unhide E) rfl (unhide HK)
end Go.Proofs.YtfihhkhdigbmiaaGreatDoor
namespace Go.Proofs.YtfihhkhdigbmiaaGreatDoor
theorem get_some {α : Type} {l : List α} {i n : Nat} (hl : l.length = n) (hi : i < n) : ∃ x, l[i]? = some x := by
  subst hl; exact ⟨l[i], List.getElem?_eq_getElem hi⟩
end Go.Proofs.YtfihhkhdigbmiaaGreatDoor
namespace Go.Proofs.YtfihhkhdigbmiaaGreatDoor
open Go.ChangeShapes Go.WideShapes Go.ChangeAt Go.RowKit Go.Deep
set_option linter.unusedVariables false

theorem array2 {α : Type} {cs : Array α} (h : cs.size = 2) : ∃ c0 c1, cs = #[c0, c1] := by
  obtain ⟨l⟩ := cs
  match l, h with
  | [c0, c1], _ => exact ⟨c0, c1, rfl⟩
set_option maxRecDepth 100000 in
theorem open_files {H : Type} {enc : TypeId × Value → H} {W : World} {base : Nat} {sp : Nat → Bool} {held : Bool} {fuel : Nat} {c : Value} {x : DataW H × List MemPlace}
    (h : DataW.trod enc Tryz.prog W base sp held fuel 22 [c] = some x) :
    ∃ l : List Fl, Fls W c l ∧ ∀ i, i < l.length → (l.getD i default).n.size ≤ maxLen ∧ (l.getD i default).d.size ≤ maxLen := by
  have i3 : Tryz.prog.cellsOf 3 = 1 := by kernel_rfl
  have i9 : Tryz.prog.cellsOf 9 = 1 := by kernel_rfl
  have iF : Tryz.prog.cellsOf 66 = 3 := by kernel_rfl
  rcases open_slice Tryz.underlying22 h with ⟨hc, _⟩ | ⟨a, len, cap, m, n, D, Pl, hc, hb, hl, hm, hmm, _, hx⟩
  · simp only [List.cons.injEq, and_true] at hc
    subst hc
    exact ⟨[], ⟨none, 0, rfl, Nat.le_refl _, by unfold maxLen; omega, .inl rfl⟩, fun i hi => by simp at hi⟩
  · simp only [List.cons.injEq, and_true] at hc
    subst hc
    have hlm : len ≤ m := by rw [hmm]; split <;> omega
    rw [iF] at hx
    have each : ∀ i, i < len → ∃ f : Fl, W.cell? (a.add (i * 3)) = some (.string f.n) ∧ W.cell? (a.add (i * 3 + 1)) = some (.string f.d) ∧ W.cell? (a.add (i * 3 + 2)) = some (.int .i64 f.s) ∧ f.n.size ≤ maxLen ∧ f.d.size ≤ maxLen := by
      intro i hi
      obtain ⟨cs', h1, h2⟩ := hx i (by omega)
      obtain ⟨_, hlen, hcell⟩ := World.cells?_some h1
      obtain ⟨xs, k, hk, hxy, _, hxl, hf⟩ := DataW.trod_struct Tryz.underlying66 h2
      match cs', hlen with
      | [v0, v1, v2], _ =>
        obtain ⟨y0, e0⟩ := get_some hxl (show 0 < 3 by omega)
        obtain ⟨y1, e1⟩ := get_some hxl (show 1 < 3 by omega)
        obtain ⟨y2, e2⟩ := get_some hxl (show 2 < 3 by omega)
        have g0 : DataW.trod enc Tryz.prog W base sp held k 9 [v0] = some y0 := by simpa [Value.cells, i9] using (hf 0 _ rfl).trans e0
        have g1 : DataW.trod enc Tryz.prog W base sp held k 9 [v1] = some y1 := by simpa [Value.cells, i9] using (hf 1 _ rfl).trans e1
        have g2 : DataW.trod enc Tryz.prog W base sp held k 3 [v2] = some y2 := by simpa [Value.cells, i3] using (hf 2 _ rfl).trans e2
        obtain ⟨a0, f0, _, q0⟩ := DataW.trod_string Tryz.underlying9 g0
        obtain ⟨a1, f1, _, q1⟩ := DataW.trod_string Tryz.underlying9 g1
        obtain ⟨a2, f2, _, q2⟩ := DataW.trod_int Tryz.underlying3 g2
        simp only [List.cons.injEq, and_true] at f0 f1 f2
        subst f0 f1 f2
        have c0 := hcell 0 (by omega)
        have c1 := hcell 1 (by omega)
        have c2 := hcell 2 (by omega)
        rw [add_add] at c0 c1 c2
        exact ⟨⟨a0, a1, a2⟩, by simpa using c0, by simpa using c1, by simpa using c2, q0, q1⟩
    obtain ⟨F, hF⟩ := choose_lt each
    have hlen : ((List.range len).map F).length = len := by simp
    have hget : ∀ i, i < len → ((List.range len).map F).getD i default = F i := fun i hi => by simp [List.getD_eq_getElem?_getD, hi]
    refine ⟨(List.range len).map F, ⟨some a, cap, by rw [hlen], by rw [hlen]; exact hl, hm, ?_⟩, fun i hi => ?_⟩
    · by_cases h0 : len = 0
      · exact .inl (by rw [hlen]; exact h0)
      · obtain ⟨b, off, spot⟩ := a
        have hc := (hF 0 (by omega)).1
        have hspot : spot = none := by simpa [Addr.add] using World.cell?_spot hc
        subst hspot
        have hblk := World.block_lt_of_cell? W _ hc
        have e0 : ∀ i, (⟨b, off, none⟩ : Addr).add i = ⟨b, off + i, none⟩ := fun i => by unfold Addr.add; split <;> simp_all
        rw [e0] at hblk
        refine .inr ⟨b, off, rfl, hblk, fun i hi => ?_⟩
        rw [hlen] at hi
        obtain ⟨k0, k1, k2, _, _⟩ := hF i hi
        rw [e0] at k0 k1 k2
        rw [hget i hi]
        exact ⟨k0, by rw [Nat.add_assoc]; exact k1, by rw [Nat.add_assoc]; exact k2⟩
    · rw [hlen] at hi
      rw [hget i hi]
      exact ⟨(hF i hi).2.2.2.1, (hF i hi).2.2.2.2⟩
set_option maxRecDepth 100000 in
theorem open_disk {H : Type} {enc : TypeId × Value → H} {W : World} {base b0 : Nat} {r : Reach} {sp : Nat → Bool} {held : Bool} {v : Value} {d : DataW H} {p : List MemPlace}
    (hv : Value.okWide Tryz.prog W r b0 24 v) (h : DataW.Trod enc Tryz.prog W base sp held 24 v d p) :
    ∃ (room : Int) (u : Value) (l : List Fl), v = .agg #[.int .i64 room, u] ∧ (Lit.int .i64 room).wf = true ∧ Fls W u l ∧ ∀ i, i < l.length → (l.getD i default).n.size ≤ maxLen ∧ (l.getD i default).d.size ≤ maxLen := by
  obtain ⟨cs, rfl, hsz⟩ := okWide_struct Tryz.underlying24 hv
  have hC : Tryz.prog.cellsOf 24 = 2 := by kernel_rfl
  obtain ⟨c0, c1, rfl⟩ := array2 (hsz.trans hC)
  obtain ⟨fuel, hf⟩ := h
  obtain ⟨xs, n, _, _, _, hlen, hfl⟩ := DataW.trod_struct Tryz.underlying24 hf
  have i3 : Tryz.prog.cellsOf 3 = 1 := by kernel_rfl
  have iS : Tryz.prog.cellsOf 22 = 1 := by kernel_rfl
  obtain ⟨y0, e0⟩ := get_some hlen (show 0 < 2 by omega)
  obtain ⟨y1, e1⟩ := get_some hlen (show 1 < 2 by omega)
  have g0 : DataW.trod enc Tryz.prog W base sp held n 3 [c0] = some y0 := by simpa [Value.cells, i3] using (hfl 0 _ rfl).trans e0
  have g1 : DataW.trod enc Tryz.prog W base sp held n 22 [c1] = some y1 := by simpa [Value.cells, iS] using (hfl 1 _ rfl).trans e1
  obtain ⟨a0, f0, _, q0⟩ := DataW.trod_int Tryz.underlying3 g0
  simp only [List.cons.injEq, and_true] at f0
  subst f0
  obtain ⟨l, h1, h2⟩ := open_files g1
  exact ⟨a0, c1, l, rfl, q0, h1, h2⟩
end Go.Proofs.YtfihhkhdigbmiaaGreatDoor
namespace Go.Proofs.YtfihhkhdigbmiaaGreatDoor
open Go.ChangeShapes Go.WideShapes Go.ChangeAt Go.RowKit
set_option linter.unusedVariables false

theorem ret_str2 {a b : ByteArray} (h : a = b) : Ending.returned (.string a) = .returned (.string b) := by rw [h]
def mtxR (k : Nat) (out : ByteArray) : ByteArray := if h : k = 0 then out else mtxR (k / 10) (strOfNums [48 + ((k % 10 : Nat) : Int)] ++ out)
termination_by k
decreasing_by omega
def mtx (k : Nat) : ByteArray := strOfNums [109] ++ mtxR k (strOfNums [])

set_option maxRecDepth 100000 in
set_option maxHeartbeats 1000000 in
theorem markText_any (k : Nat) (w : World) (h0 : 0 < k) (h1 : k ≤ 4294967296) :
    Calls Tryz.prog 48 #[.int .i64 k] w fun e w' => e = .returned (.string (mtx k)) ∧ Below w.heap.size w w' := by
  go_enter Tryz.func48, Tryz.ntmps48
  go_wp2_with fail
  go_loopw [0, 3] (fun kk o wr => ∃ (j : Nat) (out : ByteArray), j ≤ k ∧ kk = .int .i64 j ∧ o = .string out ∧ out.size + j ≤ k ∧ mtxR j out = mtxR k (strOfNums []) ∧ Below w.heap.size w wr) (fun kk _ _ => (intOf kk).toNat)
  case atStart => exact ⟨k, strOfNums [], Nat.le_refl _, rfl, rfl, by simp [strOfNums_size], rfl, Below.refl _ _⟩
  case round =>
    obtain ⟨j, out, hj, rfl, rfl, hsz, hm, hb⟩ := hrel
    by_cases hj0 : 0 < j
    · have hE : Hid (mtxR (j / 10) (strOfNums [48 + ((j % 10 : Nat) : Int)] ++ out) = mtxR k (strOfNums [])) := hide (by rw [← hm]; conv => rhs; rw [mtxR, dif_neg (by omega)])
      have HB := hide hb
      have hr4 : 10 * (j / 10) ≤ j := by omega
      have hcv : (convert 79 9 (.slice (some ⟨wr.heap.size, 0, none⟩) 1 1)).run Tryz.prog (wr.alloc (.cells #[.int .u8 (48 + (j : Int) % 10)] 5)) = .ok (.string (strOfNums [48 + (j : Int) % 10])) (wr.alloc (.cells #[.int .u8 (48 + (j : Int) % 10)] 5)) :=
        run_convert_bytes_arg _ 79 5 Tryz.underlying79 Tryz.underlying5 wr.heap.size 0 1 1 [48 + (j : Int) % 10] rfl (fun i hi => by
          obtain rfl : i = 0 := by omega
          rw [World.cell?_alloc_at _ _ _ _ rfl]; rfl) 9 Tryz.underlying9
      have HB2 := hide ((unhide HB).alloc (unhide HB).size (.cells #[.int .u8 (48 + (j : Int) % 10)] 5))
      have hs1 : (strOfNums [48 + (j : Int) % 10]).size = 1 := strOfNums_size _
      rw [show ((j % 10 : Nat) : Int) = (j : Int) % 10 by omega] at hE
      generalize strOfNums [48 + (j : Int) % 10] = d at *
      clear hm hb HB
      go_wp2_with fail
      refine ⟨⟨j / 10, d ++ out, by omega, by go_num, rfl, by rw [ByteArray.size_append]; omega, unhide hE, unhide HB2⟩, ?_⟩
      simp [intOf]; omega
    · obtain rfl : j = 0 := by omega
      have hE : Hid (out = mtxR k (strOfNums [])) := hide (by rw [← hm, mtxR, dif_pos rfl])
      have HB := hide hb
      clear hm hb
      go_wp2_with fail
      go_ret
      exact ⟨ret_str2 (by rw [unhide hE]; rfl), unhide HB⟩

theorem markText_int (ki : Int) (k : Nat) (hk : ki = (k : Int)) (w : World) (h0 : 0 < k) (h1 : k ≤ 4294967296) :
    Calls Tryz.prog 48 #[.int .i64 ki] w fun e w' => e = .returned (.string (mtx k)) ∧ Below w.heap.size w w' := by
  subst hk; exact markText_any k w h0 h1

/-- Some of the marks laid. -/
def markS (l : List ByteArray) (k : Nat) : List ByteArray := (List.range l.length).map fun j => if j < k then mtx (1 + j) else l.getD j ByteArray.empty
theorem markS_len (l : List ByteArray) (k : Nat) : (markS l k).length = l.length := by simp [markS]
theorem markS_zero (l : List ByteArray) : markS l 0 = l := by
  apply List.ext_getElem?
  intro j
  by_cases hj : j < l.length
  · simp [markS, hj, List.getD_eq_getElem?_getD]
  · simp [markS, hj]
theorem markS_set (l : List ByteArray) (k : Nat) (hk : k < l.length) : ((markS l k).map Value.string).set k (.string (mtx (1 + k))) = (markS l (k + 1)).map Value.string := by
  apply List.ext_getElem?
  intro j
  rw [List.getElem?_set]
  simp only [List.length_map, markS_len, List.getElem?_map]
  by_cases e : k = j
  · subst e
    rw [if_pos rfl, if_pos hk]
    simp [markS, hk]
  · rw [if_neg e]
    by_cases hj : j < l.length
    · by_cases h1 : j < k
      · simp [markS, hj, h1, show j < k + 1 by omega]
      · simp [markS, hj, h1, show ¬ j < k + 1 by omega]
    · simp [markS, hj]
def marksS (n : Nat) : List ByteArray := (List.range n).map fun j => mtx (1 + j)
theorem marksS_len (n : Nat) : (marksS n).length = n := by simp [marksS]
theorem marksS_get (n j : Nat) (h : j < n) : (marksS n).getD j ByteArray.empty = mtx (1 + j) := by simp [marksS, List.getD_eq_getElem?_getD, h]
theorem markS_all (l : List ByteArray) : markS l l.length = marksS l.length := by
  apply List.ext_getElem?
  intro j
  by_cases hj : j < l.length
  · simp [markS, marksS, hj]
  · simp [markS, marksS, hj]

end Go.Proofs.YtfihhkhdigbmiaaGreatDoor
namespace Go.Proofs.YtfihhkhdigbmiaaGreatDoor
open Go.ChangeShapes Go.WideShapes Go.ChangeAt Go.RowKit
set_option linter.unusedVariables false
set_option linter.unusedSimpArgs false

theorem wrapMk (n : Int) (h0 : 0 ≤ n) (h1 : n < 9223372036854775808) : IntKind.i64.wrap n = n := by
  simp only [IntKind.wrap, IntKind.bits, IntKind.signed]
  simp
  omega
set_option maxRecDepth 100000 in
set_option maxHeartbeats 2000000 in
theorem markFileS_any (B g cap : Nat) (l : List Fl) (w : World) (h : w.ownsRow B 68 3 (.slice (some ⟨g, 0, none⟩) l.length cap) l.length (flsC l)) (hl : l.length ≤ 1048576) :
    Calls Tryz.prog 24 #[.slice (some ⟨g, 0, none⟩) l.length cap, .int .i64 1] w fun e w' => e = .returned (.int .i64 (1 + 3 * (l.length : Int))) ∧ Touch (fun k => k = g) w w' := by
  have H := hide h
  clear h
  go_enter Tryz.func24, Tryz.ntmps24
  go_wp2_with fail
  go_loopw [1, 5] (fun k i wr => ∃ (j : Nat) (m : List Fl), j ≤ l.length ∧ m.length = l.length ∧ k = .int .i64 (1 + 3 * (j : Int)) ∧ i = .int .i64 j ∧ wr.ownsRow B 68 3 (.slice (some ⟨g, 0, none⟩) l.length cap) l.length (flsC m) ∧ Touch (fun k => k = g) w wr) (fun _ i _ => l.length - (intOf i).toNat)
  case atStart => exact ⟨0, l, Nat.zero_le _, rfl, rfl, rfl, unhide H, Touch.refl _ _⟩
  case round =>
    obtain ⟨j, m, hj, hm, rfl, rfl, hL, hT⟩ := hrel
    by_cases hlt2 : j < l.length
    · have p0 : (0 : Int) ≤ (j : Int) := by omega
      have p1 : (j : Int) < (l.length : Int) := by omega
      have hfl := flsC_len m
      have HM := hide (And.intro hm hfl)
      have HL := hide (And.intro hL hT)
      have q1 : IntKind.i64.wrap (1 + 3 * (j : Int) + 1) = 1 + 3 * (j : Int) + 1 := wrapMk _ (by omega) (by omega)
      have q2 : IntKind.i64.wrap (1 + 3 * (j : Int) + 1 + 1) = 1 + 3 * (j : Int) + 1 + 1 := wrapMk _ (by omega) (by omega)
      have q3 : IntKind.i64.wrap (1 + 3 * (j : Int) + 1 + 1 + 1) = 1 + 3 * (j : Int) + 1 + 1 + 1 := wrapMk _ (by omega) (by omega)
      clear hL hT hfl hm
      go_wp2_with fail
      refine (markText_int _ (1 + 3 * j) (by omega) wr (by omega) (by omega)).mono ?_
      rintro e w2 ⟨rfl, hb2⟩
      have hO := own_kept (T := fun _ => False) (unhide HL).1 (Touch.ofBelow hb2) (fun _ _ h => h)
      have hT2 : Touch (fun k => k = g) w w2 := (unhide HL).2.trans (T' := fun _ => False) (Touch.ofBelow hb2) (fun _ _ h => h.elim)
      have hjm : j < m.length := by rw [(unhide HM).1]; exact hlt2
      have c0 := (hO.cellAt (j * 3) (by omega)).trans (flsC_get m j hjm).1
      have f0 := hO.frozenAt (j * 3)
      have HG := hide (flsC_get m j hjm)
      have R2 := hide (And.intro (hO.stored (j * 3) (.string (mtx (1 + 3 * j)))).1 (hT2.setCell ⟨g, j * 3, none⟩ (.string (mtx (1 + 3 * j))) (fun _ => rfl)))
      clear hb2 hO hT2 HL
      generalize mtx (1 + 3 * j) = x1 at *
      go_wp2_with fail
      clear c0 f0
      generalize w2.setCell ⟨g, j * 3, none⟩ (.string x1) = w3 at *
      refine (markText_int _ (1 + 3 * j + 1) (by omega) w3 (by omega) (by omega)).mono ?_
      rintro e w4 ⟨rfl, hb4⟩
      have hO4 := own_kept (T := fun _ => False) (unhide R2).1 (Touch.ofBelow hb4) (fun _ _ h => h)
      have hT4 : Touch (fun k => k = g) w w4 := (unhide R2).2.trans (T' := fun _ => False) (Touch.ofBelow hb4) (fun _ _ h => h.elim)
      have c1 := (hO4.cellAt (j * 3 + 1) (by omega)).trans ((List.getElem?_set_ne (by omega)).trans (unhide HG).2.1)
      have f1 := hO4.frozenAt (j * 3 + 1)
      have c2 := (hO4.cellAt (j * 3 + 2) (by omega)).trans ((List.getElem?_set_ne (by omega)).trans (unhide HG).2.2)
      have f2 := hO4.frozenAt (j * 3 + 2)
      have hO5 := (hO4.stored (j * 3 + 1) (.string (mtx (1 + 3 * j + 1)))).1
      have hO6 := (hO5.stored (j * 3 + 2) (.int .i64 (1 + 3 * (j : Int) + 1 + 1))).1
      have hT6 := (hT4.setCell ⟨g, j * 3 + 1, none⟩ (.string (mtx (1 + 3 * j + 1))) (fun _ => rfl)).setCell ⟨g, j * 3 + 2, none⟩ (.int .i64 (1 + 3 * (j : Int) + 1 + 1)) (fun _ => rfl)
      have hset := flsC_set m j ⟨x1, mtx (1 + 3 * j + 1), 1 + 3 * (j : Int) + 1 + 1⟩ hjm
      dsimp only at hset
      rw [hset] at hO6
      have R6 := hide (And.intro hO6 hT6)
      have HML := hide (show (m.set j ⟨x1, mtx (1 + 3 * j + 1), 1 + 3 * (j : Int) + 1 + 1⟩).length = l.length by rw [List.length_set]; exact (unhide HM).1)
      clear hb4 hO4 hT4 hO5 hO6 hT6 hset R2 HG HM
      generalize mtx (1 + 3 * j + 1) = x2 at *
      go_wp2_with fail
      refine ⟨⟨j + 1, _, by omega, unhide HML, ?_, by go_num, (unhide R6).1, (unhide R6).2⟩, ?_⟩
      · have e : (1 : Int) + 3 * (j : Int) + 1 + 1 + 1 = 1 + 3 * ((j + 1 : Nat) : Int) := by omega
        rw [← e]
      · simp [intOf]; omega
    · obtain rfl : j = l.length := by omega
      have R := hide hT
      clear hL hT
      go_wp2_with fail
      go_ret
      exact ⟨rfl, unhide R⟩
set_option maxRecDepth 100000 in
set_option maxHeartbeats 1000000 in
theorem markDisk_any (room : Int) (B g cap : Nat) (l : List Fl) (w : World) (h : w.ownsRow B 68 3 (.slice (some ⟨g, 0, none⟩) l.length cap) l.length (flsC l)) (hl : l.length ≤ 1048576) :
    Calls Tryz.prog 10 #[.agg #[.int .i64 room, .slice (some ⟨g, 0, none⟩) l.length cap], .int .i64 1] w fun e w' => e = .returned (.int .i64 (1 + 3 * (l.length : Int))) ∧ Touch (fun k => k = g) w w' := by
  have H := hide (own_kept (T := fun _ => False) h (((Touch.refl _ w).alloc (.cells #[.int .i64 room, .slice (some ⟨g, 0, none⟩) l.length cap] 28))) (fun _ _ h => h))
  have T := hide ((Touch.refl (fun k => k = g) w).alloc (.cells #[.int .i64 room, .slice (some ⟨g, 0, none⟩) l.length cap] 28))
  clear h
  go_enter Tryz.func10, Tryz.ntmps10
  go_wp2_with fail
  generalize w.alloc (.cells #[.int .i64 room, .slice (some ⟨g, 0, none⟩) l.length cap] 28) = w1 at *
  refine (markFileS_any B g cap l w1 (unhide H) hl).mono ?_
  rintro e w2 ⟨rfl, hT2⟩
  have T2 := hide ((unhide T).trans hT2 (fun _ _ h => h))
  clear hT2 T H
  go_wp2_with fail
  go_ret
  exact ⟨rfl, unhide T2⟩
end Go.Proofs.YtfihhkhdigbmiaaGreatDoor
namespace Go.Proofs.YtfihhkhdigbmiaaGreatDoor
open Go.ChangeShapes Go.WideShapes Go.ChangeAt Go.RowKit
set_option linter.unusedVariables false
set_option linter.unusedSimpArgs false

def fmk (j : Nat) : Fl := ⟨mtx (1 + 3 * j), mtx (1 + 3 * j + 1), 1 + 3 * (j : Int) + 1 + 1⟩
def fmkTo (l : List Fl) (k : Nat) : List Fl := (List.range l.length).map fun j => if j < k then fmk j else l.getD j default
def fmks (n : Nat) : List Fl := (List.range n).map fun j => fmk j
theorem fmkTo_len (l : List Fl) (k : Nat) : (fmkTo l k).length = l.length := by simp [fmkTo]
theorem fmks_len (n : Nat) : (fmks n).length = n := by simp [fmks]
theorem fmks_get (n j : Nat) (h : j < n) : (fmks n).getD j default = fmk j := by simp [fmks, List.getD_eq_getElem?_getD, h]
theorem fmkTo_zero (l : List Fl) : fmkTo l 0 = l := by
  apply List.ext_getElem?
  intro j
  by_cases hj : j < l.length
  · simp [fmkTo, hj, List.getD_eq_getElem?_getD]
  · simp [fmkTo, hj]
theorem fmkTo_all (l : List Fl) : fmkTo l l.length = fmks l.length := by
  apply List.ext_getElem?
  intro j
  by_cases hj : j < l.length
  · simp [fmkTo, fmks, hj]
  · simp [fmkTo, fmks, hj]
theorem fmkTo_set (l : List Fl) (k : Nat) (hk : k < l.length) : (fmkTo l k).set k (fmk k) = fmkTo l (k + 1) := by
  apply List.ext_getElem?
  intro j
  rw [List.getElem?_set]
  simp only [fmkTo_len]
  by_cases e : k = j
  · subst e
    rw [if_pos rfl, if_pos hk]
    simp [fmkTo, hk]
  · rw [if_neg e]
    by_cases hj : j < l.length
    · by_cases h1 : j < k
      · simp [fmkTo, hj, h1, show j < k + 1 by omega]
      · simp [fmkTo, hj, h1, show ¬ j < k + 1 by omega]
    · simp [fmkTo, hj]
set_option maxRecDepth 100000 in
set_option maxHeartbeats 2000000 in
theorem markFileK_any (B g cap : Nat) (l : List Fl) (w : World) (h : w.ownsRow B 68 3 (.slice (some ⟨g, 0, none⟩) l.length cap) l.length (flsC l)) (hl : l.length ≤ 1048576) :
    Calls Tryz.prog 24 #[.slice (some ⟨g, 0, none⟩) l.length cap, .int .i64 1] w fun e w' => e = .returned (.int .i64 (1 + 3 * (l.length : Int))) ∧ w'.ownsRow B 68 3 (.slice (some ⟨g, 0, none⟩) l.length cap) l.length (flsC (fmks l.length)) ∧ Touch (fun k => k = g) w w' := by
  have H : Hid (w.ownsRow B 68 3 (.slice (some ⟨g, 0, none⟩) l.length cap) l.length (flsC (fmkTo l 0))) := hide (by rw [fmkTo_zero]; exact h)
  clear h
  go_enter Tryz.func24, Tryz.ntmps24
  go_wp2_with fail
  go_loopw [1, 5] (fun k i wr => ∃ (j : Nat), j ≤ l.length ∧ k = .int .i64 (1 + 3 * (j : Int)) ∧ i = .int .i64 j ∧ wr.ownsRow B 68 3 (.slice (some ⟨g, 0, none⟩) l.length cap) l.length (flsC (fmkTo l j)) ∧ Touch (fun k => k = g) w wr) (fun _ i _ => l.length - (intOf i).toNat)
  case atStart => exact ⟨0, Nat.zero_le _, rfl, rfl, unhide H, Touch.refl _ _⟩
  case round =>
    obtain ⟨j, hj, rfl, rfl, hL, hT⟩ := hrel
    by_cases hlt2 : j < l.length
    · have p0 : (0 : Int) ≤ (j : Int) := by omega
      have p1 : (j : Int) < (l.length : Int) := by omega
      obtain ⟨m, hmj⟩ : ∃ m, m = fmkTo l j := ⟨_, rfl⟩
      rw [← hmj] at hL
      have hm : m.length = l.length := by rw [hmj, fmkTo_len]
      have HMJ := hide hmj
      have hfl := flsC_len m
      have HM := hide (And.intro hm hfl)
      have HL := hide (And.intro hL hT)
      have q1 : IntKind.i64.wrap (1 + 3 * (j : Int) + 1) = 1 + 3 * (j : Int) + 1 := wrapMk _ (by omega) (by omega)
      have q2 : IntKind.i64.wrap (1 + 3 * (j : Int) + 1 + 1) = 1 + 3 * (j : Int) + 1 + 1 := wrapMk _ (by omega) (by omega)
      have q3 : IntKind.i64.wrap (1 + 3 * (j : Int) + 1 + 1 + 1) = 1 + 3 * (j : Int) + 1 + 1 + 1 := wrapMk _ (by omega) (by omega)
      clear hL hT hfl hm hmj
      go_wp2_with fail
      refine (markText_int _ (1 + 3 * j) (by omega) wr (by omega) (by omega)).mono ?_
      rintro e w2 ⟨rfl, hb2⟩
      have hO := own_kept (T := fun _ => False) (unhide HL).1 (Touch.ofBelow hb2) (fun _ _ h => h)
      have hT2 : Touch (fun k => k = g) w w2 := (unhide HL).2.trans (T' := fun _ => False) (Touch.ofBelow hb2) (fun _ _ h => h.elim)
      have hjm : j < m.length := by rw [(unhide HM).1]; exact hlt2
      have c0 := (hO.cellAt (j * 3) (by omega)).trans (flsC_get m j hjm).1
      have f0 := hO.frozenAt (j * 3)
      have HG := hide (flsC_get m j hjm)
      have R2 := hide (And.intro (hO.stored (j * 3) (.string (mtx (1 + 3 * j)))).1 (hT2.setCell ⟨g, j * 3, none⟩ (.string (mtx (1 + 3 * j))) (fun _ => rfl)))
      clear hb2 hO hT2 HL
      obtain ⟨x1, hx1⟩ : ∃ x1, x1 = mtx (1 + 3 * j) := ⟨_, rfl⟩
      rw [← hx1] at R2 ⊢
      have HX1 := hide hx1
      clear hx1
      go_wp2_with fail
      clear c0 f0
      generalize w2.setCell ⟨g, j * 3, none⟩ (.string x1) = w3 at *
      refine (markText_int _ (1 + 3 * j + 1) (by omega) w3 (by omega) (by omega)).mono ?_
      rintro e w4 ⟨rfl, hb4⟩
      have hO4 := own_kept (T := fun _ => False) (unhide R2).1 (Touch.ofBelow hb4) (fun _ _ h => h)
      have hT4 : Touch (fun k => k = g) w w4 := (unhide R2).2.trans (T' := fun _ => False) (Touch.ofBelow hb4) (fun _ _ h => h.elim)
      have c1 := (hO4.cellAt (j * 3 + 1) (by omega)).trans ((List.getElem?_set_ne (by omega)).trans (unhide HG).2.1)
      have f1 := hO4.frozenAt (j * 3 + 1)
      have c2 := (hO4.cellAt (j * 3 + 2) (by omega)).trans ((List.getElem?_set_ne (by omega)).trans (unhide HG).2.2)
      have f2 := hO4.frozenAt (j * 3 + 2)
      have hO5 := (hO4.stored (j * 3 + 1) (.string (mtx (1 + 3 * j + 1)))).1
      have hO6 := (hO5.stored (j * 3 + 2) (.int .i64 (1 + 3 * (j : Int) + 1 + 1))).1
      have hT6 := (hT4.setCell ⟨g, j * 3 + 1, none⟩ (.string (mtx (1 + 3 * j + 1))) (fun _ => rfl)).setCell ⟨g, j * 3 + 2, none⟩ (.int .i64 (1 + 3 * (j : Int) + 1 + 1)) (fun _ => rfl)
      have hset := flsC_set m j ⟨x1, mtx (1 + 3 * j + 1), 1 + 3 * (j : Int) + 1 + 1⟩ hjm
      dsimp only at hset
      rw [hset] at hO6
      have hfin : m.set j ⟨x1, mtx (1 + 3 * j + 1), 1 + 3 * (j : Int) + 1 + 1⟩ = fmkTo l (j + 1) := by
        rw [unhide HMJ, unhide HX1]; exact fmkTo_set l j hlt2
      rw [hfin] at hO6
      have R6 := hide (And.intro hO6 hT6)
      clear hb4 hO4 hT4 hO5 hO6 hT6 hset R2 HG HM hfin
      generalize mtx (1 + 3 * j + 1) = x2 at *
      go_wp2_with fail
      refine ⟨⟨j + 1, by omega, ?_, by go_num, (unhide R6).1, (unhide R6).2⟩, ?_⟩
      · have e : (1 : Int) + 3 * (j : Int) + 1 + 1 + 1 = 1 + 3 * ((j + 1 : Nat) : Int) := by omega
        rw [← e]
      · simp [intOf]; omega
    · obtain rfl : j = l.length := by omega
      have R := hide (And.intro hL hT)
      clear hL hT
      go_wp2_with fail
      go_ret
      refine ⟨rfl, ?_, (unhide R).2⟩
      have h9 := (unhide R).1
      rw [fmkTo_all] at h9
      exact h9
set_option maxRecDepth 100000 in
set_option maxHeartbeats 1000000 in
theorem markDiskK_any (room : Int) (B : Nat) (v : Value) (l : List Fl) (w : World) (h : OwnF B w v l) (hl : l.length ≤ 1048576) :
    Calls Tryz.prog 10 #[.agg #[.int .i64 room, v], .int .i64 1] w fun e w' => e = .returned (.int .i64 (1 + 3 * (l.length : Int))) ∧ OwnF B w' v (fmks l.length) ∧ Touch (fun k => v.ownBlock = some k) w w' := by
  rcases own_shape h with ⟨rfl, h0⟩ | ⟨g, cap, rfl, hB, hlt0, hn, hm⟩
  · obtain rfl : l = [] := List.eq_nil_of_length_eq_zero h0
    have T := hide (show Touch (fun k => (Value.slice none 0 0).ownBlock = some k) w (w.alloc (.cells #[.int .i64 room, .slice none 0 0] 28)) from (Touch.refl _ w).alloc _)
    clear h
    go_enter Tryz.func10, Tryz.ntmps10
    go_wp2_with fail
    generalize w.alloc (.cells #[.int .i64 room, .slice none 0 0] 28) = w1 at *
    have HM : Hid (∀ wx : World, Calls Tryz.prog 24 #[.slice none 0 0, .int .i64 1] wx fun e w' => e = .returned (.int .i64 1) ∧ w' = wx) := hide (fun wx => by
      go_enter Tryz.func24, Tryz.ntmps24
      go_wp2_with fail
      go_loop [1, 5] (fun k i => k = .int .i64 1 ∧ i = .int .i64 0) (fun _ _ => 0)
      case atStart => exact ⟨rfl, rfl⟩
      case round =>
        obtain ⟨rfl, rfl⟩ := hrel
        go_wp2_with fail
        go_ret
        exact ⟨rfl, rfl⟩)
    refine (unhide HM _).mono ?_
    rintro e w2 ⟨rfl, hw⟩
    subst w2
    go_wp2_with fail
    go_ret
    exact ⟨by simp, World.ownsRow_nil _ _ _ _, unhide T⟩
  · have H := hide (own_kept (T := fun _ => False) h (((Touch.refl _ w).alloc (.cells #[.int .i64 room, .slice (some ⟨g, 0, none⟩) l.length cap] 28))) (fun _ _ h => h))
    have T := hide ((Touch.refl (fun k => (Value.slice (some ⟨g, 0, none⟩) l.length cap).ownBlock = some k) w).alloc (.cells #[.int .i64 room, .slice (some ⟨g, 0, none⟩) l.length cap] 28))
    clear h
    go_enter Tryz.func10, Tryz.ntmps10
    go_wp2_with fail
    generalize w.alloc (.cells #[.int .i64 room, .slice (some ⟨g, 0, none⟩) l.length cap] 28) = w1 at *
    refine (markFileK_any B g cap l w1 (unhide H) hl).mono ?_
    rintro e w2 ⟨rfl, hO2, hT2⟩
    have T2 := hide ((unhide T).trans hT2 (fun k _ h => by subst h; rfl))
    have O2 := hide (show OwnF B w2 (.slice (some ⟨g, 0, none⟩) l.length cap) (fmks l.length) from by unfold OwnF; rw [fmks_len]; exact hO2)
    clear hT2 hO2 T H
    go_wp2_with fail
    go_ret
    exact ⟨rfl, unhide O2, unhide T2⟩
set_option maxRecDepth 100000 in
set_option maxHeartbeats 4000000 in
theorem heldFileS_any (B : Nat) (v : Value) (n : Nat) (w : World) (h : OwnF B w v (fmks n)) (hn : n ≤ 1048576) :
    Calls Tryz.prog 25 #[v, .int .i64 1] w fun e w' => e = .returned (.int .i64 (1 + 3 * (n : Int))) ∧ Below w.heap.size w w' := by
  rcases own_shape h with ⟨rfl, h0⟩ | ⟨g, cap, rfl, hB, hlt0, hn1, hm⟩
  · rw [fmks_len] at h0
    subst h0
    clear h
    go_enter Tryz.func25, Tryz.ntmps25
    go_wp2_with fail
    go_loop [1, 5] (fun k i => k = .int .i64 1 ∧ i = .int .i64 0) (fun _ _ => 0)
    case atStart => exact ⟨rfl, rfl⟩
    case round =>
      obtain ⟨rfl, rfl⟩ := hrel
      go_wp2_with fail
      go_ret
      exact ⟨rfl, Below.refl _ _⟩
  · have HC := hide (fun j hj => OwnF.cells h j hj rfl)
    have hml := fmks_len n
    rw [hml]
    clear h
    go_enter Tryz.func25, Tryz.ntmps25
    go_wp2_with fail
    go_loopw [1, 5] (fun k i wr => ∃ j : Nat, j ≤ n ∧ k = .int .i64 (1 + 3 * (j : Int)) ∧ i = .int .i64 j ∧ Below w.heap.size w wr) (fun _ i _ => n - (intOf i).toNat)
    case atStart => exact ⟨0, Nat.zero_le _, rfl, rfl, Below.refl _ _⟩
    case round =>
      obtain ⟨j, hj, rfl, rfl, hb⟩ := hrel
      by_cases hlt2 : j < n
      · obtain ⟨s0, s1, s2⟩ := unhide HC j (by omega)
        rw [fmks_get n j hlt2] at s0 s1 s2
        unfold fmk at s0 s1 s2
        dsimp only at s0 s1 s2
        have c0 := (hb.cell (p := ⟨g, j * 3, none⟩) hlt0).trans s0
        have HC1 := hide (fun wx (hx : Below w.heap.size w wx) => (hx.cell (p := ⟨g, j * 3 + 1, none⟩) hlt0).trans s1)
        have HC2 := hide (fun wx (hx : Below w.heap.size w wx) => (hx.cell (p := ⟨g, j * 3 + 2, none⟩) hlt0).trans s2)
        have p0 : (0 : Int) ≤ (j : Int) := by omega
        have p1 : (j : Int) < (n : Int) := by omega
        have q1 : IntKind.i64.wrap (1 + 3 * (j : Int) + 1) = 1 + 3 * (j : Int) + 1 := wrapMk _ (by omega) (by omega)
        have q2 : IntKind.i64.wrap (1 + 3 * (j : Int) + 1 + 1) = 1 + 3 * (j : Int) + 1 + 1 := wrapMk _ (by omega) (by omega)
        have q3 : IntKind.i64.wrap (1 + 3 * (j : Int) + 1 + 1 + 1) = 1 + 3 * (j : Int) + 1 + 1 + 1 := wrapMk _ (by omega) (by omega)
        have HB := hide hb
        have hz := hb.size
        clear hb s0 s1 s2
        go_wp2_with fail
        go_region_held3 (fun wx => wx.cell? ⟨g, j * 3, none⟩ = some (.string (mtx (1 + 3 * j)))) (first | go_keep | exact (hb2.cell (p := ⟨g, j * 3, none⟩) (by simp; omega)).trans (by assumption)) ((go_at_call 48; refine (markText_int _ (1 + 3 * j) (by omega) _ (by omega) (by omega)).mono ?_; rintro e w2 ⟨rfl, hb2⟩))
        all_goals
          have HB2 := hide ((unhide HB).trans (show Below w.heap.size wr w2 from (below_drewN (Below.refl _ wr) 1).trans (hb2.mono (by simpa using hz))))
          have c1 := unhide HC1 _ (unhide HB2)
          have hz2 := (unhide HB2).size
          clear hb2 HB HC1 c0
          go_wp2_with fail
          go_region_held3 (fun wx => wx.cell? ⟨g, j * 3 + 1, none⟩ = some (.string (mtx (1 + 3 * j + 1)))) (first | go_keep | exact (hb4.cell (p := ⟨g, j * 3 + 1, none⟩) (by simp; omega)).trans (by assumption)) ((go_at_call 48; refine (markText_int _ (1 + 3 * j + 1) (by omega) _ (by omega) (by omega)).mono ?_; rintro e w4 ⟨rfl, hb4⟩))
          all_goals
            have HB4 := hide ((unhide HB2).trans (show Below w.heap.size w2 w4 from (below_drewN (Below.refl _ w2) 1).trans (hb4.mono (by simpa using hz2))))
            have c2 := unhide HC2 _ (unhide HB4)
            clear hb4 HB2 HC2 c1
            go_wp2_with fail
            refine ⟨⟨j + 1, by omega, ?_, by go_num, unhide HB4⟩, ?_⟩
            · exact congrArg (Value.int .i64) (by omega)
            · simp [intOf]; omega
      · obtain rfl : j = n := by omega
        have R := hide hb
        clear hb
        go_wp2_with fail
        go_ret
        exact ⟨rfl, unhide R⟩
set_option maxRecDepth 100000 in
set_option maxHeartbeats 1000000 in
theorem heldDisk_any (room : Int) (B : Nat) (v : Value) (n : Nat) (w : World) (h : OwnF B w v (fmks n)) (hn : n ≤ 1048576) :
    Calls Tryz.prog 11 #[.agg #[.int .i64 room, v], .int .i64 1] w fun e w' => e = .returned (.int .i64 (1 + 3 * (n : Int))) ∧ Below w.heap.size w w' := by
  have B0 := hide ((Below.refl w.heap.size w).alloc (Nat.le_refl _) (.cells #[.int .i64 room, v] 28))
  have HH := hide (heldFileS_any B v n (w.alloc (.cells #[.int .i64 room, v] 28)) (h.below ((Below.refl w.heap.size w).alloc (Nat.le_refl _) _)) hn)
  obtain ⟨a, c, rfl, _⟩ := h.fls
  clear h
  have hp : decide ((1 : Int) + 3 * (n : Int) < 0) = false := by rw [decide_eq_false_iff_not]; omega
  have hp2 : ¬ (1 : Int) + 3 * (n : Int) < 0 := by omega
  go_enter Tryz.func11, Tryz.ntmps11
  go_wp2_with fail
  refine (unhide HH).mono ?_
  rintro e w2 ⟨rfl, hb⟩
  have R := hide ((unhide B0).trans (hb.mono (unhide B0).size))
  clear hb HH B0
  go_wp2_with fail
  go_ret
  exact ⟨rfl, unhide R⟩
end Go.Proofs.YtfihhkhdigbmiaaGreatDoor
namespace Go.Proofs.YtfihhkhdigbmiaaGreatDoor
open Go.ChangeShapes Go.WideShapes Go.ChangeAt Go.RowKit
set_option linter.unusedVariables false

/-- The wrap of a law whose row lists variables with what they hold, the world's shape kept. -/
theorem handed_shaped {H : Type} {enc : TypeId × Value → H} {a : Assume} {C : Checked} {os : Os} {f : FuncId} {fn : Func} {s : ChangeSpec} {conds : List PathCond} {apart fresh handsOn again : Bool} {X : World → Array Value → Prop}
    (hX : ∀ (w w' : World) (args : Array Value), w.heap = w'.heap → X w args → X w' args)
    (own : ownKnob C.prog.godebug = none) (started : os.Started) (noInit : C.prog.inits.idxOf? f = none) (hfn : C.prog.funcs[f]? = some fn)
    (witness : ∃ (w : World) (tape : Tape) (i : Input), w.os = os ∧ (w.forCall tape i).Shaped C.prog ∧ i.vars = [] ∧ Input.okWide C.prog (w.forCall tape i) .any w.heap.size f i ∧
      ((s.pre enc C.prog fn conds apart (w.forCall tape i).memory i.args ∧ X (w.forCall tape i).memory i.args) ∧ sizedMet enc C.prog fn (OpenSpec.ofChange s) apart (w.forCall tape i).memory i.args) ∧ a.holds C.prog (lone (Frame.enter C.prog f i.args .normal) [] (w.forCall tape i)))
    (contract : ∀ (W : World) (base : Nat) (args : Array Value) (ds gs : List (DataW H)) (before : List MemPlace),
      (∀ (j : Nat) t v, fn.params[j]? = some t → args[j]? = some v → Value.okWide C.prog W .any base t v) →
      DataW.Whole enc C.prog fn.params.toList s.vars apart W args.toList ds gs before →
      X W args → W.ShapedOpen C.prog →
      Calls C.prog f args W fun e W' => ∃ v, e = .returned v ∧ s.post enc C.prog fn apart fresh handsOn again W args v W') :
    ReturnsInHanded a C os f .any (fun w args => (s.pre enc C.prog fn conds apart w args ∧ X w args) ∧ sizedMet enc C.prog fn (OpenSpec.ofChange s) apart w args) (s.post enc C.prog fn apart fresh handsOn again) := by
  refine returnsInHanded_of_calls own started noInit witness ?_
  intro w tape i _ hsh _ hok hpre hholds
  obtain ⟨_, _, _, fn', hfn', _, _, _, _, hval⟩ := hok
  have e : fn' = fn := Option.some.inj (hfn'.symm.trans hfn)
  subst e
  obtain ⟨⟨⟨ds, gs, before, hw, hc⟩, hx⟩, hz⟩ := hpre
  have hw' := DataW.Whole.of_heap (w' := w.forCall tape i) (by rfl) hw
  refine (contract (w.forCall tape i) w.heap.size i.args ds gs before hval hw' (hX _ _ _ (by rfl) hx) hsh).mono fun e W' ⟨v, he, hp⟩ => ?_
  subst he
  exact ChangeSpec.post_blind hp
end Go.Proofs.YtfihhkhdigbmiaaGreatDoor
