/- spec.l04Read, walked. -/
import Derived.Test.YtlicgahjdgipkakSpP
import Derived.Test.YtlicgahjdgipkakFrQ
import Derived.Deep.DeepCutAuto
namespace Go.Proofs.Ytlicgahjdgipkak
open Go.ChangeShapes Go.WideShapes Go.ChangeAt Go.RowKit
set_option linter.unusedVariables false
set_option linter.unusedSimpArgs false

theorem Blk.belowB {B b : Nat} {w w' : World} {vs : List Value} (h : Blk w b vs) (hb : Below B w w') (hlt : b < B) : Blk w' b vs :=
  h.kept (T := fun k => B ≤ k) ⟨hb.os, hb.tape, hb.output, hb.size, fun k _ hn => hb.block k (by omega)⟩ (by omega)
theorem touch_after {T : Nat → Prop} {wz w6 w7 : World} (hb : Below wz.drew.heap.size wz.drew w6) (h : Touch T w6 w7) : Touch T wz w7 :=
  ((Touch.refl T wz).drew).trans (T' := T) ((Touch.ofBelow (T := T) hb).trans h (fun _ _ e => e)) (fun _ _ e => e)
theorem add_off (b o j : Nat) : (⟨b, o, none⟩ : Addr).add j = ⟨b, o + j, none⟩ := by unfold Addr.add; split <;> simp_all
/-- The log copied into the answer's cells. -/
theorem sp_ret {w w1 wz : World} {lb : Nat} {lv : Value} {nums : List Int} {L : Lg} {rv nv : Value} (h : SpR (w.heap.size + 2) lb w1 lv nums L rv nv wz) (hr : Blk wz (w.heap.size + 1) [.int .i64 0, .slice none 0 0, .slice none 0 0, .int .i64 0]) (hb : Below w.heap.size w w1) (hle : w.heap.size ≤ w1.heap.size) :
    Blk ((((wz.setCell ⟨w.heap.size + 1, 0, none⟩ (.int .i64 L.first)).setCell ⟨w.heap.size + 1, 1, none⟩ rv).setCell ⟨w.heap.size + 1, 2, none⟩ nv).setCell ⟨w.heap.size + 1, 3, none⟩ (.int .i64 L.torn)) (w.heap.size + 1) [.int .i64 L.first, rv, nv, .int .i64 L.torn] ∧
    (OwnS (w.heap.size + 2) ((((wz.setCell ⟨w.heap.size + 1, 0, none⟩ (.int .i64 L.first)).setCell ⟨w.heap.size + 1, 1, none⟩ rv).setCell ⟨w.heap.size + 1, 2, none⟩ nv).setCell ⟨w.heap.size + 1, 3, none⟩ (.int .i64 L.torn)) rv L.recs ∧ OwnS (w.heap.size + 2) ((((wz.setCell ⟨w.heap.size + 1, 0, none⟩ (.int .i64 L.first)).setCell ⟨w.heap.size + 1, 1, none⟩ rv).setCell ⟨w.heap.size + 1, 2, none⟩ nv).setCell ⟨w.heap.size + 1, 3, none⟩ (.int .i64 L.torn)) nv L.names) ∧
    Below w.heap.size w ((((wz.setCell ⟨w.heap.size + 1, 0, none⟩ (.int .i64 L.first)).setCell ⟨w.heap.size + 1, 1, none⟩ rv).setCell ⟨w.heap.size + 1, 2, none⟩ nv).setCell ⟨w.heap.size + 1, 3, none⟩ (.int .i64 L.torn)) := by
  have T5 := (((((Touch.refl (fun k => k = w.heap.size + 1) wz).setCell ⟨w.heap.size + 1, 0, none⟩ (.int .i64 L.first) (fun _ => rfl)).setCell ⟨w.heap.size + 1, 1, none⟩ rv (fun _ => rfl)).setCell ⟨w.heap.size + 1, 2, none⟩ nv (fun _ => rfl)).setCell ⟨w.heap.size + 1, 3, none⟩ (.int .i64 L.torn) (fun _ => rfl))
  refine ⟨(((hr.set 0 (.int .i64 L.first) (by simp)).set 1 rv (by simp)).set 2 nv (by simp)).set 3 (.int .i64 L.torn) (by simp), ⟨h.rcs.kept T5 (fun k hk e => by have := (h.rcs.lt k hk).1; omega), h.nam.kept T5 (fun k hk e => by have := (h.nam.lt k hk).1; omega)⟩, ?_⟩
  have h1 := hb.trans (h.bel.mono (by omega))
  exact h1.trans (T5.below (B := w.heap.size) h1.size (fun k hk e => by omega))

set_option maxRecDepth 100000 in
set_option maxHeartbeats 2000000 in
theorem l04Read_any (room : Int) (v : Value) (l : List Fl) (w : World) (h : Fls w v l) (hd : diskB room l = true) (hs : Small l) :
    Calls Try.prog 21 #[.agg #[.int .i64 room, v]] w fun e w' => ∃ f ra rn rc na nn nc t, e = .returned (.tuple #[.agg #[.int .i64 f, .slice ra rn rc, .slice na nn nc, .int .i64 t], .int .i64 (lgRun (segsP l) 0).2]) ∧ ((lgRun (segsP l) 0).2 = 0 → f = (lgRun (segsP l) 0).1.first ∧ t = (lgRun (segsP l) 0).1.torn ∧ WalA (w.heap.size + 2) w' (lgRun (segsP l) 0).1 (.slice ra rn rc) (.slice na nn nc)) ∧ Below w.heap.size w w' := by
  have HF := hide h
  have HS := hide hs
  have HD := hide hd
  have HLn := hide (disk_len hd)
  obtain ⟨a, cap, rfl, hn, hm, hc⟩ := h
  clear hc hm hn hs hd
  have BA := ((((Below.refl w.heap.size w).alloc (Nat.le_refl _) (.cells #[.int .i64 room, .slice a l.length cap] 33)).alloc (by simp) (.cells #[.int .i64 0, .slice none 0 0, .slice none 0 0, .int .i64 0] 28)).alloc (by simp; omega) (.cells #[] 9)).alloc (by simp; omega) (.cells #[] 9)
  have X0 := (((((Blk.new w #[.int .i64 room, .slice a l.length cap] 33 w.heap.size rfl).alloc (.cells #[.int .i64 0, .slice none 0 0, .slice none 0 0, .int .i64 0] 28)).alloc (.cells #[] 9)).alloc (.cells #[] 9)).alloc (.cells #[.int .i64 0, .slice (some ⟨w.heap.size + 1 + 1, 0, none⟩) 0 0, .slice (some ⟨w.heap.size + 1 + 1 + 1, 0, none⟩) 0 0, .int .i64 0] 28))
  have R0 := ((((Blk.new (w.alloc (.cells #[.int .i64 room, .slice a l.length cap] 33)) #[.int .i64 0, .slice none 0 0, .slice none 0 0, .int .i64 0] 28 (w.heap.size + 1) (by simp)).alloc (.cells #[] 9)).alloc (.cells #[] 9)).alloc (.cells #[.int .i64 0, .slice (some ⟨w.heap.size + 1 + 1, 0, none⟩) 0 0, .slice (some ⟨w.heap.size + 1 + 1 + 1, 0, none⟩) 0 0, .int .i64 0] 28))
  have O1 := ownS_empty ((w.alloc (.cells #[.int .i64 room, .slice a l.length cap] 33)).alloc (.cells #[.int .i64 0, .slice none 0 0, .slice none 0 0, .int .i64 0] 28)) (w.heap.size + 2) (w.heap.size + 1 + 1) (by simp) (by simp)
  have O2 := ownS_empty (((w.alloc (.cells #[.int .i64 room, .slice a l.length cap] 33)).alloc (.cells #[.int .i64 0, .slice none 0 0, .slice none 0 0, .int .i64 0] 28)).alloc (.cells #[] 9)) (w.heap.size + 2) (w.heap.size + 1 + 1 + 1) (by simp) (by simp)
  have L0 := Blk.new ((((w.alloc (.cells #[.int .i64 room, .slice a l.length cap] 33)).alloc (.cells #[.int .i64 0, .slice none 0 0, .slice none 0 0, .int .i64 0] 28)).alloc (.cells #[] 9)).alloc (.cells #[] 9)) #[.int .i64 0, .slice (some ⟨w.heap.size + 1 + 1, 0, none⟩) 0 0, .slice (some ⟨w.heap.size + 1 + 1 + 1, 0, none⟩) 0 0, .int .i64 0] 28 (w.heap.size + 1 + 1 + 1 + 1) (by simp)
  have HX0 := hide X0
  have HR0 := hide R0
  have HL0 := hide L0
  have al : ∀ (w : World) (o : Obj), Below w.heap.size w (w.alloc o) := fun w o => (Below.refl _ w).alloc (Nat.le_refl _) o
  have HO1 := hide ((O1.below (al _ (.cells #[] 9))).below (al _ (.cells #[.int .i64 0, .slice (some ⟨w.heap.size + 1 + 1, 0, none⟩) 0 0, .slice (some ⟨w.heap.size + 1 + 1 + 1, 0, none⟩) 0 0, .int .i64 0] 28)))
  have HO2 := hide (O2.below (al _ (.cells #[.int .i64 0, .slice (some ⟨w.heap.size + 1 + 1, 0, none⟩) 0 0, .slice (some ⟨w.heap.size + 1 + 1 + 1, 0, none⟩) 0 0, .int .i64 0] 28)))
  have HB0 := hide (BA.alloc (by simp; omega) (.cells #[.int .i64 0, .slice (some ⟨w.heap.size + 1 + 1, 0, none⟩) 0 0, .slice (some ⟨w.heap.size + 1 + 1 + 1, 0, none⟩) 0 0, .int .i64 0] 28))
  clear BA X0 R0 O1 O2 L0 al
  go_enter Try.func21, Try.ntmps21
  go_wp2_with fail
  generalize ((((w.alloc (.cells #[.int .i64 room, .slice a l.length cap] 33)).alloc (.cells #[.int .i64 0, .slice none 0 0, .slice none 0 0, .int .i64 0] 28)).alloc (.cells #[] 9)).alloc (.cells #[] 9)).alloc (.cells #[.int .i64 0, .slice (some ⟨w.heap.size + 1 + 1, 0, none⟩) 0 0, .slice (some ⟨w.heap.size + 1 + 1 + 1, 0, none⟩) 0 0, .int .i64 0] 28) = w0 at *
  refine (l04Segments_any room _ l w0 ((unhide HF).below (unhide HB0)) (unhide HLn) (fun i hi => ((unhide HS).2.2 i).1)).mono ?_
  rintro e w1 ⟨lv, rfl, hN1, hb1⟩
  obtain ⟨la, ln, lc, rfl⟩ : ∃ la ln lc, lv = .slice la ln lc := by
    rcases own_shape hN1 with ⟨h, _⟩ | ⟨g, c, h, _⟩
    · exact ⟨_, _, _, h⟩
    · exact ⟨_, _, _, h⟩
  have hln : ln = (segsP l).length := by
    have h1 := nums_len l
    rcases own_shape hN1 with ⟨h, h0⟩ | ⟨g, c, h, _⟩
    · cases h; omega
    · cases h; omega
  have hz0 : w.heap.size + 5 ≤ w0.heap.size := (unhide HL0).1
  have HX1 := hide ((unhide HX0).below hb1)
  have HR1 := hide ((unhide HR0).below hb1)
  have HWB0 := hide ((unhide HB0).trans (hb1.mono (unhide HB0).size))
  have HSP : Hid (SpR (w.heap.size + 2) (w.heap.size + 1 + 1 + 1 + 1) w1 (.slice la ln lc) (numsP l) lg0 (.slice (some ⟨w.heap.size + 1 + 1, 0, none⟩) 0 0) (.slice (some ⟨w.heap.size + 1 + 1 + 1, 0, none⟩) 0 0) w1) := hide ⟨Below.refl _ _, (unhide HL0).below hb1, (unhide HO1).below hb1, (unhide HO2).below hb1, fun k hk e => by
    have h1 : w.heap.size + 1 + 1 = k := by simpa [Value.ownBlock] using hk
    have h2 : w.heap.size + 1 + 1 + 1 = k := by simpa [Value.ownBlock] using e
    omega, fun k hk => by
    have h1 : w.heap.size + 1 + 1 = k := by simpa [Value.ownBlock] using hk
    omega, fun k hk => by
    have h1 : w.heap.size + 1 + 1 + 1 = k := by simpa [Value.ownBlock] using hk
    omega, World.ownsRow.mono hN1 (by omega), fun k hk => by have := (World.ownsRow.lt hN1 k hk).1; omega, by omega, Nat.le_trans (by omega) hb1.size⟩
  have hz1 := hb1.size
  clear hN1 hb1 HX0 HR0 HL0 HO1 HO2 HB0
  have hsg8 := segs_len l (unhide HLn)
  have HSM : Hid (∀ k, k < (segsP l).length → ((segsP l).getD k default).d.size ≤ 3000 ∧ ((segsP l).getD k default).n.size ≤ 1048576) := hide (fun k hk => by
    obtain ⟨i0, hi, he, _⟩ := seg_at (unhide HD) k hk
    rw [← he]
    exact ⟨file_small (unhide HD) i0 hi, ((unhide HS).2.2 i0).1⟩)
  have HAT := hide (fun k hk => seg_at (unhide HD) k hk)
  have HNG := hide (fun k hk => nums_get l k hk)
  have HNLn := hide (nums_len l)
  have HRC := hide (lgAt_recs (segsP l) (fun f hf => seg_small (unhide HD) f (List.mem_filter.1 hf).1))
  generalize hsgg : segsP l = sg at *
  have HSGE := hide hsgg
  clear hsgg
  subst hln
  generalize w.heap.size + 1 + 1 + 1 + 1 = lb at *
  have hlast : IntKind.i64.wrap ((sg.length : Int) - 1) = (sg.length : Int) - 1 := wrapSg _ (by omega) (by omega)
  go_wp2_with fail
  go_loopw [6] (fun i wr => ∃ (k : Nat) (ra : Option Addr) (rn rc : Nat) (na : Option Addr) (nn nc : Nat), k ≤ sg.length ∧ i = .int .i64 k ∧ lgGood sg k ∧ SpR (w.heap.size + 2) lb w1 (.slice la sg.length lc) (numsP l) (lgAt sg k) (.slice ra rn rc) (.slice na nn nc) wr ∧ 0 ≤ (lgAt sg k).first ∧ (lgAt sg k).first < 4294967296) (fun i _ => sg.length - (intOf i).toNat)
  case atStart => exact ⟨0, _, _, _, _, _, _, Nat.zero_le _, rfl, lgGood.zero sg, unhide HSP, by show (0 : Int) ≤ 0; omega, by show (0 : Int) < 4294967296; omega⟩
  case round =>
    obtain ⟨k, ra, rn, rc, na, nn, nc, hk, rfl, hgood, hR, hBF⟩ := hrel
    have HBF := hide hBF
    have HGO := hide hgood
    have HR := hide hR
    have HRB := hide ((unhide HR1).belowB hR.bel (by omega))
    have hzr := hR.bel.size
    clear hBF hgood HSP
    by_cases hlt : k < sg.length
    · have HX := hide ((unhide HX1).belowB hR.bel (by omega))
      clear hR
      obtain ⟨i0, hi0, hfl, hpl, hno⟩ := unhide HAT k hlt
      obtain ⟨hds, hns⟩ := unhide HSM k hlt
      have hk0 : (0 : Int) ≤ (k : Int) := by omega
      have hk1 : (k : Int) < (sg.length : Int) := by omega
      have hll : l.length ≤ 1048576 := by have := unhide HLn; omega
      obtain ⟨g, rfl⟩ : ∃ g, la = some ⟨g, 0, none⟩ := by
        rcases own_shape (unhide HR).num with ⟨h, _⟩ | ⟨g, c, h, _⟩
        · obtain ⟨_, h2, _⟩ := Value.slice.inj h
          omega
        · obtain ⟨h1, _, _⟩ := Value.slice.inj h
          exact ⟨g, h1⟩
      have hpr := plc_range (sg.getD k default).n
      have hseg := segN_plc hpl
      have hcl := OwnN.cell (unhide HR).num k (by rw [unhide HNLn]; exact hlt)
      rw [unhide HNG k hlt] at hcl
      have HDT := hide (fun (p : Wb wr) => l04Data_any room (.slice a l.length cap) l (plcP (sg.getD k default).n) i0 p.at_ ((unhide HF).below (((unhide HWB0).trans ((unhide HR).bel.mono (by omega))).trans (p.below.mono (by have := (unhide HWB0).size; omega)))) hi0 hll hpr.1 hpr.2 (by rw [hfl, hseg]) (fun j hj => by rw [hseg]; exact hno j hj))
      have HNAME := hide (fun wx => l04Name_any (plcP (sg.getD k default).n) wx hpr.1 hpr.2)
      rw [hseg] at HNAME
      rw [hfl] at HDT
      have HPL := hide hpl
      clear hno hfl hseg hpl
      obtain ⟨f, hff⟩ : ∃ f, f = sg.getD k default := ⟨_, rfl⟩
      rw [← hff] at hds hns hcl HDT HNAME hpr HPL
      have HFX := hide hff.symm
      clear hff
      obtain ⟨fn, fd, fs⟩ := f
      dsimp only at hds hns hcl HDT HNAME hpr HPL
      have zb := (unhide HR).box.1
      have zx := (unhide HX).1
      have zl := World.block_lt_of_cell? wr _ hcl
      dsimp only at zl
      have d0 := Wb.cell ((unhide HX).cell 0 rfl) zx
      have d1 := Wb.cell ((unhide HX).cell 1 rfl) zx
      have d2 := Wb.cell hcl zl
      go_wp2_with fail
      refine wp_region_wb (by kernel_rfl) (by kernel_rfl) ?_
      repeat (go_big_quiet_step ((go_at_call 43; exact wb_of (unhide HDT _))))
      refine wpQuiet_nil ?_
      intro w2 hw'
      obtain ⟨⟨wq, hb2⟩, hq⟩ := hw'
      change w2 = wq at hq
      subst hq
      have HR2 := hide ((unhide HR).below hb2)
      have HRB2 := hide ((unhide HRB).below hb2)
      have hcl2 := (hb2.cell (p := ⟨g, k, none⟩) zl).trans hcl
      have hz2 := hb2.size
      have HNBW : Hid (∀ j, (Value.slice na nn nc).ownBlock = some j → j < wr.heap.size) := hide (fun j hj => ((unhide HR).nam.lt j hj).2)
      clear hb2 d0 d1 d2 HX HDT HR HRB hcl
      obtain ⟨cap3, w3, hcv, hRd3, hb3⟩ := str_bytes fd w2 (by unfold maxLen; omega)
      have HRd := hide hRd3
      have HR3 := hide ((unhide HR2).below hb3)
      have HRB3 := hide ((unhide HRB2).below hb3)
      have hcl3 := (hb3.cell (p := ⟨g, k, none⟩) (Nat.lt_of_lt_of_le zl hz2)).trans hcl2
      have hz3 := hb3.size
      go_wp2_with fail
      clear hcv hRd3 hb3 HR2 HRB2 hcl2
      refine (l02Frames_any _ _ (bytesI fd) w3 (unhide HRd) (by rw [bytesI_len2]; omega)).mono ?_
      rintro e w4 ⟨dv, rfl, hO4, hb4⟩
      have HR4 := hide ((unhide HR3).below hb4)
      have HRB4 := hide ((unhide HRB3).below hb4)
      have hcl4 := (hb4.cell (p := ⟨g, k, none⟩) (Nat.lt_of_lt_of_le zl (Nat.le_trans hz2 hz3))).trans hcl3
      have hz4 := hb4.size
      have HFR : Hid (frP (bytesI fd) 0 = frF ⟨fn, fd, fs⟩) := hide rfl
      rw [unhide HFR] at hO4 ⊢
      obtain ⟨da, dc, rfl⟩ : ∃ da dc, dv = .slice da (frF ⟨fn, fd, fs⟩).1.length dc := by
        obtain ⟨a', c', h'⟩ := ownS_form hO4
        rw [List.length_map] at h'
        exact ⟨a', c', h'⟩
      have HO4 := hide hO4
      have HDN : Hid (∀ j, (Value.slice da (frF ⟨fn, fd, fs⟩).1.length dc).ownBlock = some j → w3.heap.size ≤ j) := hide (fun j hj => (hO4.lt j hj).1)
      have hlen : (frF ⟨fn, fd, fs⟩).1.length ≤ 3000 := Nat.le_trans (frF_len ⟨fn, fd, fs⟩) hds
      have hpos := frF_pos ⟨fn, fd, fs⟩
      dsimp only at hpos
      clear hb4 hO4 HR3 HRB3 HRd hcl3
      obtain ⟨wh, hwh⟩ : ∃ wh : Nat, wh = (frF ⟨fn, fd, fs⟩).2.1 := ⟨_, rfl⟩
      obtain ⟨bh, hbh⟩ : ∃ bh : Int, bh = (frF ⟨fn, fd, fs⟩).2.2 := ⟨_, rfl⟩
      rw [← hwh] at hpos
      rw [← hwh, ← hbh]
      have HWB := hide (And.intro hwh hbh)
      clear hwh hbh
      obtain ⟨fl, hfl⟩ : ∃ fl : Nat, fl = (frF ⟨fn, fd, fs⟩).1.length := ⟨_, rfl⟩
      rw [← hfl] at hlen HO4 HDN ⊢
      have HFL := hide hfl
      clear hfl
      go_upto_region 9 with fail
      go_cut [52] (fun s wx => s = .bool (decide (bh = 8 ∨ (bh = 16 ∧ k + 1 < sg.length))) ∧ wx = w4)
      case first =>
        rcases (show bh = 8 ∨ (bh = 16 ∧ k + 1 < sg.length) ∨ (bh ≠ 8 ∧ bh ≠ 16) ∨ (bh = 16 ∧ k + 1 = sg.length) by omega) with hb8 | ⟨hb16, hk2⟩ | ⟨hn8, hn16⟩ | ⟨hb16, hk2⟩
        · have HDD := hide (show decide (bh = 8 ∨ (bh = 16 ∧ k + 1 < sg.length)) = true by rw [decide_eq_true_eq]; exact .inl hb8)
          have e8 : (bh == 8) = true := by rw [beq_iff_eq]; exact hb8
          clear hb8
          go_wp2_with fail
          go_meet
          exact ⟨congrArg Value.bool (unhide HDD).symm, rfl⟩
        · have HDD := hide (show decide (bh = 8 ∨ (bh = 16 ∧ k + 1 < sg.length)) = true by rw [decide_eq_true_eq]; exact .inr ⟨hb16, hk2⟩)
          have e8 : (bh == 8) = false := by rw [beq_eq_false_iff_ne]; omega
          have e16 : (bh == 16) = true := by rw [beq_iff_eq]; exact hb16
          have e3 : ((k : Int) == (sg.length : Int) - 1) = false := by rw [beq_eq_false_iff_ne]; omega
          clear hb16 hk2
          go_wp2_with fail
          go_meet
          exact ⟨congrArg Value.bool (unhide HDD).symm, rfl⟩
        · have HDD := hide (show decide (bh = 8 ∨ (bh = 16 ∧ k + 1 < sg.length)) = false by rw [decide_eq_false_iff_not]; omega)
          have e8 : (bh == 8) = false := by rw [beq_eq_false_iff_ne]; exact hn8
          have e16 : (bh == 16) = false := by rw [beq_eq_false_iff_ne]; exact hn16
          clear hn8 hn16
          go_wp2_with fail
          go_meet
          exact ⟨congrArg Value.bool (unhide HDD).symm, rfl⟩
        · have HDD := hide (show decide (bh = 8 ∨ (bh = 16 ∧ k + 1 < sg.length)) = false by rw [decide_eq_false_iff_not]; omega)
          have e8 : (bh == 8) = false := by rw [beq_eq_false_iff_ne]; omega
          have e16 : (bh == 16) = true := by rw [beq_iff_eq]; exact hb16
          have e3 : ((k : Int) == (sg.length : Int) - 1) = true := by rw [beq_iff_eq]; omega
          clear hb16 hk2
          go_wp2_with fail
          go_meet
          exact ⟨congrArg Value.bool (unhide HDD).symm, rfl⟩
      case rest =>
        obtain ⟨rfl, hwc⟩ := hcut
        have hwc2 := hwc.symm
        clear hwc
        subst hwc2
        cases hd5 : decide (bh = 8 ∨ (bh = 16 ∧ k + 1 < sg.length))
        case true =>
          have hc : lgCode sg k (lgAt sg k) = 8 := by
            unfold lgCode
            rw [unhide HFX, ← (unhide HWB).2, if_pos (of_decide_eq_true hd5)]
          have HDB := hide ((unhide HGO).bad hlt (by rw [hc]; decide))
          rw [hc] at HDB
          clear hc hd5
          have l0 := (unhide HR4).box.cell 0 rfl
          have l1 := (unhide HR4).box.cell 1 rfl
          have l2 := (unhide HR4).box.cell 2 rfl
          have l3 := (unhide HR4).box.cell 3 rfl
          have r0 := (unhide HRB4).cell 0 rfl
          have r1 := (unhide HRB4).cell 1 rfl
          have r2 := (unhide HRB4).cell 2 rfl
          have r3 := (unhide HRB4).cell 3 rfl
          have f0 := (unhide HRB4).fro 0
          have f1 := (unhide HRB4).fro 1
          have f2 := (unhide HRB4).fro 2
          have f3 := (unhide HRB4).fro 3
          have RT := hide (sp_ret (unhide HR4) (unhide HRB4) (unhide HWB0) (by omega))
          go_wp2_with fail
          generalize (((w4.setCell ⟨w.heap.size + 1, 0, none⟩ (.int .i64 ((lgAt sg k)).first)).setCell ⟨w.heap.size + 1, 1, none⟩ (.slice ra rn rc)).setCell ⟨w.heap.size + 1, 2, none⟩ (.slice na nn nc)).setCell ⟨w.heap.size + 1, 3, none⟩ (.int .i64 ((lgAt sg k)).torn) = wf at *
          have z0 := (unhide RT).1.cell 0 rfl
          have z1 := (unhide RT).1.cell 1 rfl
          have z2 := (unhide RT).1.cell 2 rfl
          have z3 := (unhide RT).1.cell 3 rfl
          refine bodyPost_ret (v := .tuple #[.agg #[.int .i64 ((lgAt sg k)).first, (.slice ra rn rc), (.slice na nn nc), .int .i64 ((lgAt sg k)).torn], .int .i64 8]) (by simp [results, Try.results21, go_sem, z0, z1, z2, z3]) rfl ?_
          rw [unhide HSGE, unhide HDB]
          exact ⟨_, _, _, _, _, _, _, _, rfl, fun h => absurd h (by decide), (unhide RT).2.2⟩
        have HA : Hid (¬ ((frF (sg.getD k default)).2.2 = 8 ∨ ((frF (sg.getD k default)).2.2 = 16 ∧ k + 1 < sg.length))) := by
          rw [unhide HFX, ← (unhide HWB).2]
          exact hide (of_decide_eq_false hd5)
        clear hd5
        go_wp2_with fail
        go_cut [68] (fun s wx => s = .bool (decide (0 < k ∧ plcP fn ≠ plcP (sg.getD (k - 1) default).n + 1)) ∧ ∃ n, wx = w4.drewN n)
        case first =>
          rcases Nat.eq_zero_or_pos k with hk00 | hkp
          · have HDD := hide (show decide (0 < k ∧ plcP fn ≠ plcP (sg.getD (k - 1) default).n + 1) = false by rw [decide_eq_false_iff_not]; omega)
            have p0d : decide (0 < k) = false := by rw [decide_eq_false_iff_not]; omega
            clear hk00
            go_quiet (fail)
            go_wp2_with fail
            go_meet
            exact ⟨congrArg Value.bool (unhide HDD).symm, nq, rfl⟩
          · obtain ⟨kp, hkp1⟩ : ∃ kp : Nat, kp + 1 = k := ⟨k - 1, by omega⟩
            have hki : (k : Int) - 1 = (kp : Int) := by omega
            have mk : IntKind.i64.wrap (kp : Int) = (kp : Int) := wrapSg _ (by omega) (by omega)
            have hkpl : kp < sg.length := by omega
            have hkpi : (kp : Int) < (sg.length : Int) := by omega
            have hkpz : (0 : Int) ≤ (kp : Int) := by omega
            have hkpd : decide (0 < k) = true := by simpa using hkp
            have p0 := OwnN.cell (unhide HR4).num kp (by rw [unhide HNLn]; exact hkpl)
            rw [unhide HNG kp hkpl] at p0
            have HEQ : Hid (decide (0 < k ∧ plcP fn ≠ plcP (sg.getD (k - 1) default).n + 1) = (plcP fn != plcP (sg.getD kp default).n + 1)) := by
              rw [show k - 1 = kp by omega]
              exact hide (by rw [Bool.eq_iff_iff]; simp [hkp])
            have r2 := plc_range (sg.getD kp default).n
            have m2 := wrapSg (plcP (sg.getD kp default).n + 1) (by omega) (by omega)
            clear hkp1
            generalize plcP (sg.getD kp default).n = pl2 at *
            generalize plcP fn = pl1 at *
            go_quiet (fail)
            go_wp2_with fail
            go_meet
            exact ⟨congrArg Value.bool (unhide HEQ).symm, nq, rfl⟩
        case rest =>
          obtain ⟨rfl, n2, rfl⟩ := hcut
          have hbd := below_drewN (Below.refl w4.heap.size w4) n2
          have HR5 := hide ((unhide HR4).below hbd)
          have HRB5 := hide ((unhide HRB4).below hbd)
          have HO5 := hide ((unhide HO4).below hbd)
          have hcl5 : (w4.drewN n2).cell? ⟨g, k, none⟩ = _ := hcl4
          have hz5 : w4.heap.size ≤ (w4.drewN n2).heap.size := hbd.size
          clear hbd HR4 HRB4 HO4 hcl4
          generalize w4.drewN n2 = w5 at *
          cases hd7 : decide (0 < k ∧ plcP fn ≠ plcP (sg.getD (k - 1) default).n + 1)
          case true =>
            have hc : lgCode sg k (lgAt sg k) = 3 := by
              unfold lgCode
              rw [if_neg (unhide HA), unhide HFX, if_pos (of_decide_eq_true hd7)]
            have HDB := hide ((unhide HGO).bad hlt (by rw [hc]; decide))
            rw [hc] at HDB
            clear hc hd7
            have l0 := (unhide HR5).box.cell 0 rfl
            have l1 := (unhide HR5).box.cell 1 rfl
            have l2 := (unhide HR5).box.cell 2 rfl
            have l3 := (unhide HR5).box.cell 3 rfl
            have r0 := (unhide HRB5).cell 0 rfl
            have r1 := (unhide HRB5).cell 1 rfl
            have r2 := (unhide HRB5).cell 2 rfl
            have r3 := (unhide HRB5).cell 3 rfl
            have f0 := (unhide HRB5).fro 0
            have f1 := (unhide HRB5).fro 1
            have f2 := (unhide HRB5).fro 2
            have f3 := (unhide HRB5).fro 3
            have RT := hide (sp_ret (unhide HR5) (unhide HRB5) (unhide HWB0) (by omega))
            go_wp2_with fail
            generalize (((w5.setCell ⟨w.heap.size + 1, 0, none⟩ (.int .i64 ((lgAt sg k)).first)).setCell ⟨w.heap.size + 1, 1, none⟩ (.slice ra rn rc)).setCell ⟨w.heap.size + 1, 2, none⟩ (.slice na nn nc)).setCell ⟨w.heap.size + 1, 3, none⟩ (.int .i64 ((lgAt sg k)).torn) = wf at *
            have z0 := (unhide RT).1.cell 0 rfl
            have z1 := (unhide RT).1.cell 1 rfl
            have z2 := (unhide RT).1.cell 2 rfl
            have z3 := (unhide RT).1.cell 3 rfl
            refine bodyPost_ret (v := .tuple #[.agg #[.int .i64 ((lgAt sg k)).first, (.slice ra rn rc), (.slice na nn nc), .int .i64 ((lgAt sg k)).torn], .int .i64 3]) (by simp [results, Try.results21, go_sem, z0, z1, z2, z3]) rfl ?_
            rw [unhide HSGE, unhide HDB]
            exact ⟨_, _, _, _, _, _, _, _, rfl, fun h => absurd h (by decide), (unhide RT).2.2⟩
          have HB7 : Hid (¬ (0 < k ∧ plcP (sg.getD k default).n ≠ plcP (sg.getD (k - 1) default).n + 1)) := by
            rw [unhide HFX]; exact hide (of_decide_eq_false hd7)
          clear hd7
          have HNL := hide (lgAt_names sg k)
          obtain ⟨bl, hbl⟩ : ∃ bl : Bool, bl = ((k : Int) == (sg.length : Int) - 1) := ⟨_, rfl⟩
          rw [← hbl]
          rcases Nat.eq_zero_or_pos fl with hf0 | hfp
          · have HEMP : Hid ((frF ⟨fn, fd, fs⟩).1 = []) := hide (List.eq_nil_of_length_eq_zero (by rw [← unhide HFL]; exact hf0))
            have e0 : ((fl : Int) == 0) = true := by rw [beq_iff_eq]; omega
            by_cases hla : k + 1 = sg.length
            · obtain rfl : bl = true := by rw [hbl, beq_iff_eq]; omega
              clear hbl
              have hc : lgCode sg k (lgAt sg k) = 0 := by
                unfold lgCode
                rw [if_neg (unhide HA), if_neg (unhide HB7), unhide HFX, if_pos (unhide HEMP), if_pos hla]
              have HDB := hide (((unhide HGO).next hlt hc).done (by omega))
              have hq : lgAt sg (k + 1) = ⟨(lgAt sg k).first, (lgAt sg k).recs, (lgAt sg k).names ++ [fn], (fd.size : Int)⟩ := by
                show lgNext sg k (lgAt sg k) = _
                unfold lgNext
                have h0 := frP_none (bytesI fd) 0 (unhide HEMP)
                have h1 : (frF ⟨fn, fd, fs⟩).2.1 = 0 := h0
                rw [unhide HFX, unhide HEMP, h1]; simp
              rw [hq] at HDB
              clear hc hq hf0 hla
              go_wp2_with fail
              go_cut [84] (fun s wx => ∃ ga gn gc, SpR (w.heap.size + 2) lb w1 (.slice (some ⟨g, 0, none⟩) sg.length lc) (numsP l) ⟨(lgAt sg k).first, (lgAt sg k).recs, (lgAt sg k).names ++ [fn], (lgAt sg k).torn⟩ (.slice ra rn rc) (.slice ga gn gc) wx ∧ Touch (fun k => (Value.slice na nn nc).ownBlock = some k ∨ k = lb) w5 wx)
              case first =>
                have hbd := below_drewN (Below.refl w5.heap.size w5) 1
                have HRd := hide ((unhide HR5).below hbd)
                have l2 := (unhide HR5).box.cell 2 rfl
                have hnl : (lgAt sg k).names.length ≤ 8 := by rw [unhide HNL]; omega
                obtain ⟨i0', hi, hz0', hz1', hz2'⟩ := info_parts infoS
                clear hbd
                go_region_law (first
                  | (refine step_append_lies _ (by rfl) _ _ _ (by rfl) (w.heap.size + 2) 9 i0' _ 1 16 Try.underlying26 hi hz0' hz1' hz2' rfl (by omega) (.slice na nn nc) (lgAt sg k).names.length ((lgAt sg k).names.map Value.string) (by rfl) (hR6.nam.below ((Below.refl w6.heap.size w6).alloc (Nat.le_refl _) (.cells #[.string fn] 9))) ⟨w6.heap.size, 0, none⟩ 1 1 [_] (by rfl) (by rfl) (World.news_of_block (cs := #[_]) (t := 9) (fr := (0, 0)) (heap_alloc_new w6 _)) (by simp [Value.oneCell']) (by omega) (by unfold maxLen; omega) (by omega) (by have := hR6.lw; have := hR6.bel.size; simp; omega) (w6.heap.size + 1) (by simp) ?_; intro gg capg w7 hown7 hgrow7 hat7 hlt7; have P7 := hR6.named hown7 hgrow7 hat7; have hc7 := P7.1; have hf7 := P7.2.1)
                  | (go_simp; go_at_call 45; refine (unhide HNAME _).mono ?_; rintro e w6 ⟨rfl, hb6⟩; have hR6 := (unhide HRd).below hb6; have l2b := hR6.box.cell 2 rfl; have l2c := (((Below.refl w6.heap.size w6).alloc (Nat.le_refl _) (.cells #[.string fn] 9)).cell (p := ⟨lb, 2, none⟩) hR6.box.1).trans l2b; go_simp))
                all_goals
                  go_wp2_with fail
                  go_meet
                  exact ⟨_, _, _, P7.2.2.1, touch_after hb6 P7.2.2.2⟩
              case rest =>
                obtain ⟨ga, gn, gc, hRn, hTn⟩ := hcut
                have HRN := hide (hRn.setTorn (fd.size : Int))
                have l3 := hRn.box.cell 3 rfl
                have f3x := hRn.box.fro 3
                have HRBN := hide ((unhide HR1).belowB (unhide HRN).bel (by omega))
                clear HR5 HRB5 hTn hRn
                go_upto_region 18 with fail
                clear l3 f3x
                generalize wc.setCell ⟨lb, 3, none⟩ (.int .i64 (fd.size : Int)) = w9 at *
                obtain ⟨M, hM⟩ : ∃ M : Lg, M = ⟨(lgAt sg k).first, (lgAt sg k).recs, (lgAt sg k).names ++ [fn], (fd.size : Int)⟩ := ⟨_, rfl⟩
                rw [← hM] at HDB
                have HRM : Hid (SpR (w.heap.size + 2) lb w1 (.slice (some ⟨g, 0, none⟩) sg.length lc) (numsP l) M (.slice ra rn rc) (.slice ga gn gc) w9) := by rw [hM]; exact HRN
                clear HRN hM
                have l0 := (unhide HRM).box.cell 0 rfl
                have l1 := (unhide HRM).box.cell 1 rfl
                have l2 := (unhide HRM).box.cell 2 rfl
                have l3 := (unhide HRM).box.cell 3 rfl
                have r0 := (unhide HRBN).cell 0 rfl
                have r1 := (unhide HRBN).cell 1 rfl
                have r2 := (unhide HRBN).cell 2 rfl
                have r3 := (unhide HRBN).cell 3 rfl
                have f0 := (unhide HRBN).fro 0
                have f1 := (unhide HRBN).fro 1
                have f2 := (unhide HRBN).fro 2
                have f3 := (unhide HRBN).fro 3
                have RT := hide (sp_ret (unhide HRM) (unhide HRBN) (unhide HWB0) (by omega))
                go_wp2_with fail
                generalize (((w9.setCell ⟨w.heap.size + 1, 0, none⟩ (.int .i64 (M).first)).setCell ⟨w.heap.size + 1, 1, none⟩ (.slice ra rn rc)).setCell ⟨w.heap.size + 1, 2, none⟩ (.slice ga gn gc)).setCell ⟨w.heap.size + 1, 3, none⟩ (.int .i64 (M).torn) = wf at *
                have z0 := (unhide RT).1.cell 0 rfl
                have z1 := (unhide RT).1.cell 1 rfl
                have z2 := (unhide RT).1.cell 2 rfl
                have z3 := (unhide RT).1.cell 3 rfl
                refine bodyPost_ret (v := .tuple #[.agg #[.int .i64 (M).first, (.slice ra rn rc), (.slice ga gn gc), .int .i64 (M).torn], .int .i64 0]) (by simp [results, Try.results21, go_sem, z0, z1, z2, z3]) rfl ?_
                rw [unhide HSGE, unhide HDB]
                exact ⟨_, _, _, _, _, _, _, _, rfl, fun _ => ⟨rfl, rfl, (unhide RT).2.1.1, (unhide RT).2.1.2, (unhide HRM).dis, ownS_form (unhide RT).2.1.1, ownS_form (unhide RT).2.1.2⟩, (unhide RT).2.2⟩
            · obtain rfl : bl = false := by rw [hbl, beq_eq_false_iff_ne]; omega
              clear hbl
              have hc : lgCode sg k (lgAt sg k) = 3 := by
                unfold lgCode
                rw [if_neg (unhide HA), if_neg (unhide HB7), unhide HFX, if_pos (unhide HEMP), if_neg hla]
              have HDB := hide ((unhide HGO).bad hlt (by rw [hc]; decide))
              rw [hc] at HDB
              clear hc hf0 hla
              have l0 := (unhide HR5).box.cell 0 rfl
              have l1 := (unhide HR5).box.cell 1 rfl
              have l2 := (unhide HR5).box.cell 2 rfl
              have l3 := (unhide HR5).box.cell 3 rfl
              have r0 := (unhide HRB5).cell 0 rfl
              have r1 := (unhide HRB5).cell 1 rfl
              have r2 := (unhide HRB5).cell 2 rfl
              have r3 := (unhide HRB5).cell 3 rfl
              have f0 := (unhide HRB5).fro 0
              have f1 := (unhide HRB5).fro 1
              have f2 := (unhide HRB5).fro 2
              have f3 := (unhide HRB5).fro 3
              have RT := hide (sp_ret (unhide HR5) (unhide HRB5) (unhide HWB0) (by omega))
              go_wp2_with fail
              generalize (((w5.setCell ⟨w.heap.size + 1, 0, none⟩ (.int .i64 ((lgAt sg k)).first)).setCell ⟨w.heap.size + 1, 1, none⟩ (.slice ra rn rc)).setCell ⟨w.heap.size + 1, 2, none⟩ (.slice na nn nc)).setCell ⟨w.heap.size + 1, 3, none⟩ (.int .i64 ((lgAt sg k)).torn) = wf at *
              have z0 := (unhide RT).1.cell 0 rfl
              have z1 := (unhide RT).1.cell 1 rfl
              have z2 := (unhide RT).1.cell 2 rfl
              have z3 := (unhide RT).1.cell 3 rfl
              refine bodyPost_ret (v := .tuple #[.agg #[.int .i64 ((lgAt sg k)).first, (.slice ra rn rc), (.slice na nn nc), .int .i64 ((lgAt sg k)).torn], .int .i64 3]) (by simp [results, Try.results21, go_sem, z0, z1, z2, z3]) rfl ?_
              rw [unhide HSGE, unhide HDB]
              exact ⟨_, _, _, _, _, _, _, _, rfl, fun h => absurd h (by decide), (unhide RT).2.2⟩
          · clear hbl
            have e0 : ((fl : Int) == 0) = false := by rw [beq_eq_false_iff_ne]; omega
            have HNE : Hid (¬ (frF ⟨fn, fd, fs⟩).1 = []) := hide (fun h => by have := unhide HFL; rw [h] at this; simp at this; omega)
            obtain ⟨dg, rfl⟩ : ∃ dg, da = some ⟨dg, 0, none⟩ := by
              rcases own_shape (unhide HO5) with ⟨h, _⟩ | ⟨dg, c, h, _⟩
              · obtain ⟨_, h2, _⟩ := Value.slice.inj h
                omega
              · obtain ⟨h1, _, _⟩ := Value.slice.inj h
                exact ⟨dg, h1⟩
            have hfl0 : (0 : Int) < (fl : Int) := by omega
            have hget0 : ((frF ⟨fn, fd, fs⟩).1.map strOfNums).getD 0 ByteArray.empty = strOfNums ((frF ⟨fn, fd, fs⟩).1.getD 0 []) := by
              have hp0 : 0 < (frF ⟨fn, fd, fs⟩).1.length := by rw [← unhide HFL]; exact hfp
              rw [List.getD_eq_getElem?_getD, List.getElem?_map, List.getD_eq_getElem?_getD, List.getElem?_eq_getElem hp0]; rfl
            have q0 := OwnS.cell (unhide HO5) 0 (by rw [List.length_map, ← unhide HFL]; exact hfp)
            rw [hget0] at q0
            have hs0 := frF_each ⟨fn, fd, fs⟩ 0
            have hr0 := frF_range ⟨fn, fd, fs⟩ 0
            have HIF3 : Hid (∀ L : Lg, (if (frF ⟨fn, fd, fs⟩).1 = [] then L.first else if k = 0 then dec ((frF ⟨fn, fd, fs⟩).1.getD 0 []) else L.first) = (if k = 0 then dec ((frF ⟨fn, fd, fs⟩).1.getD 0 []) else L.first)) := hide (fun L => by rw [if_neg (unhide HNE)])
            have HCODE : Hid (∀ L : Lg, lgCode sg k L = if ((frF ⟨fn, fd, fs⟩).1.getD 0 []).length ≠ 4 then 3 else if 0 < k ∧ dec ((frF ⟨fn, fd, fs⟩).1.getD 0 []) ≠ L.first + L.recs.length then 3 else 0) := hide (fun L => by
              unfold lgCode
              rw [if_neg (unhide HA), if_neg (unhide HB7), unhide HFX, if_neg (unhide HNE)])
            have HNEXT : Hid (∀ L : Lg, lgNext sg k L = ⟨if k = 0 then dec ((frF ⟨fn, fd, fs⟩).1.getD 0 []) else L.first, L.recs ++ ((frF ⟨fn, fd, fs⟩).1.drop 1).map strOfNums, L.names ++ [fn], (fd.size : Int) - (wh : Int)⟩) := hide (fun L => by
              unfold lgNext
              rw [unhide HFX, unhide HIF3 L, (unhide HWB).1])
            generalize (frF ⟨fn, fd, fs⟩).1.getD 0 [] = d0 at *
            have hsz0 := strOfNums_size d0
            have HSZ0 := hide hsz0
            clear hsz0 hget0
            by_cases h4 : d0.length = 4
            case neg =>
              have e4 : (((strOfNums d0).size : Int) == 4) = false := by rw [unhide HSZ0, beq_eq_false_iff_ne]; omega
              have hc : lgCode sg k (lgAt sg k) = 3 := by rw [unhide HCODE, if_pos h4]
              have HDB := hide ((unhide HGO).bad hlt (by rw [hc]; decide))
              rw [hc] at HDB
              clear hc h4
              have l0 := (unhide HR5).box.cell 0 rfl
              have l1 := (unhide HR5).box.cell 1 rfl
              have l2 := (unhide HR5).box.cell 2 rfl
              have l3 := (unhide HR5).box.cell 3 rfl
              have r0 := (unhide HRB5).cell 0 rfl
              have r1 := (unhide HRB5).cell 1 rfl
              have r2 := (unhide HRB5).cell 2 rfl
              have r3 := (unhide HRB5).cell 3 rfl
              have f0 := (unhide HRB5).fro 0
              have f1 := (unhide HRB5).fro 1
              have f2 := (unhide HRB5).fro 2
              have f3 := (unhide HRB5).fro 3
              have RT := hide (sp_ret (unhide HR5) (unhide HRB5) (unhide HWB0) (by omega))
              go_wp2_with fail
              generalize (((w5.setCell ⟨w.heap.size + 1, 0, none⟩ (.int .i64 ((lgAt sg k)).first)).setCell ⟨w.heap.size + 1, 1, none⟩ (.slice ra rn rc)).setCell ⟨w.heap.size + 1, 2, none⟩ (.slice na nn nc)).setCell ⟨w.heap.size + 1, 3, none⟩ (.int .i64 ((lgAt sg k)).torn) = wf at *
              have z0 := (unhide RT).1.cell 0 rfl
              have z1 := (unhide RT).1.cell 1 rfl
              have z2 := (unhide RT).1.cell 2 rfl
              have z3 := (unhide RT).1.cell 3 rfl
              refine bodyPost_ret (v := .tuple #[.agg #[.int .i64 ((lgAt sg k)).first, (.slice ra rn rc), (.slice na nn nc), .int .i64 ((lgAt sg k)).torn], .int .i64 3]) (by simp [results, Try.results21, go_sem, z0, z1, z2, z3]) rfl ?_
              rw [unhide HSGE, unhide HDB]
              exact ⟨_, _, _, _, _, _, _, _, rfl, fun h => absurd h (by decide), (unhide RT).2.2⟩
            have e4 : (((strOfNums d0).size : Int) == 4) = true := by rw [unhide HSZ0, beq_iff_eq]; omega
            have H4 := hide h4
            clear h4
            obtain ⟨cap6, w6, hcv, hRd6, hb6⟩ := str_bytes (strOfNums d0) w5 (by rw [unhide HSZ0]; unfold maxLen; omega)
            have hbk : bytesI (strOfNums d0) = d0 := by
              have := bytes_back2 d0 hr0
              unfold bytesI
              exact this.symm
            rw [hbk] at hcv hRd6
            have HSR : Hid (SR (w6.alloc (.cells #[.slice (some ⟨w5.heap.size, 0, none⟩) d0.length cap6, .int .i64 0, .bool false] 81)) w6.heap.size (some ⟨w5.heap.size, 0, none⟩) cap6 d0 0 false) := hide (by
              have hB := Blk.new w6 #[.slice (some ⟨w5.heap.size, 0, none⟩) d0.length cap6, .int .i64 0, .bool false] 81 w6.heap.size rfl
              exact ⟨hB.cell 0 rfl, hB.cell 1 rfl, hB.cell 2 rfl, hB.2.2, hB.1, Nat.zero_le _, hRd6.kept (T := fun _ => False) (Nat.le_refl _) ((Touch.refl _ _).alloc _) (fun _ _ h => h), by omega⟩)
            have HB7x := hide (hb6.trans (((Below.refl w6.heap.size w6).alloc (Nat.le_refl _) (.cells #[.slice (some ⟨w5.heap.size, 0, none⟩) d0.length cap6, .int .i64 0, .bool false] 81)).mono hb6.size))
            have hz6 := hb6.size
            go_wp2_with fail
            clear hcv hRd6 hb6 hbk
            generalize w6.alloc (.cells #[.slice (some ⟨w5.heap.size, 0, none⟩) d0.length cap6, .int .i64 0, .bool false] 81) = w7 at *
            generalize w6.heap.size = rb at *
            refine (specNumber_any 4 4 rfl rb _ _ d0 0 w7 (unhide HSR) (by omega)).mono ?_
            rintro e w8 ⟨num, qq, bad, rfl, _, hyes, _, hT8, _⟩
            have hB8 := (unhide HB7x).trans (hT8.below (B := w5.heap.size) (unhide HB7x).size (fun k hk e => by omega))
            have HNM : Hid (num = dec d0) := hide (by
              rw [(hyes (by rw [unhide H4]; omega)).1, List.drop_zero]
              unfold dec
              rw [unhide H4])
            have hnb := decN_lo d0 hr0 4
            have hnm2 : 0 ≤ num ∧ num < 4294967296 := by
              rw [unhide HNM]; unfold dec; rw [unhide H4]; simpa using hnb
            have HR8 := hide ((unhide HR5).below hB8)
            have HRB8 := hide ((unhide HRB5).below hB8)
            have HO8 := hide ((unhide HO5).below hB8)
            have hcl8 := (hB8.cell (p := ⟨g, k, none⟩) (by simp; omega)).trans hcl5
            have hz8 := hB8.size
            clear hyes hT8 hB8 HB7x HSR HR5 HRB5 HO5 hcl5 hnb q0 e4 e0
            have HNBs : Hid (∀ j, (Value.slice na nn nc).ownBlock = some j → j < w3.heap.size) := hide (fun j hj => Nat.lt_of_lt_of_le (unhide HNBW j hj) (Nat.le_trans hz2 hz3))
            have hrn : rn = (lgAt sg k).recs.length := by
              obtain ⟨a', c', h'⟩ := ownS_form (unhide HR8).rcs
              exact (Value.slice.inj h').2.1
            have hrl := unhide HRC k (by omega)
            have hrl2 : rn ≤ 24000 := by omega
            have HRN0 := hide hrn
            clear hrn hrl
            have mw := wrapSg ((lgAt sg k).first + (rn : Int)) (by have := unhide HBF; omega) (by have := unhide HBF; omega)
            go_upto_if 105 with fail
            go_cut [105] (fun s wx => SpR (w.heap.size + 2) lb w1 (.slice (some ⟨g, 0, none⟩) sg.length lc) (numsP l) ⟨if k = 0 then num else (lgAt sg k).first, (lgAt sg k).recs, (lgAt sg k).names, (lgAt sg k).torn⟩ (.slice ra rn rc) (.slice na nn nc) wx ∧ Touch (fun k => k = lb) w8 wx ∧ (0 < k → num = (lgAt sg k).first + (rn : Int)))
            case first =>
              rcases Nat.eq_zero_or_pos k with hk00 | hkp
              · have e1 : ((k : Int) == 0) = true := by rw [beq_iff_eq]; omega
                have HIF := hide (show (if k = 0 then num else (lgAt sg k).first) = num from if_pos hk00)
                have HK0 := hide hk00
                have y0 := (unhide HR8).box.cell 0 rfl
                have f0 := (unhide HR8).box.fro 0
                have HR9 := hide ((unhide HR8).setFirst num)
                have HT9 := hide ((Touch.refl (fun k => k = lb) w8).setCell ⟨lb, 0, none⟩ (.int .i64 num) (fun _ => rfl))
                clear hk00
                go_wp2_with fail
                go_meet
                rw [unhide HIF]
                exact ⟨unhide HR9, unhide HT9, fun h => absurd (unhide HK0) (by omega)⟩
              · have e1 : ((k : Int) == 0) = false := by rw [beq_eq_false_iff_ne]; omega
                have HIF := hide (show (if k = 0 then num else (lgAt sg k).first) = (lgAt sg k).first from if_neg (by omega))
                have y0 := (unhide HR8).box.cell 0 rfl
                have y1 := (unhide HR8).box.cell 1 rfl
                by_cases hne : num = (lgAt sg k).first + (rn : Int)
                · have en : (num == (lgAt sg k).first + (rn : Int)) = true := by rw [beq_iff_eq]; exact hne
                  have HNEq := hide hne
                  clear hkp hne
                  go_wp2_with fail
                  go_meet
                  rw [unhide HIF]
                  exact ⟨unhide HR8, Touch.refl _ _, fun _ => unhide HNEq⟩
                · have en : (num == (lgAt sg k).first + (rn : Int)) = false := by rw [beq_eq_false_iff_ne]; exact hne
                  have hc : lgCode sg k (lgAt sg k) = 3 := by
                    rw [unhide HCODE, if_neg (fun h => h (unhide H4)), if_pos ⟨hkp, by rw [← unhide HNM, ← unhide HRN0]; exact hne⟩]
                  have HDB := hide ((unhide HGO).bad hlt (by rw [hc]; decide))
                  rw [hc] at HDB
                  clear hc hkp hne
                  have l0 := (unhide HR8).box.cell 0 rfl
                  have l1 := (unhide HR8).box.cell 1 rfl
                  have l2 := (unhide HR8).box.cell 2 rfl
                  have l3 := (unhide HR8).box.cell 3 rfl
                  have r0 := (unhide HRB8).cell 0 rfl
                  have r1 := (unhide HRB8).cell 1 rfl
                  have r2 := (unhide HRB8).cell 2 rfl
                  have r3 := (unhide HRB8).cell 3 rfl
                  have f0 := (unhide HRB8).fro 0
                  have f1 := (unhide HRB8).fro 1
                  have f2 := (unhide HRB8).fro 2
                  have f3 := (unhide HRB8).fro 3
                  have RT := hide (sp_ret (unhide HR8) (unhide HRB8) (unhide HWB0) (by omega))
                  go_wp2_with fail
                  generalize (((w8.setCell ⟨w.heap.size + 1, 0, none⟩ (.int .i64 ((lgAt sg k)).first)).setCell ⟨w.heap.size + 1, 1, none⟩ (.slice ra rn rc)).setCell ⟨w.heap.size + 1, 2, none⟩ (.slice na nn nc)).setCell ⟨w.heap.size + 1, 3, none⟩ (.int .i64 ((lgAt sg k)).torn) = wf at *
                  have z0 := (unhide RT).1.cell 0 rfl
                  have z1 := (unhide RT).1.cell 1 rfl
                  have z2 := (unhide RT).1.cell 2 rfl
                  have z3 := (unhide RT).1.cell 3 rfl
                  refine bodyPost_ret (v := .tuple #[.agg #[.int .i64 ((lgAt sg k)).first, (.slice ra rn rc), (.slice na nn nc), .int .i64 ((lgAt sg k)).torn], .int .i64 3]) (by simp [results, Try.results21, go_sem, z0, z1, z2, z3]) rfl ?_
                  rw [unhide HSGE, unhide HDB]
                  exact ⟨_, _, _, _, _, _, _, _, rfl, fun h => absurd h (by decide), (unhide RT).2.2⟩
            case rest =>
              obtain ⟨hR9, hT9, hEQ⟩ := hcut
              have HEQ := hide hEQ
              obtain ⟨M, hM⟩ : ∃ M : Lg, M = ⟨if k = 0 then num else (lgAt sg k).first, (lgAt sg k).recs, (lgAt sg k).names, (lgAt sg k).torn⟩ := ⟨_, rfl⟩
              rw [← hM] at hR9
              have HMN : Hid (M.names.length ≤ 8) := hide (by rw [hM]; show (lgAt sg k).names.length ≤ 8; rw [unhide HNL]; omega)
              have HMR : Hid (M.recs.length = rn) := hide (by rw [hM]; exact (unhide HRN0).symm)
              have HNX : Hid (lgGood sg (k + 1) ∧ lgAt sg (k + 1) = ⟨M.first, M.recs ++ ((frF ⟨fn, fd, fs⟩).1.drop 1).map strOfNums, M.names ++ [fn], (fd.size : Int) - (wh : Int)⟩ ∧ 0 ≤ (lgAt sg (k + 1)).first ∧ (lgAt sg (k + 1)).first < 4294967296) := by
                have hc : lgCode sg k (lgAt sg k) = 0 := by
                  rw [unhide HCODE, if_neg (fun h => h (unhide H4)), if_neg (fun h => h.2 (by rw [← unhide HNM, ← unhide HRN0]; exact unhide HEQ h.1))]
                have hq : lgAt sg (k + 1) = ⟨M.first, M.recs ++ ((frF ⟨fn, fd, fs⟩).1.drop 1).map strOfNums, M.names ++ [fn], (fd.size : Int) - (wh : Int)⟩ := by
                  show lgNext sg k (lgAt sg k) = _
                  rw [unhide HNEXT, ← unhide HNM, hM]
                rw [hq]
                refine hide ⟨(unhide HGO).next hlt hc, rfl, ?_⟩
                rw [hM]
                show 0 ≤ (if k = 0 then num else (lgAt sg k).first) ∧ (if k = 0 then num else (lgAt sg k).first) < 4294967296
                split
                · exact hnm2
                · exact unhide HBF
              have HR9 := hide hR9
              have HO9 := hide ((unhide HO8).kept hT9 (fun j hj e => by have := unhide HDN j hj; omega))
              have hcl9 := (hT9.cell (p := ⟨g, k, none⟩) (by simp; omega) (fun e => (unhide HR8).lne g rfl e)).trans hcl8
              have hz9 := hT9.size
              clear hR9 hT9 hEQ hM HR8 HRB8 HO8 hcl8
              generalize wc = w9 at *
              go_wp2_with fail
              go_cut [125] (fun s wx => ∃ ga gn gc, SpR (w.heap.size + 2) lb w1 (.slice (some ⟨g, 0, none⟩) sg.length lc) (numsP l) ⟨(M).first, (M).recs, (M).names ++ [fn], (M).torn⟩ (.slice ra rn rc) (.slice ga gn gc) wx ∧ Touch (fun k => (Value.slice na nn nc).ownBlock = some k ∨ k = lb) w9 wx)
              case first =>
                have hbd := below_drewN (Below.refl w9.heap.size w9) 1
                have HRd := hide ((unhide HR9).below hbd)
                have l2 := (unhide HR9).box.cell 2 rfl
                have hnl : (M).names.length ≤ 8 := unhide HMN
                obtain ⟨i0', hi, hz0', hz1', hz2'⟩ := info_parts infoS
                clear hbd
                go_region_law (first
                  | (refine step_append_lies _ (by rfl) _ _ _ (by rfl) (w.heap.size + 2) 9 i0' _ 1 16 Try.underlying26 hi hz0' hz1' hz2' rfl (by omega) (.slice na nn nc) (M).names.length ((M).names.map Value.string) (by rfl) (hR6.nam.below ((Below.refl w6.heap.size w6).alloc (Nat.le_refl _) (.cells #[.string fn] 9))) ⟨w6.heap.size, 0, none⟩ 1 1 [_] (by rfl) (by rfl) (World.news_of_block (cs := #[_]) (t := 9) (fr := (0, 0)) (heap_alloc_new w6 _)) (by simp [Value.oneCell']) (by omega) (by unfold maxLen; omega) (by omega) (by have := hR6.lw; have := hR6.bel.size; simp; omega) (w6.heap.size + 1) (by simp) ?_; intro gg capg w7 hown7 hgrow7 hat7 hlt7; have P7 := hR6.named hown7 hgrow7 hat7; have hc7 := P7.1; have hf7 := P7.2.1)
                  | (go_simp; go_at_call 45; refine (unhide HNAME _).mono ?_; rintro e w6 ⟨rfl, hb6⟩; have hR6 := (unhide HRd).below hb6; have l2b := hR6.box.cell 2 rfl; have l2c := (((Below.refl w6.heap.size w6).alloc (Nat.le_refl _) (.cells #[.string fn] 9)).cell (p := ⟨lb, 2, none⟩) hR6.box.1).trans l2b; go_simp))
                all_goals
                  go_wp2_with fail
                  go_meet
                  exact ⟨_, _, _, P7.2.2.1, touch_after hb6 P7.2.2.2⟩
              case rest =>
                obtain ⟨ga, gn, gc, hRn, hTn⟩ := hcut
                have HO10 := hide ((unhide HO9).kept hTn (fun j hj e => by
                  have h1 := unhide HDN j hj
                  rcases e with e | e
                  · have := unhide HNBs j e; omega
                  · omega))
                have HRn := hide hRn
                clear hRn hTn HR9 HO9
                generalize wc = w10 at *
                have hdc : fl ≤ dc ∧ dc ≤ maxLen := by
                  rcases own_shape (unhide HO10) with ⟨h, _⟩ | ⟨dg', c, h, _, _, hn, hm⟩
                  · obtain ⟨_, h2, _⟩ := Value.slice.inj h
                    omega
                  · obtain ⟨_, _, h3⟩ := Value.slice.inj h
                    rw [List.length_map, ← unhide HFL] at hn
                    omega
                have htl : (((frF ⟨fn, fd, fs⟩).1.drop 1).map strOfNums).length = fl - 1 := by rw [List.length_map, List.length_drop, ← unhide HFL]
                have HRW : Hid (∀ wx, OwnS w3.heap.size wx (.slice (some ⟨dg, 0, none⟩) fl dc) ((frF ⟨fn, fd, fs⟩).1.map strOfNums) → ∀ j u, (((frF ⟨fn, fd, fs⟩).1.drop 1).map strOfNums |>.map Value.string)[j]? = some u → wx.cell? ⟨dg, 1 + j, none⟩ = some u) := hide (fun wx ho j u hu => by
                  have hj : j < fl - 1 := by
                    rcases Nat.lt_or_ge j (fl - 1) with h | h
                    · exact h
                    · rw [List.getElem?_eq_none (by rw [List.length_map, htl]; exact h)] at hu; cases hu
                  have h1 := ho.cell (1 + j) (by rw [List.length_map, ← unhide HFL]; omega)
                  rw [h1, ← hu]
                  rw [List.getElem?_map, List.getElem?_map, List.getElem?_drop, List.getD_eq_getElem?_getD, List.getElem?_map]
                  have hj2 : 1 + j < (frF ⟨fn, fd, fs⟩).1.length := by rw [← unhide HFL]; omega
                  rw [List.getElem?_eq_getElem hj2]; rfl)
                generalize ((frF ⟨fn, fd, fs⟩).1.drop 1).map strOfNums = ts at *
                have HTL := hide htl
                clear htl
                have q1 : (1 : Int) ≤ (fl : Int) := by omega
                have q2 : (fl : Int) ≤ (dc : Int) := by omega
                have q3 : dc ≤ 9223372036854775807 := by have := hdc.2; unfold maxLen at this; omega
                go_wp2_with fail
                go_cut [131] (fun s wx => ∃ xa xn xc, SpR (w.heap.size + 2) lb w1 (.slice (some ⟨g, 0, none⟩) sg.length lc) (numsP l) ⟨M.first, M.recs ++ ts, M.names ++ [fn], M.torn⟩ (.slice xa xn xc) (.slice ga gn gc) wx)
                case first =>
                  have hbd := below_drewN (Below.refl w10.heap.size w10) 1
                  have HRd := hide ((unhide HRn).below hbd)
                  have HOd := hide ((unhide HO10).below hbd)
                  have l1 := (unhide HRn).box.cell 1 rfl
                  obtain ⟨i0', hi, hz0', hz1', hz2'⟩ := info_parts infoS
                  have hml : M.recs.length + ts.length ≤ 30000 := by rw [unhide HMR, unhide HTL]; omega
                  clear hbd
                  rcases Nat.eq_or_lt_of_le (show 1 ≤ dc by omega) with hd1 | hd1
                  · have hf1 : fl = 1 := by omega
                    have HT0 := hide (show ts.length = 0 by rw [unhide HTL]; omega)
                    subst hf1
                    obtain rfl : dc = 1 := hd1.symm
                    go_region_law (refine step_append_row (by rfl) _ _ _ (by rfl) (w.heap.size + 2) 9 i0' _ 1 16 Try.underlying26 hi hz0' hz1' hz2' rfl (by omega) (.slice ra rn rc) M.recs.length (M.recs.map Value.string) (by rfl) (unhide HRd).rcs _ ts.length (ts.map Value.string) (by rfl) (by rw [unhide HT0]; exact ⟨_, _, rfl, .inl rfl⟩) (by simp) (by simp [Value.oneCell']) (by unfold maxLen; omega) (by omega) (Nat.le_trans (unhide HRd).lw (unhide HRd).bel.size) ?_; intro a7 c7 w7 hown7 hgrow7 hat7; have P7 := (unhide HRd).recorded hown7 hgrow7 hat7; have hc7 := P7.1; have hf7 := P7.2.1)
                    all_goals
                      go_wp2_with fail
                      go_meet
                      exact ⟨_, _, _, P7.2.2⟩
                  · have hdn : ¬ dc = 1 := by omega
                    go_region_law (refine step_append_row (by rfl) _ _ _ (by rfl) (w.heap.size + 2) 9 i0' _ 1 16 Try.underlying26 hi hz0' hz1' hz2' rfl (by omega) (.slice ra rn rc) M.recs.length (M.recs.map Value.string) (by rfl) (unhide HRd).rcs (.slice (some ⟨dg, 1, none⟩) (fl - 1) (dc - 1)) ts.length (ts.map Value.string) (by rfl) (by rw [unhide HTL]; exact ⟨_, _, rfl, .inr ⟨_, rfl, fun j u hu => by have := unhide HRW _ (unhide HOd) j u hu; rw [add_off]; exact this⟩⟩) (by simp) (by simp [Value.oneCell']) (by unfold maxLen; omega) (by omega) (Nat.le_trans (unhide HRd).lw (unhide HRd).bel.size) ?_; intro a7 c7 w7 hown7 hgrow7 hat7; have P7 := (unhide HRd).recorded hown7 hgrow7 hat7; have hc7 := P7.1; have hf7 := P7.2.1)
                    all_goals
                      go_wp2_with fail
                      go_meet
                      exact ⟨_, _, _, P7.2.2⟩
                case rest =>
                  obtain ⟨xa, xn, xc, hR11⟩ := hcut
                  have hw12 : IntKind.i64.wrap ((fd.size : Int) - (wh : Int)) = (fd.size : Int) - (wh : Int) := wrapSg _ (by omega) (by omega)
                  have l3 := hR11.box.cell 3 rfl
                  have f3x := hR11.box.fro 3
                  have HRF := hide (hR11.setTorn ((fd.size : Int) - (wh : Int)))
                  clear hR11
                  go_wp2_with fail
                  refine ⟨⟨k + 1, xa, xn, xc, ga, gn, gc, by omega, by go_num, (unhide HNX).1, ?_, (unhide HNX).2.2⟩, ?_⟩
                  · rw [(unhide HNX).2.1]; exact unhide HRF
                  · simp [intOf]; omega
    · obtain rfl : k = sg.length := by omega
      have HDB := hide ((unhide HGO).done (by omega))
      clear hR
      have l0 := (unhide HR).box.cell 0 rfl
      have l1 := (unhide HR).box.cell 1 rfl
      have l2 := (unhide HR).box.cell 2 rfl
      have l3 := (unhide HR).box.cell 3 rfl
      have r0 := (unhide HRB).cell 0 rfl
      have r1 := (unhide HRB).cell 1 rfl
      have r2 := (unhide HRB).cell 2 rfl
      have r3 := (unhide HRB).cell 3 rfl
      have f0 := (unhide HRB).fro 0
      have f1 := (unhide HRB).fro 1
      have f2 := (unhide HRB).fro 2
      have f3 := (unhide HRB).fro 3
      have RT := hide (sp_ret (unhide HR) (unhide HRB) (unhide HWB0) (by omega))
      go_wp2_with fail
      generalize (((wr.setCell ⟨w.heap.size + 1, 0, none⟩ (.int .i64 ((lgAt sg sg.length)).first)).setCell ⟨w.heap.size + 1, 1, none⟩ (.slice ra rn rc)).setCell ⟨w.heap.size + 1, 2, none⟩ (.slice na nn nc)).setCell ⟨w.heap.size + 1, 3, none⟩ (.int .i64 ((lgAt sg sg.length)).torn) = wf at *
      have z0 := (unhide RT).1.cell 0 rfl
      have z1 := (unhide RT).1.cell 1 rfl
      have z2 := (unhide RT).1.cell 2 rfl
      have z3 := (unhide RT).1.cell 3 rfl
      refine bodyPost_ret (v := .tuple #[.agg #[.int .i64 ((lgAt sg sg.length)).first, (.slice ra rn rc), (.slice na nn nc), .int .i64 ((lgAt sg sg.length)).torn], .int .i64 0]) (by simp [results, Try.results21, go_sem, z0, z1, z2, z3]) rfl ?_
      rw [unhide HSGE, unhide HDB]
      exact ⟨_, _, _, _, _, _, _, _, rfl, fun _ => ⟨rfl, rfl, (unhide RT).2.1.1, (unhide RT).2.1.2, (unhide HR).dis, ownS_form (unhide RT).2.1.1, ownS_form (unhide RT).2.1.2⟩, (unhide RT).2.2⟩
end Go.Proofs.Ytlicgahjdgipkak
