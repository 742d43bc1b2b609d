/- spec.DiskOK, walked. -/
import Derived.Test.YtfihhkhdigbmiaaGreatDoorFilO
namespace Go.Proofs.YtfihhkhdigbmiaaGreatDoor
open Go.ChangeShapes Go.WideShapes Go.ChangeAt Go.RowKit
set_option linter.unusedVariables false

theorem used_mono (l : List Fl) (i j : Nat) (h : i ≤ j) : usedTo l i ≤ usedTo l j := by
  induction j with
  | zero => obtain rfl : i = 0 := by omega
            exact Int.le_refl _
  | succ j ih =>
    by_cases e : i = j + 1
    · subst e; exact Int.le_refl _
    · have := ih (by omega)
      show _ ≤ usedTo l j + _
      omega
theorem disk_big {room : Int} {l : List Fl} {k : Nat} (hk : k < l.length) (h0 : 0 ≤ usedTo l k) (h : 3000 < (l.getD k default).d.size) : diskB room l = false := by
  have h1 : usedTo l (k + 1) = usedTo l k + ((l.getD k default).d.size : Int) := rfl
  have h2 := used_mono l (k + 1) l.length (by omega)
  unfold diskB
  by_cases hin : inB room 0 3000 = true
  · have := (inB_iff.1 hin).2
    rw [decide_eq_false (p := usedTo l l.length ≤ room) (by omega)]; simp
  · rw [Bool.not_eq_true] at hin; rw [hin]; simp

set_option maxRecDepth 100000 in
set_option maxHeartbeats 1000000 in
theorem specDiskOK_any (room : Int) (v : Value) (l : List Fl) (w : World) (h : Fls w v l) (hs : Small l) :
    Calls Tryz.prog 15 #[.agg #[.int .i64 room, v]] w fun e w' => e = .returned (.bool (diskB room l)) ∧ Below w.heap.size w w' := by
  have HF := hide h
  obtain ⟨a, cap, rfl, hn, hm, hc⟩ := h
  have HC := hide hc
  have HS := hide hs
  clear hc hs
  have B0 := hide ((Below.refl w.heap.size w).alloc (Nat.le_refl _) (.cells #[.int .i64 room, .slice a l.length cap] 28))
  have X0 := hide (Blk.new w #[.int .i64 room, .slice a l.length cap] 28 w.heap.size rfl)
  have Z0 : w.heap.size < (w.alloc (.cells #[.int .i64 room, .slice a l.length cap] 28)).heap.size := by simp
  rcases Bool.eq_false_or_eq_true (inB room 0 3000) with hin | hin
  · by_cases h8 : l.length ≤ 8
    · have h8b : ¬ (8 : Int) < (l.length : Int) := by omega
      go_enter Tryz.func15, Tryz.ntmps15
      go_wp2_with fail
      generalize w.alloc (.cells #[.int .i64 room, .slice a l.length cap] 28) = w0 at *
      have c0 := (unhide X0).cell 0 rfl
      have c1 := (unhide X0).cell 1 rfl
      refine (l01In_any room 0 3000 w0).mono ?_
      rintro e w' ⟨rfl, hw'⟩
      have hw2 := hw'.symm
      clear hw'
      subst hw2
      rw [hin]
      go_wp2_with fail
      go_loopw [3] (fun i wr => ∃ k : Nat, k ≤ l.length ∧ i = .int .i64 k ∧ allTo l k ∧ Below (w.heap.size + 1) w0 wr) (fun i _ => l.length - (intOf i).toNat)
      case atStart => exact ⟨0, Nat.zero_le _, rfl, fun i hi => by omega, Below.refl _ _⟩
      case round =>
        obtain ⟨k, hk, rfl, hgo, hb⟩ := hrel
        by_cases hlt : k < l.length
        · obtain ⟨b, off, rfl, hbl, hsrc⟩ : ∃ b off, a = some ⟨b, off, none⟩ ∧ b < w.heap.size ∧ ∀ i, i < l.length → w.cell? ⟨b, off + i * 3, none⟩ = some (.string (l.getD i default).n) ∧ w.cell? ⟨b, off + i * 3 + 1, none⟩ = some (.string (l.getD i default).d) ∧ w.cell? ⟨b, off + i * 3 + 2, none⟩ = some (.int .i64 (l.getD i default).s) := by
            rcases unhide HC with h0 | h1
            · omega
            · exact h1
          have hbw : Below w.heap.size w wr := (unhide B0).trans (hb.mono (by omega))
          obtain ⟨s0, s1, s2⟩ := hsrc k hlt
          have e0 := (hbw.cell (p := ⟨b, off + k * 3, none⟩) hbl).trans s0
          have e1 := (hbw.cell (p := ⟨b, off + k * 3 + 1, none⟩) hbl).trans s1
          have e2 := (hbw.cell (p := ⟨b, off + k * 3 + 2, none⟩) hbl).trans s2
          have d0 := (hb.cell (p := ⟨w.heap.size, 0, none⟩) (by simp)).trans c0
          have d1 := (hb.cell (p := ⟨w.heap.size, 1, none⟩) (by simp)).trans c1
          have hk0 : (0 : Int) ≤ (k : Int) := by omega
          have hk1 : (k : Int) < (l.length : Int) := by omega
          have hfz := (unhide HS).2.2 k
          have hbs := hbw.size
          have hbs2 := hb.size
          have HB := hide hb
          have HSR := hide hsrc
          clear hsrc s0 s1 s2 hb hbw
          obtain ⟨f, hf⟩ : ∃ f, f = l.getD k default := ⟨_, rfl⟩
          rw [← hf] at e0 e1 e2 hfz
          have HFe := hide hf
          clear hf
          obtain ⟨fn, fd, fs⟩ := f
          dsimp only at e0 e1 e2 hfz
          have hnm : fn.size ≤ maxLen := by unfold maxLen; omega
          have b0 := hide ((Below.refl wr.heap.size wr).alloc (Nat.le_refl _) (.cells #[.string fn, .string fd, .int .i64 fs] 68))
          have y0 := hide (Blk.new wr #[.string fn, .string fd, .int .i64 fs] 68 wr.heap.size rfl)
          have HFB : Hid (fileB l k = (nameB fn && inB fs 0 fd.size && (decide (k = 0) || lessB (l.getD (k - 1) default).n fn))) := hide (by unfold fileB; rw [← unhide HFe])
          have HGo := hide hgo
          clear hgo
          go_wp2_with fail
          generalize wr.alloc (.cells #[.string fn, .string fd, .int .i64 fs] 68) = w1 at *
          have g0 := (unhide y0).cell 0 rfl
          have g1 := (unhide y0).cell 1 rfl
          have g2 := (unhide y0).cell 2 rfl
          have hd0 := ((unhide b0).cell (p := ⟨w.heap.size, 0, none⟩) (by simp; omega)).trans d0
          have hd1 := ((unhide b0).cell (p := ⟨w.heap.size, 1, none⟩) (by simp; omega)).trans d1
          have hB1 := hide ((unhide HB).trans ((unhide b0).mono (by omega)))
          have hB2 := hide ((unhide B0).trans ((unhide hB1).mono (by omega)))
          clear d0 d1 e0 e1 e2
          cases hnb : nameB fn
          · have HD := hide (disk_bad (room := room) hlt (by rw [unhide HFB, hnb]; simp))
            have hsn := hide (fun wx => specName_any fn wx hnm)
            rw [hnb] at hsn
            go_quiet (first | (go_at_call 32; exact Calls.quiet_of_same (unhide hsn _)))
            go_wp2_with fail
            go_ret
            exact ⟨ret_bool (unhide HD).symm, below_drewN (unhide hB2) _⟩
          · have hsn := hide (fun wx => specName_any fn wx hnm)
            rw [hnb] at hsn
            have hli := hide (fun wx => l01In_any fs 0 fd.size wx)
            rcases Bool.eq_false_or_eq_true (inB fs 0 fd.size) with hif | hif
            · rw [hif] at hli
              by_cases hbig : 3000 < fd.size
              · have HD := hide (disk_big (room := room) (k := k) hlt ((unhide HS).2.1 k hk).1 (by rw [← unhide HFe]; exact hbig))
                have hb1 : (3000 : Int) < (fd.size : Int) := by omega
                go_quiet (first | (go_at_call 32; exact Calls.quiet_of_same (unhide hsn _)) | (go_at_call 31; exact Calls.quiet_of_same (unhide hli _)))
                go_wp2_with fail
                go_ret
                exact ⟨ret_bool (unhide HD).symm, below_drewN (unhide hB2) _⟩
              · have hb1 : decide ((3000 : Int) < (fd.size : Int)) = false := by rw [decide_eq_false_iff_not]; omega
                have hb2 : decide (3000 < fd.size) = false := by rw [decide_eq_false_iff_not]; omega
                by_cases hk00 : k = 0
                · subst hk00
                  have HN := hide ((unhide HGo).next (by rw [unhide HFB, hnb, hif]; simp))
                  go_quiet (first | (go_at_call 32; exact Calls.quiet_of_same (unhide hsn _)) | (go_at_call 31; exact Calls.quiet_of_same (unhide hli _)))
                  go_wp2_with fail
                  refine ⟨⟨1, by omega, by go_num, unhide HN, below_drewN (unhide hB1) _⟩, ?_⟩
                  simp [intOf]; omega
                · obtain ⟨q, hq⟩ : ∃ q : Nat, (k : Int) - 1 = (q : Int) := ⟨k - 1, by omega⟩
                  obtain ⟨t0, _, _⟩ := unhide HSR q (by omega)
                  obtain ⟨g, hg⟩ : ∃ g, g = l.getD q default := ⟨_, rfl⟩
                  rw [← hg] at t0
                  have HGe := hide hg
                  clear hg
                  obtain ⟨gn, gd, gs⟩ := g
                  dsimp only at t0
                  have e3 := ((unhide b0).cell (p := ⟨b, off + q * 3, none⟩) (by simp; omega)).trans (((unhide HB).cell (p := ⟨b, off + q * 3, none⟩) (by simp; omega)).trans (((unhide B0).cell (p := ⟨b, off + q * 3, none⟩) hbl).trans t0))
                  have p1 : 0 < k := by omega
                  have p1d : decide (0 < k) = true := by simpa using p1
                  have p2 : IntKind.i64.wrap (q : Int) = (q : Int) := wrapJ _ (by omega) (by omega)
                  have p3 : (0 : Int) ≤ (q : Int) := by omega
                  have p4 : (q : Int) < (l.length : Int) := by omega
                  have HFB2 : Hid (fileB l k = lessB gn fn) := hide (by
                    rw [unhide HFB, hnb, hif, show k - 1 = q by omega, ← unhide HGe]; simp [hk00])
                  clear t0
                  cases hlb : lessB gn fn
                  · rw [hlb] at HFB2
                    have hlb2 : Op.bytesLess gn.toList fn.toList = false := hlb
                    have HD := hide (disk_bad (room := room) hlt (unhide HFB2))
                    go_quiet (first | (go_at_call 32; exact Calls.quiet_of_same (unhide hsn _)) | (go_at_call 31; exact Calls.quiet_of_same (unhide hli _)))
                    go_wp2_with fail
                    go_ret
                    exact ⟨ret_bool (unhide HD).symm, below_drewN (unhide hB2) _⟩
                  · rw [hlb] at HFB2
                    have hlb2 : Op.bytesLess gn.toList fn.toList = true := hlb
                    have HN := hide ((unhide HGo).next (unhide HFB2))
                    go_quiet (first | (go_at_call 32; exact Calls.quiet_of_same (unhide hsn _)) | (go_at_call 31; exact Calls.quiet_of_same (unhide hli _)))
                    go_wp2_with fail
                    refine ⟨⟨k + 1, by omega, by go_num, unhide HN, below_drewN (unhide hB1) _⟩, ?_⟩
                    simp [intOf]; omega
            · rw [hif] at hli
              have HD := hide (disk_bad (room := room) hlt (by rw [unhide HFB, hif]; simp))
              go_quiet (first | (go_at_call 32; exact Calls.quiet_of_same (unhide hsn _)) | (go_at_call 31; exact Calls.quiet_of_same (unhide hli _)))
              go_wp2_with fail
              go_ret
              exact ⟨ret_bool (unhide HD).symm, below_drewN (unhide hB2) _⟩
        · obtain rfl : k = l.length := by omega
          have HD := hide (disk_all (room := room) hin h8 hgo)
          have hbw : Below w.heap.size w wr := (unhide B0).trans (hb.mono (by omega))
          have HBW := hide hbw
          have d0 := (hb.cell (p := ⟨w.heap.size, 0, none⟩) (by simp)).trans c0
          have d1 := (hb.cell (p := ⟨w.heap.size, 1, none⟩) (by simp)).trans c1
          have hbs := hbw.size
          have hbs2 := hb.size
          clear hb hbw hgo
          have HFB := hide (l03Used_any room (.slice a l.length cap) l wr.drew ((unhide HF).below (below_drewN (unhide HBW) 1)) (unhide HS).2.1 (unhide HS).1)
          obtain ⟨u, hu⟩ : ∃ u, u = usedTo l l.length := ⟨_, rfl⟩
          rw [← hu] at HFB HD
          clear hu
          go_wp2_with fail
          go_region_held3 (fun wx => wx.cell? ⟨w.heap.size, 0, none⟩ = some (.int .i64 room) ∧ wx.cell? ⟨w.heap.size, 1, none⟩ = some (.slice a l.length cap)) (first | go_keep | exact ⟨(hb2.cell (p := ⟨w.heap.size, 0, none⟩) (by simp; omega)).trans d0, (hb2.cell (p := ⟨w.heap.size, 1, none⟩) (by simp; omega)).trans d1⟩) ((go_at_call 33; refine (unhide HFB).mono ?_; rintro e w2 ⟨rfl, hb2⟩))
          all_goals
            have hbz := (unhide HBW).trans (show Below w.heap.size wr w2 from (below_drewN (Below.refl _ wr) 1).trans (hb2.mono (by simpa using hbs)))
            have HBZ := hide hbz
            clear hbz hb2
            go_wp2_with fail
            go_ret
            exact ⟨ret_bool (unhide HD).symm, unhide HBZ⟩
    · have HD : Hid (diskB room l = false) := hide (by unfold diskB; rw [decide_eq_false h8]; simp)
      have h8b : (8 : Int) < (l.length : Int) := by omega
      go_enter Tryz.func15, Tryz.ntmps15
      go_wp2_with fail
      generalize w.alloc (.cells #[.int .i64 room, .slice a l.length cap] 28) = w0 at *
      have c0 := (unhide X0).cell 0 rfl
      have c1 := (unhide X0).cell 1 rfl
      refine (l01In_any room 0 3000 w0).mono ?_
      rintro e w' ⟨rfl, hw'⟩
      have hw2 := hw'.symm
      clear hw'
      subst hw2
      rw [hin]
      go_wp2_with fail
      go_ret
      exact ⟨ret_bool (unhide HD).symm, unhide B0⟩
  · have HD : Hid (diskB room l = false) := hide (by unfold diskB; rw [hin]; simp)
    go_enter Tryz.func15, Tryz.ntmps15
    go_wp2_with fail
    generalize w.alloc (.cells #[.int .i64 room, .slice a l.length cap] 28) = w0 at *
    have c0 := (unhide X0).cell 0 rfl
    have c1 := (unhide X0).cell 1 rfl
    refine (l01In_any room 0 3000 w0).mono ?_
    rintro e w' ⟨rfl, hw'⟩
    have hw2 := hw'.symm
    clear hw'
    subst hw2
    rw [hin]
    go_wp2_with fail
    go_ret
    exact ⟨ret_bool (unhide HD).symm, unhide B0⟩
end Go.Proofs.YtfihhkhdigbmiaaGreatDoor
