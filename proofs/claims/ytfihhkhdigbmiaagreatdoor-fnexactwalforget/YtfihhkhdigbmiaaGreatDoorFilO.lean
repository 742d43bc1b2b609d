/- impl.DiskOK, walked. -/
import Derived.Test.YtfihhkhdigbmiaaGreatDoorFil
import Derived.Laws.Cover1
import Derived.Deep.RegionHeld3
namespace Go.Proofs.YtfihhkhdigbmiaaGreatDoor
open Go.ChangeShapes Go.WideShapes Go.ChangeAt Go.RowKit
set_option linter.unusedVariables false

theorem wrapJ (n : Int) (h0 : 0 ≤ n) (h1 : n < 9223372036854775808) : IntKind.i64.wrap n = n := by
  simp only [IntKind.wrap, IntKind.bits, IntKind.signed]
  simp
  omega
theorem less_tri : ∀ x y : List UInt8, (Op.bytesLess x y || x == y) = !(Op.bytesLess y x)
  | [], [] => by simp [Op.bytesLess]
  | [], b :: y => by simp [Op.bytesLess]
  | a :: x, [] => by simp [Op.bytesLess]
  | a :: x, b :: y => by
    have ih := less_tri x y
    have h1 : ∀ a b : UInt8, (a < b) = (a.toNat < b.toNat) := fun a b => by rw [UInt8.lt_iff_toNat_lt]
    have h2 : ∀ a b : UInt8, (a == b) = decide (a.toNat = b.toNat) := fun a b => by
      rw [Bool.eq_iff_iff]; simp [UInt8.toNat_inj]
    simp only [Op.bytesLess, List.cons_beq_cons, h1, h2]
    rcases Nat.lt_trichotomy a.toNat b.toNat with h | h | h
    · simp [h, Nat.lt_asymm h, Nat.ne_of_gt h]
    · rw [h]; simp at ih ⊢; exact ih
    · simp [h, Nat.lt_asymm h, Nat.ne_of_gt h]
def lessB (a b : ByteArray) : Bool := Op.bytesLess a.toList b.toList
theorem lessB_le (a b : ByteArray) : (Op.bytesLess a.toList b.toList || a.toList == b.toList) = !(lessB b a) := less_tri _ _
/-- File i is right, and behind the one ahead of it. -/
def fileB (l : List Fl) (i : Nat) : Bool := nameB (l.getD i default).n && inB (l.getD i default).s 0 (l.getD i default).d.size && (decide (i = 0) || lessB (l.getD (i - 1) default).n (l.getD i default).n)
def allTo (l : List Fl) (k : Nat) : Prop := ∀ i, i < k → fileB l i = true
theorem allTo.next {l : List Fl} {k : Nat} (h : allTo l k) (hk : fileB l k = true) : allTo l (k + 1) := fun i hi => by
  by_cases e : i = k
  · subst e; exact hk
  · exact h i (by omega)
def diskB (room : Int) (l : List Fl) : Bool := inB room 0 3000 && decide (l.length ≤ 8) && (List.range l.length).all (fileB l) && decide (usedTo l l.length ≤ room)
theorem disk_bad {room : Int} {l : List Fl} {k : Nat} (hk : k < l.length) (h : fileB l k = false) : diskB room l = false := by
  have : (List.range l.length).all (fileB l) = false := by
    rw [List.all_eq_false]; exact ⟨k, by simpa using hk, by simp [h]⟩
  unfold diskB; rw [this]; simp
theorem disk_all {room : Int} {l : List Fl} (h1 : inB room 0 3000 = true) (h2 : l.length ≤ 8) (h : allTo l l.length) : diskB room l = decide (usedTo l l.length ≤ room) := by
  have : (List.range l.length).all (fileB l) = true := by
    rw [List.all_eq_true]; exact fun i hi => h i (by simpa using hi)
  unfold diskB; rw [this, h1, decide_eq_true h2]; simp
/-- The files are small together. -/
def Small (l : List Fl) : Prop := l.length ≤ 1048576 ∧ (∀ k, k ≤ l.length → 0 ≤ usedTo l k ∧ usedTo l k ≤ 1048576) ∧ ∀ i, (l.getD i default).n.size ≤ 1048576 ∧ (l.getD i default).d.size ≤ 1048576

set_option maxRecDepth 100000 in
set_option maxHeartbeats 1000000 in
theorem implDiskOK_any (room : Int) (v : Value) (l : List Fl) (w : World) (h : Fls w v l) (hs : Small l) :
    Calls Tryz.prog 19 #[.agg #[.int .i64 room, v]] w fun e w' => e = .returned (.bool (diskB room l)) ∧ Below w.heap.size w w' := by
  have HF := hide h
  obtain ⟨a, cap, rfl, hn, hm, hc⟩ := h
  have HC := hide hc
  have HS := hide hs
  clear hc hs
  have B0 := hide ((Below.refl w.heap.size w).alloc (Nat.le_refl _) (.cells #[.int .i64 room, .slice a l.length cap] 28))
  have X0 := hide (Blk.new w #[.int .i64 room, .slice a l.length cap] 28 w.heap.size rfl)
  have Z0 : w.heap.size < (w.alloc (.cells #[.int .i64 room, .slice a l.length cap] 28)).heap.size := by simp
  rcases Bool.eq_false_or_eq_true (inB room 0 3000) with hin | hin
  · by_cases h8 : l.length ≤ 8
    · have h8b : ¬ (8 : Int) < (l.length : Int) := by omega
      go_enter Tryz.func19, Tryz.ntmps19
      go_wp2_with fail
      generalize w.alloc (.cells #[.int .i64 room, .slice a l.length cap] 28) = w0 at *
      have c0 := (unhide X0).cell 0 rfl
      have c1 := (unhide X0).cell 1 rfl
      refine (within_any room 0 3000 w0).mono ?_
      rintro e w' ⟨rfl, hw'⟩
      have hw2 := hw'.symm
      clear hw'
      subst hw2
      rw [hin]
      go_wp2_with fail
      go_loopw [18] (fun i wr => ∃ k : Nat, k ≤ l.length ∧ i = .int .i64 k ∧ allTo l k ∧ Below (w.heap.size + 1) w0 wr) (fun i _ => l.length - (intOf i).toNat)
      case atStart => exact ⟨0, Nat.zero_le _, rfl, fun i hi => by omega, Below.refl _ _⟩
      case round =>
        obtain ⟨k, hk, rfl, hgo, hb⟩ := hrel
        by_cases hlt : k < l.length
        · obtain ⟨b, off, rfl, hbl, hsrc⟩ : ∃ b off, a = some ⟨b, off, none⟩ ∧ b < w.heap.size ∧ ∀ i, i < l.length → w.cell? ⟨b, off + i * 3, none⟩ = some (.string (l.getD i default).n) ∧ w.cell? ⟨b, off + i * 3 + 1, none⟩ = some (.string (l.getD i default).d) ∧ w.cell? ⟨b, off + i * 3 + 2, none⟩ = some (.int .i64 (l.getD i default).s) := by
            rcases unhide HC with h0 | h1
            · omega
            · exact h1
          have hbw : Below w.heap.size w wr := (unhide B0).trans (hb.mono (by omega))
          obtain ⟨s0, s1, s2⟩ := hsrc k hlt
          have e0 := (hbw.cell (p := ⟨b, off + k * 3, none⟩) hbl).trans s0
          have e1 := (hbw.cell (p := ⟨b, off + k * 3 + 1, none⟩) hbl).trans s1
          have e2 := (hbw.cell (p := ⟨b, off + k * 3 + 2, none⟩) hbl).trans s2
          have d0 := (hb.cell (p := ⟨w.heap.size, 0, none⟩) (by simp)).trans c0
          have d1 := (hb.cell (p := ⟨w.heap.size, 1, none⟩) (by simp)).trans c1
          have hk0 : (0 : Int) ≤ (k : Int) := by omega
          have hk1 : (k : Int) < (l.length : Int) := by omega
          have hfz := (unhide HS).2.2 k
          have hbs := hbw.size
          have hbs2 := hb.size
          have HB := hide hb
          have HSR := hide hsrc
          clear hsrc s0 s1 s2 hb hbw
          obtain ⟨f, hf⟩ : ∃ f, f = l.getD k default := ⟨_, rfl⟩
          rw [← hf] at e0 e1 e2 hfz
          have HFe := hide hf
          clear hf
          obtain ⟨fn, fd, fs⟩ := f
          dsimp only at e0 e1 e2 hfz
          have hnm : fn.size ≤ maxLen := by unfold maxLen; omega
          have b0 := hide ((Below.refl wr.heap.size wr).alloc (Nat.le_refl _) (.cells #[.string fn, .string fd, .int .i64 fs] 68))
          have y0 := hide (Blk.new wr #[.string fn, .string fd, .int .i64 fs] 68 wr.heap.size rfl)
          go_wp2_with fail
          generalize wr.alloc (.cells #[.string fn, .string fd, .int .i64 fs] 68) = w1 at *
          have g0 := (unhide y0).cell 0 rfl
          have g1 := (unhide y0).cell 1 rfl
          have g2 := (unhide y0).cell 2 rfl
          have hd0 := ((unhide b0).cell (p := ⟨w.heap.size, 0, none⟩) (by simp; omega)).trans d0
          have hd1 := ((unhide b0).cell (p := ⟨w.heap.size, 1, none⟩) (by simp; omega)).trans d1
          refine (NameOK_any fn w1 hnm).mono ?_
          rintro e w' ⟨rfl, hw'⟩
          have hw2 := hw'.symm
          clear hw'
          subst hw2
          have HFB : Hid (fileB l k = (nameB fn && inB fs 0 fd.size && (decide (k = 0) || lessB (l.getD (k - 1) default).n fn))) := hide (by unfold fileB; rw [← unhide HFe])
          have HGo := hide hgo
          have hB1 := hide ((unhide HB).trans ((unhide b0).mono (by omega)))
          have hB2 := hide ((unhide B0).trans ((unhide hB1).mono (by omega)))
          clear hgo
          cases hnb : nameB fn
          · have HD := hide (disk_bad (room := room) hlt (by rw [unhide HFB, hnb]; simp))
            go_wp2_with fail
            go_ret
            exact ⟨ret_bool (unhide HD).symm, unhide hB2⟩
          · rcases Bool.eq_false_or_eq_true (inB fs 0 fd.size) with hif | hif
            · go_wp2_with (go_at_call 38; refine (within_any _ _ _ _).mono ?_; rintro e w' ⟨rfl, hw'⟩; have hw2 := hw'.symm; clear hw'; subst hw2)
              by_cases hk00 : k = 0
              · subst hk00
                have HN := hide ((unhide HGo).next (by rw [unhide HFB, hnb, hif]; simp))
                go_quiet (fail)
                go_wp2_with fail
                refine ⟨⟨1, by omega, by go_num, unhide HN, below_drewN (unhide hB1) _⟩, ?_⟩
                simp [intOf]; omega
              · obtain ⟨q, hq⟩ : ∃ q : Nat, (k : Int) - 1 = (q : Int) := ⟨k - 1, by omega⟩
                obtain ⟨t0, _, _⟩ := unhide HSR q (by omega)
                obtain ⟨g, hg⟩ : ∃ g, g = l.getD q default := ⟨_, rfl⟩
                rw [← hg] at t0
                have HGe := hide hg
                clear hg
                obtain ⟨gn, gd, gs⟩ := g
                dsimp only at t0
                have e3 := ((unhide b0).cell (p := ⟨b, off + q * 3, none⟩) (by simp; omega)).trans (((unhide HB).cell (p := ⟨b, off + q * 3, none⟩) (by simp; omega)).trans (((unhide B0).cell (p := ⟨b, off + q * 3, none⟩) hbl).trans t0))
                have p1 : 0 < k := by omega
                have p1d : decide (0 < k) = true := by simpa using p1
                have p2 : IntKind.i64.wrap (q : Int) = (q : Int) := wrapJ _ (by omega) (by omega)
                have p3 : (0 : Int) ≤ (q : Int) := by omega
                have p4 : (q : Int) < (l.length : Int) := by omega
                have HFB2 : Hid (fileB l k = lessB gn fn) := hide (by
                  rw [unhide HFB, hnb, hif, show k - 1 = q by omega, ← unhide HGe]; simp [hk00])
                have hle := lessB_le fn gn
                clear t0
                cases hlb : lessB gn fn
                · rw [hlb] at hle HFB2
                  have HD := hide (disk_bad (room := room) hlt (unhide HFB2))
                  go_quiet (fail)
                  go_wp2_with fail
                  go_ret
                  exact ⟨ret_bool (unhide HD).symm, below_drewN (unhide hB2) _⟩
                · rw [hlb] at hle HFB2
                  have HN := hide ((unhide HGo).next (unhide HFB2))
                  go_quiet (fail)
                  go_wp2_with fail
                  refine ⟨⟨k + 1, by omega, by go_num, unhide HN, below_drewN (unhide hB1) _⟩, ?_⟩
                  simp [intOf]; omega
            · have HD := hide (disk_bad (room := room) hlt (by rw [unhide HFB, hif]; simp))
              go_wp2_with (go_at_call 38; refine (within_any _ _ _ _).mono ?_; rintro e w' ⟨rfl, hw'⟩; have hw2 := hw'.symm; clear hw'; subst hw2)
              go_ret
              exact ⟨ret_bool (unhide HD).symm, unhide hB2⟩
        · obtain rfl : k = l.length := by omega
          have HD := hide (disk_all (room := room) hin h8 hgo)
          have hbw : Below w.heap.size w wr := (unhide B0).trans (hb.mono (by omega))
          have HBW := hide hbw
          have d0 := (hb.cell (p := ⟨w.heap.size, 0, none⟩) (by simp)).trans c0
          have d1 := (hb.cell (p := ⟨w.heap.size, 1, none⟩) (by simp)).trans c1
          have hbs := hbw.size
          have hbs2 := hb.size
          clear hb hbw hgo
          have HFB := hide (fileBytes_any (.slice a l.length cap) l wr.drew ((unhide HF).below (below_drewN (unhide HBW) 1)) (unhide HS).2.1 (unhide HS).1)
          obtain ⟨u, hu⟩ : ∃ u, u = usedTo l l.length := ⟨_, rfl⟩
          rw [← hu] at HFB HD
          clear hu
          go_wp2_with fail
          go_region_held3 (fun wx => wx.cell? ⟨w.heap.size, 0, none⟩ = some (.int .i64 room) ∧ wx.cell? ⟨w.heap.size, 1, none⟩ = some (.slice a l.length cap)) (first | go_keep | exact ⟨(hb2.cell (p := ⟨w.heap.size, 0, none⟩) (by simp; omega)).trans d0, (hb2.cell (p := ⟨w.heap.size, 1, none⟩) (by simp; omega)).trans d1⟩) ((go_at_call 40; refine (unhide HFB).mono ?_; rintro e w2 ⟨rfl, hb2⟩))
          all_goals
            have hbz := (unhide HBW).trans (show Below w.heap.size wr w2 from (below_drewN (Below.refl _ wr) 1).trans (hb2.mono (by simpa using hbs)))
            have HBZ := hide hbz
            clear hbz hb2
            go_wp2_with fail
            go_ret
            exact ⟨ret_bool (unhide HD).symm, unhide HBZ⟩
    · have HD : Hid (diskB room l = false) := hide (by unfold diskB; rw [decide_eq_false h8]; simp)
      have h8b : (8 : Int) < (l.length : Int) := by omega
      go_enter Tryz.func19, Tryz.ntmps19
      go_wp2_with fail
      generalize w.alloc (.cells #[.int .i64 room, .slice a l.length cap] 28) = w0 at *
      have c0 := (unhide X0).cell 0 rfl
      have c1 := (unhide X0).cell 1 rfl
      refine (within_any room 0 3000 w0).mono ?_
      rintro e w' ⟨rfl, hw'⟩
      have hw2 := hw'.symm
      clear hw'
      subst hw2
      rw [hin]
      go_wp2_with fail
      go_ret
      exact ⟨ret_bool (unhide HD).symm, unhide B0⟩
  · have HD : Hid (diskB room l = false) := hide (by unfold diskB; rw [hin]; simp)
    go_enter Tryz.func19, Tryz.ntmps19
    go_wp2_with fail
    generalize w.alloc (.cells #[.int .i64 room, .slice a l.length cap] 28) = w0 at *
    have c0 := (unhide X0).cell 0 rfl
    have c1 := (unhide X0).cell 1 rfl
    refine (within_any room 0 3000 w0).mono ?_
    rintro e w' ⟨rfl, hw'⟩
    have hw2 := hw'.symm
    clear hw'
    subst hw2
    rw [hin]
    go_wp2_with fail
    go_ret
    exact ⟨ret_bool (unhide HD).symm, unhide B0⟩
end Go.Proofs.YtfihhkhdigbmiaaGreatDoor
