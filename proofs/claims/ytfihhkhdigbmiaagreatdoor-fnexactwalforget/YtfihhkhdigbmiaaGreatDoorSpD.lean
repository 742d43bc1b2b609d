/- A segment's data: spec.l03Find, spec.l04Data. -/
import Derived.Test.YtfihhkhdigbmiaaGreatDoorSpS
import Derived.Laws.Cover1
namespace Go.Proofs.YtfihhkhdigbmiaaGreatDoor
open Go.ChangeShapes Go.WideShapes Go.ChangeAt Go.RowKit
set_option linter.unusedVariables false
set_option linter.unusedSimpArgs false

theorem toList_inj2 {a b : ByteArray} (h : a.toList = b.toList) : a = b := by
  rw [ByteArray.toList_eq, ByteArray.toList_eq] at h
  cases a; cases b
  simp only [ByteArray.mk.injEq]
  exact Array.ext' h
set_option maxRecDepth 100000 in
set_option maxHeartbeats 4000000 in
theorem l03Find_any (room : Int) (v : Value) (l : List Fl) (t : ByteArray) (i0 : Nat) (w : World) (h : Fls w v l) (hi0 : i0 < l.length) (hl : l.length ≤ 1048576) (hat : (l.getD i0 default).n = t) (hno : ∀ j, j < i0 → (l.getD j default).n ≠ t) :
    Calls Tryz.prog 60 #[.agg #[.int .i64 room, v], .string t] w fun e w' => e = .returned (.int .i64 i0) ∧ Below w.heap.size w w' := by
  obtain ⟨a, cap, rfl, hn, hm, hc⟩ := h
  have HC := hide hc
  have HAT := hide hat
  have HNO := hide hno
  clear hc hat hno
  have B0 := hide ((Below.refl w.heap.size w).alloc (Nat.le_refl _) (.cells #[.int .i64 room, .slice a l.length cap] 28))
  have X0 := hide (Blk.new w #[.int .i64 room, .slice a l.length cap] 28 w.heap.size rfl)
  go_enter Tryz.func60, Tryz.ntmps60
  go_wp2_with fail
  generalize w.alloc (.cells #[.int .i64 room, .slice a l.length cap] 28) = w0 at *
  have x1 := (unhide X0).cell 1 rfl
  go_loop [5] (fun i => ∃ k : Nat, k ≤ i0 ∧ i = .int .i64 k) (fun i => i0 + 1 - (intOf i).toNat)
  case atStart => exact ⟨0, Nat.zero_le _, rfl⟩
  case round =>
    obtain ⟨k, hk, rfl⟩ := hrel
    obtain ⟨b, off, rfl, hbl, hsrc⟩ : ∃ b off, a = some ⟨b, off, none⟩ ∧ b < w.heap.size ∧ ∀ i, i < l.length → w.cell? ⟨b, off + i * 3, none⟩ = some (.string (l.getD i default).n) ∧ w.cell? ⟨b, off + i * 3 + 1, none⟩ = some (.string (l.getD i default).d) ∧ w.cell? ⟨b, off + i * 3 + 2, none⟩ = some (.int .i64 (l.getD i default).s) := by
      rcases unhide HC with h0 | h1
      · omega
      · exact h1
    obtain ⟨s0, s1, s2⟩ := hsrc k (by omega)
    have c0 := ((unhide B0).cell (p := ⟨b, off + k * 3, none⟩) hbl).trans s0
    have hk0 : (0 : Int) ≤ (k : Int) := by omega
    have hk1 : (k : Int) < (l.length : Int) := by omega
    clear hsrc s0 s1 s2
    by_cases he : k = i0
    · subst he
      have hq := unhide HAT
      rw [hq] at c0
      clear hq
      go_wp2_with fail
      go_ret
      exact ⟨rfl, unhide B0⟩
    · have hne := unhide HNO k (by omega)
      have hb : ((l.getD k default).n.toList == t.toList) = false := by rw [beq_eq_false_iff_ne]; exact fun e => hne (toList_inj2 e)
      generalize (l.getD k default).n = fn at *
      clear hne
      go_wp2_with fail
      go_round
      case rel => exact ⟨k + 1, by omega, by go_num⟩
      case measure => simp [intOf]; omega

set_option maxRecDepth 100000 in
set_option maxHeartbeats 4000000 in
theorem l04Data_any (room : Int) (v : Value) (l : List Fl) (n : Int) (i0 : Nat) (w : World) (h : Fls w v l) (hi0 : i0 < l.length) (hl : l.length ≤ 1048576) (hn0 : 0 ≤ n) (hn1 : n ≤ 99) (hat : (l.getD i0 default).n = segN n) (hno : ∀ j, j < i0 → (l.getD j default).n ≠ segN n) :
    Calls Tryz.prog 50 #[.agg #[.int .i64 room, v], .int .i64 n] w fun e w' => e = .returned (.string (l.getD i0 default).d) ∧ Below w.heap.size w w' := by
  have HF := hide h
  obtain ⟨a, cap, rfl, hn, hm, hc⟩ := h
  have HAT := hide hat
  have HNO := hide hno
  obtain ⟨b, off, rfl, hbl, hsrc⟩ : ∃ b off, a = some ⟨b, off, none⟩ ∧ b < w.heap.size ∧ ∀ i, i < l.length → w.cell? ⟨b, off + i * 3, none⟩ = some (.string (l.getD i default).n) ∧ w.cell? ⟨b, off + i * 3 + 1, none⟩ = some (.string (l.getD i default).d) ∧ w.cell? ⟨b, off + i * 3 + 2, none⟩ = some (.int .i64 (l.getD i default).s) := by
    rcases hc with h0 | h1
    · omega
    · exact h1
  obtain ⟨s0, s1, s2⟩ := hsrc i0 hi0
  clear hc hsrc s0 s2 hat hno
  have B0 := hide (((Below.refl w.heap.size w).alloc (Nat.le_refl _) (.cells #[.int .i64 room, .slice (some ⟨b, off, none⟩) l.length cap] 28)))
  have X0 := hide (Blk.new w #[.int .i64 room, .slice (some ⟨b, off, none⟩) l.length cap] 28 w.heap.size rfl)
  go_enter Tryz.func50, Tryz.ntmps50
  go_wp2_with fail
  generalize w.alloc (.cells #[.int .i64 room, .slice (some ⟨b, off, none⟩) l.length cap] 28) = w0 at *
  have x0 := (unhide X0).cell 0 rfl
  have x1 := (unhide X0).cell 1 rfl
  have hxl := (unhide X0).1
  have B1 := hide (below_drewN (unhide B0) 1)
  have k1 := ((unhide B0).cell (p := ⟨b, off + i0 * 3 + 1, none⟩) hbl).trans s1
  have hq0 : (0 : Int) ≤ (i0 : Int) := by omega
  have hq1 : (i0 : Int) < (l.length : Int) := by omega
  obtain ⟨fd, hfd⟩ : ∃ fd, fd = (l.getD i0 default).d := ⟨_, rfl⟩
  rw [← hfd] at k1
  have HFD := hide hfd
  clear hfd
  have hbl0 : b < (w0.drewN 1).heap.size := Nat.lt_of_lt_of_le hbl (unhide B1).size
  go_region_held3 (fun wx => wx.cell? ⟨w.heap.size, 0, none⟩ = some (.int .i64 room) ∧ wx.cell? ⟨w.heap.size, 1, none⟩ = some (.slice (some ⟨b, off, none⟩) l.length cap) ∧ wx.cell? ⟨b, off + i0 * 3 + 1, none⟩ = some (.string fd))
    (first
      | go_keep
      | exact ⟨(hb3.cell (p := ⟨w.heap.size, 0, none⟩) hx2).trans q0, (hb3.cell (p := ⟨w.heap.size, 1, none⟩) hx2).trans q1, (hb3.cell (p := ⟨b, off + i0 * 3 + 1, none⟩) hb2l).trans q2⟩
      | exact ⟨q0, q1, q2⟩
      | exact ⟨x0, x1, k1⟩)
    (first
      | (go_at_call 60; refine (l03Find_any room _ l (segN n) i0 w2 ((unhide HF).below ((unhide B1).trans (hb2.mono (unhide B1).size))) hi0 hl (unhide HAT) (unhide HNO)).mono ?_; rintro e w3 ⟨rfl, hb3⟩)
      | (go_at_call 36; refine (l04Name_any n _ hn0 hn1).mono ?_; rintro e w2 ⟨rfl, hb2⟩; have hx2 : w.heap.size < w2.heap.size := Nat.lt_of_lt_of_le hxl hb2.size; have hb2l : b < w2.heap.size := Nat.lt_of_lt_of_le hbl0 hb2.size; have q0 := (hb2.cell (p := ⟨w.heap.size, 0, none⟩) hxl).trans x0; have q1 := (hb2.cell (p := ⟨w.heap.size, 1, none⟩) hxl).trans x1; have q2 := (hb2.cell (p := ⟨b, off + i0 * 3 + 1, none⟩) hbl0).trans k1))
  all_goals
    have B3 := hide ((unhide B1).trans ((hb2.mono (unhide B1).size).trans (hb3.mono (Nat.le_trans (unhide B1).size hb2.size))))
    clear hb2 hb3
    go_wp2_with fail
    go_ret
    exact ⟨by rw [← unhide HFD]; rfl, unhide B3⟩
end Go.Proofs.YtfihhkhdigbmiaaGreatDoor
