/- Digits of a message: the specification's. -/
import Derived.Test.YtcmdilmjdnbfkaaDoorSiE
import Derived.Deep.AppendLies
import Derived.Deep.RegionHeld3
namespace Go.Proofs.YtcmdilmjdnbfkaaDoor.Sha
open Go.ChangeShapes Go.WideShapes Go.ChangeAt Go.RowKit
set_option linter.unusedVariables false

theorem wrapB (n : Int) (h0 : 0 ≤ n) (h1 : n < 9223372036854775808) : IntKind.i64.wrap n = n := by
  simp only [IntKind.wrap, IntKind.bits, IntKind.signed]
  simp
  omega
def dgs (h : ByteArray) (n : Nat) : List Int := (List.range n).map (dg h)
theorem dgs_len (h : ByteArray) (n : Nat) : (dgs h n).length = n := by simp [dgs]
theorem dgs_two (h : ByteArray) (k : Nat) : dgs h (2 * (k + 1)) = dgs h (2 * k) ++ [dg h (2 * k), dg h (2 * k + 1)] := by
  rw [show 2 * (k + 1) = 2 * k + 1 + 1 by omega]
  simp [dgs, List.range_succ]
theorem digL_eq (h : ByteArray) : digL h = dgs h 16 ++ [lackP h 8 / 16, lackP h 8 % 16] := by
  unfold digL dgs
  rw [show (18 : Nat) = 16 + 1 + 1 by rfl, List.range_succ, List.range_succ, List.map_append, List.map_append, List.append_assoc]
  congr 1
theorem digs_push {h : ByteArray} {k : Nat} {B : Nat} {w : World} {v : Value} {n : Nat} (hn : n = 2 * (k + 1)) (ho : w.ownsRow B 3 1 v n ((dgs h (2 * k)).map (Value.int .i64) ++ [.int .i64 (dg h (2 * k)), .int .i64 (dg h (2 * k + 1))])) : OwnI B w v (dgs h (2 * (k + 1))) := by
  unfold OwnI
  rw [dgs_len, dgs_two, List.map_append, ← hn]
  exact ho
set_option maxRecDepth 100000 in
set_option maxHeartbeats 2000000 in
theorem l08Digits_any (m : ByteArray) (w : World) (hm : m.size ≤ 65536) :
    Calls Tryd.prog 32 #[.string m] w fun e w' => ∃ v, e = .returned v ∧ OwnI w.heap.size w' v (digL (hashV (bytesI m))) ∧ Below w.heap.size w w' := by
  obtain ⟨i0, hi, hz0, hz1, hz2⟩ := info_parts info3
  have HH32 := hide (hash_size (l := bytesI m) (by rw [bytesI_len]; exact hm))
  obtain ⟨cap, w1, hcv, hB, hb1⟩ := str_bytesB m w (by unfold maxLen; omega)
  have hl : (bytesI m).length = m.size := bytesI_len m
  have HV : Hid (hashV (bytesI m) = strOfNums (textL (stAt (bytesI m) (padLen (bytesI m).length / 64)))) := hide (hashV_yes (by omega))
  have hB' : Bytes w1 (.slice (some ⟨w.heap.size, 0, none⟩) (bytesI m).length cap) (bytesI m) := by rw [hl]; exact hB
  have HL := hide (l01Hash_any _ _ _ w1 hB' (by omega))
  rw [← unhide HV, hl] at HL
  have B1 := hide hb1
  clear hb1 hB hB' hl HV
  generalize hhh : hashV (bytesI m) = h at *
  have HHH := hide hhh
  clear hhh
  go_enter Tryd.func32, Tryd.ntmps32
  go_wp2_with fail
  refine (unhide HL).mono ?_
  rintro e w2 ⟨rfl, hb2⟩
  have B2 := hide ((unhide B1).trans (hb2.mono (unhide B1).size))
  have O2 := hide (OwnI.empty w2 w.heap.size w2.heap.size rfl (unhide B2).size)
  have B2a := hide ((unhide B2).alloc (unhide B2).size (.cells #[] 3))
  clear hb2 B1
  go_wp2_with fail
  generalize w2.heap.size = X2 at *
  go_loopw [4, 6] (fun v i wr => ∃ k : Nat, k ≤ 8 ∧ i = .int .i64 k ∧ OwnI w.heap.size wr v (dgs h (2 * k)) ∧ Below w.heap.size w wr) (fun _ i _ => 8 - (intOf i).toNat)
  case atStart => exact ⟨0, Nat.zero_le _, rfl, unhide O2, unhide B2a⟩
  case round =>
    clear O2 B2a B2
    obtain ⟨k, hk, rfl, hown, hbel⟩ := hrel
    by_cases hlt : k < 8
    · have hk0 : (0 : Int) ≤ (k : Int) := by omega
      have hk8 : (k : Int) < 8 := by omega
      have hkh : k < h.size := by have := unhide HH32; omega
      have hk1 : (k : Int) < (h.size : Int) := by omega
      have hbA := bAt_eq h k hkh
      have hbl := bAt_lo h k
      have hbh := bAt_hi h k
      have hx0 := dg_range h (2 * k)
      have hy0 := dg_range h (2 * k + 1)
      have hq1 : bAt h k / 16 = dg h (2 * k) := (dg_even h k).symm
      have hq2 : Int.tmod (bAt h k) 16 = dg h (2 * k + 1) := by rw [dg_odd, Int.tmod_eq_emod_of_nonneg hbl]
      have hq3 : Int.tdiv (bAt h k) 16 = dg h (2 * k) := by rw [dg_even, Int.tdiv_eq_ediv_of_nonneg hbl]
      have hw1 : IntKind.u8.wrap (dg h (2 * k)) = dg h (2 * k) := wraps_u8 _ (by omega) (by omega)
      have hw2 : IntKind.u8.wrap (dg h (2 * k + 1)) = dg h (2 * k + 1) := wraps_u8 _ (by omega) (by omega)
      have hw3 : IntKind.i64.wrap (dg h (2 * k)) = dg h (2 * k) := wrapB _ (by omega) (by omega)
      have hw4 : IntKind.i64.wrap (dg h (2 * k + 1)) = dg h (2 * k + 1) := wrapB _ (by omega) (by omega)
      have HP : Hid (∀ (wx : World) (v : Value) (n : Nat), n = 2 * (k + 1) → wx.ownsRow w.heap.size 3 1 v n ((dgs h (2 * k)).map (Value.int .i64) ++ [.int .i64 (dg h (2 * k)), .int .i64 (dg h (2 * k + 1))]) → OwnI w.heap.size wx v (dgs h (2 * (k + 1)))) := hide (fun wx v n hn ho => digs_push (h := h) (k := k) hn ho)
      have hdl := dgs_len h (2 * k)
      unfold OwnI at hown
      rw [hdl] at hown
      generalize dg h (2 * k) = x at *
      generalize dg h (2 * k + 1) = y at *
      generalize bAt h k = b at *
      clear hdl
      go_wp2_with fail
      go_region_held3 (fun _ => True) (trivial) ((refine step_append_lies _ (by rfl) _ _ _ (by rfl) w.heap.size 3 i0 _ 1 8 Tryd.underlying22 hi hz0 hz1 hz2 rfl (by omega) u4 (2 * k) ((dgs h (2 * k)).map (Value.int .i64)) (by rfl) ((hown.alloc _).drew) ⟨wr.heap.size, 0, none⟩ 2 2 [_, _] (by rfl) (by rfl) (World.news_of_block (cs := #[_, _]) (t := 3) (fr := (0, 0)) (heap_alloc_new wr _)) (by simp [Value.oneCell']) (by omega) (by unfold maxLen; omega) (by omega) (by have := hbel.size; simp; omega) (wr.heap.size + 1) (by simp) ?_; intro gg cap w3 hown1 hgrow hat hlt1))
      all_goals
        have R := hide (And.intro (unhide HP w3 _ (2 * k + 2) (by omega) hown1) ((hbel.alloc hbel.size _).drew.grown hgrow (by have := hbel.size; simp; omega) (fun r hr => (hown.lt r hr).1)))
        clear hown1 hgrow hat hlt1 hown hbel
        go_wp2_with fail
        refine ⟨⟨k + 1, by omega, by go_num, (unhide R).1, (unhide R).2⟩, ?_⟩
        simp [intOf]; omega
    · obtain rfl : k = 8 := by omega
      have hT8 := lackT_two h 8
      rcases hown.shape with ⟨_, h0⟩ | ⟨g, cap2, rfl⟩
      · have := congrArg List.length h0
        rw [dgs_len] at this
        simp at this
      obtain ⟨hL0, hmx, hgB, _, hglt⟩ := LaidI.of hown
      have HC : Hid (∀ j, j < 16 → wr.cell? ⟨g, j, none⟩ = some (.int .i64 (dg h j))) := hide (fun j hj => by
        have := (hL0.cell j (by rw [dgs_len]; omega)).1
        rw [this]
        simp [dgs, List.getD_eq_getElem?_getD, hj])
      have HOW := hide hown
      have HBE := hide hbel
      rw [dgs_len] at HOW ⊢
      clear hL0 hown hbel hmx
      go_wp2_with fail
      go_loop [5, 7] (fun s i => ∃ j : Nat, j ≤ 16 ∧ s = .int .i64 (lackT h j) ∧ i = .int .i64 j) (fun _ i => 16 - (intOf i).toNat)
      case atStart => exact ⟨0, Nat.zero_le _, rfl, rfl⟩
      case round =>
        obtain ⟨j, hj, rfl, rfl⟩ := hrel
        have hlr := lackT_range h j
        by_cases hlt2 : j < 16
        · have c1 := unhide HC j hlt2
          have HN : Hid (lackT h (j + 1) = lackT h j + (15 - dg h j)) := rfl
          have hdr := dg_range h j
          generalize dg h j = x at *
          generalize lackT h j = lk at *
          have p0 : (0 : Int) ≤ (j : Int) := by omega
          have p1 : (j : Int) < 16 := by omega
          go_wp2_with fail
          go_round
          case rel => exact ⟨j + 1, by omega, by rw [unhide HN], by go_num⟩
          case measure => simp [intOf]; omega
        · obtain rfl : j = 16 := by omega
          have hP8 := lackP_range h 8
          have e8 : lackT h 16 = lackP h 8 := hT8
          rw [e8] at hlr ⊢
          have hq1 : Int.tdiv (lackP h 8) 16 = lackP h 8 / 16 := by rw [Int.tdiv_eq_ediv_of_nonneg hP8.1]
          have hq2 : Int.tmod (lackP h 8) 16 = lackP h 8 % 16 := by rw [Int.tmod_eq_emod_of_nonneg hP8.1]
          have hwx : wrap64 (lackP h 8 / 16) = lackP h 8 / 16 := by unfold wrap64; omega
          have HE := hide (digL_eq h)
          generalize lackP h 8 / 16 = x at *
          generalize lackP h 8 % 16 = y at *
          generalize lackP h 8 = lk at *
          have hows : Hid (wr.ownsRow w.heap.size 3 1 (.slice (some ⟨g, 0, none⟩) 16 cap2) 16 ((dgs h 16).map (Value.int .i64))) := hide (by
            have := unhide HOW
            unfold OwnI at this
            rw [dgs_len] at this
            exact this)
          have hsz := (unhide HBE).size
          clear HC hT8 e8
          go_wp2_with (at_builtin; refine wpList_append_own _ rfl _ _ 22 rfl w.heap.size 3 i0 (.int .i64 0) 1 8 Tryd.underlying22 hi hz0 hz1 hz2 rfl (by decide) _ 16 _ rfl ((unhide hows).alloc _) ⟨wr.heap.size, 0, none⟩ 2 2 [_, _] rfl rfl (World.news_of_block (cs := #[_, _]) (t := 3) (fr := (0, 0)) (heap_alloc_new wr _)) (by simp [Value.oneCell']) (by unfold maxLen; omega) (by omega) (by simp; omega) ?_; intro v' w3 hown1 hgrow hnil)
          have R := hide (And.intro hown1 (((unhide HBE).alloc (unhide HBE).size _).grown hgrow (by simp; omega) (fun r hr => ((unhide hows).lt r hr).1)))
          clear hown1 hgrow hnil
          go_wp2_with fail
          go_ret
          refine ⟨_, rfl, ?_, (unhide R).2⟩
          unfold OwnI
          rw [digL_len, unhide HE, List.map_append]
          exact (unhide R).1
set_option maxRecDepth 100000 in
set_option maxHeartbeats 2000000 in
theorem specDigits_any (m : ByteArray) (w : World) (hs : m.size ≤ 1048576) :
    Calls Tryd.prog 9 #[.string m] w fun e w' => ∃ v, e = .returned (.tuple #[v, .int .i64 (dgOut m).2]) ∧ OwnI w.heap.size w' v (dgOut m).1 ∧ Below w.heap.size w w' := by
  by_cases h1 : 65536 < m.size
  · have HO : Hid (dgOut m = ([], 2)) := hide (by unfold dgOut; rw [if_pos h1])
    have O2 := hide (OwnI.empty w w.heap.size w.heap.size rfl (Nat.le_refl _))
    have B2 := hide ((Below.refl w.heap.size w).alloc (Nat.le_refl _) (.cells #[] 3))
    go_enter Tryd.func9, Tryd.ntmps9
    go_wp2_with fail
    go_ret2
    exact ⟨_, by rw [unhide HO]; rfl, by rw [unhide HO]; exact unhide O2, unhide B2⟩
  · have HO : Hid (dgOut m = (digL (hashV (bytesI m)), 0)) := hide (by unfold dgOut; rw [if_neg h1])
    have HD := hide (l08Digits_any m w (by omega))
    go_enter Tryd.func9, Tryd.ntmps9
    go_wp2_with fail
    refine (unhide HD).mono ?_
    rintro e w1 ⟨v, rfl, hO, hb⟩
    have R := hide (And.intro hO hb)
    clear hO hb
    go_wp2_with fail
    go_ret2
    exact ⟨_, by rw [unhide HO]; rfl, by rw [unhide HO]; exact (unhide R).1, (unhide R).2⟩
end Go.Proofs.YtcmdilmjdnbfkaaDoor.Sha
