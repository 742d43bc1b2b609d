/- Members: impl.membersFault and spec.l02Members, walked. -/
import Derived.Test.YtglkgmijcefjkaaIn
import Derived.Test.YtglkgmijcefjkaaWrS
import Derived.Test.YtglkgmijcefjkaaMemI
import Derived.Deep.QuietTactic
import Derived.BigQuiet
namespace Go.Proofs.Ytglkgmijcefjkaa
open Go.ChangeShapes Go.WideShapes Go.ChangeAt Go.RowKit
set_option linter.unusedVariables false

abbrev InAll (l : List Int) : Prop := ∀ i, i < l.length → inB (l.getD i 0) 0 6 = true
abbrev Rising (l : List Int) : Prop := ∀ i, i < l.length → i = 0 ∨ l.getD (i - 1) 0 < l.getD i 0
def mFault (l : List Int) : Int := if InAll l then (if l.length = 0 then 1 else if Rising l then 0 else 1) else 4

set_option maxRecDepth 100000 in
set_option maxHeartbeats 1000000 in
theorem membersFault_any (v : Value) (l : List Int) (w : World) (h : Ints w v l) (hs : l.length ≤ 1048576) :
    Calls Try.prog 48 #[v] w fun e w' => e = .returned (.int .i64 (mFault l)) ∧ ∃ n, w' = w.drewN n := by
  obtain ⟨a, cap, rfl, hm, hc⟩ := h
  have HC := hide hc
  clear hc hm
  go_enter Try.func48, Try.ntmps48
  go_wp2_with fail
  go_loop [4, 8] (fun _ i => ∃ k : Nat, k ≤ l.length ∧ i = .int .i64 k ∧ Hid (∀ i, i < k → inB (l.getD i 0) 0 6 = true)) (fun _ i => l.length - (intOf i).toNat)
  case atStart => exact ⟨0, Nat.zero_le _, rfl, fun i hi => absurd hi (Nat.not_lt_zero _)⟩
  case round =>
    obtain ⟨k, hk, rfl, hA⟩ := hrel
    by_cases hlt : k < l.length
    · obtain ⟨b, off, rfl, hbl, hsrc⟩ : ∃ b off, a = some ⟨b, off, none⟩ ∧ b < w.heap.size ∧ ∀ i, i < l.length → w.cell? ⟨b, off + i, none⟩ = some (.int .i64 (l.getD i 0)) := by
        rcases unhide HC with h0 | h1
        · omega
        · exact h1
      have hs1 := hsrc k hlt
      have hk0 : (0 : Int) ≤ (k : Int) := by omega
      have hk1 : (k : Int) < (l.length : Int) := by omega
      have HX : Hid (l.getD k 0 = l.getD k 0) := rfl
      clear hsrc
      rcases Bool.eq_false_or_eq_true (inB (l.getD k 0) 0 6) with hin | hin
      · have HA := hide (show ∀ i, i < k + 1 → inB (l.getD i 0) 0 6 = true from fun i hi => by
          by_cases e : i = k
          · subst e; exact hin
          · exact unhide hA i (by omega))
        generalize l.getD k 0 = x at *
        go_wp2_with fail
        refine (within_any _ _ _ _).mono ?_
        rintro e w' ⟨rfl, rfl⟩
        go_wp2_with fail
        go_round
        case rel => exact ⟨k + 1, by omega, by go_num, unhide HA⟩
        case measure => simp [intOf]; omega
      · have HF := hide (show mFault l = 4 by unfold mFault; rw [if_neg (fun hx => by rw [hx k hlt] at hin; cases hin)])
        generalize l.getD k 0 = x at *
        go_wp2_with fail
        refine (within_any _ _ _ _).mono ?_
        rintro e w' ⟨rfl, rfl⟩
        go_wp2_with fail
        go_ret
        exact ⟨ret_int (unhide HF).symm, 0, rfl⟩
    · obtain rfl : k = l.length := by omega
      have hin : InAll l := unhide hA
      by_cases hl0 : l.length = 0
      · have HF := hide (show mFault l = 1 by unfold mFault; rw [if_pos hin, if_pos hl0])
        have hb0 : ((l.length : Int) == 0) = true := by rw [hl0]; rfl
        clear hin
        go_wp2_with fail
        go_ret
        exact ⟨ret_int (unhide HF).symm, 0, rfl⟩
      · have hb0 : ((l.length : Int) == 0) = false := by rw [beq_eq_false_iff_ne]; omega
        have HI := hide hin
        have hl1 : 1 ≤ l.length := by omega
        clear hin hl0
        go_wp2_with fail
        go_loopw [5] (fun i wr => ∃ j n : Nat, 1 ≤ j ∧ j ≤ l.length ∧ i = .int .i64 j ∧ Hid (∀ i, i < j → i = 0 ∨ l.getD (i - 1) 0 < l.getD i 0) ∧ wr = w.drewN n) (fun i _ => l.length - (intOf i).toNat)
        case atStart => exact ⟨1, 0, Nat.le_refl _, hl1, rfl, fun i hi => .inl (by omega), rfl⟩
        case round =>
          obtain ⟨j, n, hj1, hj, rfl, hR, rfl⟩ := hrel
          by_cases hlt2 : j < l.length
          · obtain ⟨b, off, rfl, hbl, hsrc⟩ : ∃ b off, a = some ⟨b, off, none⟩ ∧ b < w.heap.size ∧ ∀ i, i < l.length → w.cell? ⟨b, off + i, none⟩ = some (.int .i64 (l.getD i 0)) := by
              rcases unhide HC with h0 | h1
              · omega
              · exact h1
            obtain ⟨q, rfl⟩ : ∃ q, j = q + 1 := ⟨j - 1, by omega⟩
            have hs1 : w.cell? ⟨b, off + (q + 1), none⟩ = _ := hsrc (q + 1) hlt2
            have hs2 : w.cell? ⟨b, off + q, none⟩ = _ := hsrc q (by omega)
            have hk0 : (0 : Int) ≤ ((q + 1 : Nat) : Int) := by omega
            have hk1 : ((q + 1 : Nat) : Int) < (l.length : Int) := by omega
            have hk2 : (0 : Int) ≤ (q : Int) := by omega
            have hk3 : (q : Int) < (l.length : Int) := by omega
            have m1 : IntKind.i64.wrap (((q + 1 : Nat) : Int) - 1) = (q : Int) := by simp only [IntKind.wrap, IntKind.bits, IntKind.signed]; simp; omega
            have m2 : IntKind.i64.wrap (q : Int) = (q : Int) := by simp only [IntKind.wrap, IntKind.bits, IntKind.signed]; simp; omega
            clear hsrc
            by_cases hle : l.getD (q + 1) 0 ≤ l.getD q 0
            · have HF := hide (show mFault l = 1 by
                unfold mFault
                rw [if_pos (unhide HI), if_neg (by omega), if_neg (fun hx => by
                  rcases hx (q + 1) hlt2 with h0 | h0
                  · omega
                  · rw [Nat.add_sub_cancel] at h0; omega)])
              generalize l.getD (q + 1) 0 = x at *
              generalize l.getD q 0 = y at *
              go_wp2_with fail
              go_quiet (fail)
              go_wp2_with fail
              go_ret
              exact ⟨ret_int (unhide HF).symm, n + nq, drewN_two _ _ _⟩
            · have HR := hide (show ∀ i, i < q + 1 + 1 → i = 0 ∨ l.getD (i - 1) 0 < l.getD i 0 from fun i hi => by
                by_cases e : i = q + 1
                · subst e; right; rw [Nat.add_sub_cancel]; omega
                · exact unhide hR i (by omega))
              have hlt3 : l.getD q 0 < l.getD (q + 1) 0 := by omega
              have hd : decide (l.getD (q + 1) 0 ≤ l.getD q 0) = false := by simpa using hle
              generalize l.getD (q + 1) 0 = x at *
              generalize l.getD q 0 = y at *
              go_wp2_with fail
              go_quiet (fail)
              go_wp2_with fail
              refine ⟨⟨q + 1 + 1, n + nq, by omega, by omega, by go_num, unhide HR, rfl⟩, ?_⟩
              simp [intOf]; omega
          · have HF := hide (show mFault l = 0 by
              unfold mFault
              rw [if_pos (unhide HI), if_neg (by omega), if_pos (fun i hi => unhide hR i (by omega))])
            go_wp2_with fail
            go_ret
            exact ⟨ret_int (unhide HF).symm, n, rfl⟩

abbrev MemB (s : ByteArray) : Prop := InAll (bytesI s) ∧ Rising (bytesI s)
/-- What l02Members tells. -/
def memOut (s : ByteArray) : List Int × Bool := if MemB s then (bytesI s, decide (0 < s.size)) else ([], false)
set_option maxRecDepth 100000 in
set_option maxHeartbeats 1000000 in
theorem l02Members_any (s : ByteArray) (w : World) (hs : s.size ≤ 1048576) :
    Calls Try.prog 63 #[.string s] w fun e w' => ∃ v', e = .returned (.tuple #[v', .bool (memOut s).2]) ∧ OwnI w.heap.size w' v' (memOut s).1 ∧ Below w.heap.size w w' := by
  obtain ⟨i0, hi, hz0, hz1, hz2⟩ := info_parts info3
  have hbl := bytesI_len s
  have HBL := hide hbl
  clear hbl
  go_enter Try.func63, Try.ntmps63
  go_wp2_with fail
  go_loopw [4, 5] (fun v i wr => ∃ k : Nat, k ≤ s.size ∧ i = .int .i64 k ∧ Hid (∀ i, i < k → inB (bAt s i) 0 6 = true ∧ (i = 0 ∨ bAt s (i - 1) < bAt s i)) ∧ wr.ownsRow w.heap.size 3 1 v k (((bytesI s).take k).map (Value.int .i64)) ∧ Below w.heap.size w wr) (fun _ i _ => s.size - (intOf i).toNat)
  case atStart =>
    refine ⟨0, Nat.zero_le _, rfl, fun i hi => absurd hi (Nat.not_lt_zero _), ?_, (Below.refl _ _).alloc (Nat.le_refl _) _⟩
    exact World.ownsRow_made w #[] 0 (Nat.le_refl _) (by unfold maxLen; omega) rfl
  case round =>
    obtain ⟨k, hk, rfl, hA, hown, hbel⟩ := hrel
    by_cases hlt : k < s.size
    · have e1 := bAt_eq s k hlt
      have hb0 := bAt_lo s k
      have hb1 := bAt_hi s k
      have hk0 : (0 : Int) ≤ (k : Int) := by omega
      have hk1 : (k : Int) < (s.size : Int) := by omega
      have m0 : IntKind.i64.wrap (bAt s k) = bAt s k := by simp only [IntKind.wrap, IntKind.bits, IntKind.signed]; simp; omega
      have hno : ∀ (hx : ¬ (inB (bAt s k) 0 6 = true ∧ (k = 0 ∨ bAt s (k - 1) < bAt s k))), memOut s = ([], false) := fun hx => by
        unfold memOut
        rw [if_neg (fun hy => hx ⟨by have := hy.1 k (by rw [unhide HBL]; exact hlt); rwa [bytesI_bAt] at this, by
          rcases hy.2 k (by rw [unhide HBL]; exact hlt) with h0 | h0
          · exact .inl h0
          · right; rwa [bytesI_bAt, bytesI_bAt] at h0⟩)]
      have HNO := hide hno
      have HT := hide (bytesI_take s k hlt)
      clear hno
      rcases Bool.eq_false_or_eq_true (inB (bAt s k) 0 6) with hin | hin
      · by_cases hz : k = 0
        · have HA2 := hide (show ∀ i, i < k + 1 → inB (bAt s i) 0 6 = true ∧ (i = 0 ∨ bAt s (i - 1) < bAt s i) from fun i hi => by
            obtain rfl : i = k := by omega
            exact ⟨hin, .inl hz⟩)
          have hk2 : ¬ ((0 : Int) < (k : Int)) := by omega
          have hd : decide ((0 : Int) < (k : Int)) = false := by simpa using hk2
          have hd2 : decide (0 < k) = false := by simp; omega
          have HO := hide hown
          have HB := hide hbel
          have HZ := hide hz
          clear hown hbel HNO hz
          generalize bAt s k = x at *
          go_wp2_with fail
          go_quiet ((go_at_call 20; exact Calls.quiet_of_same (l01In_any _ _ _ _)))
          have hO1 : (wr.drewN nq).ownsRow w.heap.size 3 1 u4 k (((bytesI s).take k).map (Value.int .i64)) := unhide HO
          have hB1 : Below w.heap.size w (wr.drewN nq) := below_drewN (unhide HB) nq
          have hz1' := hB1.size
          have O1 := hide hO1
          have B1 := hide hB1
          clear hO1 hB1 HO HB
          generalize wr.drewN nq = w1 at *
          go_wp2_with (at_builtin; refine wpList_append_lies _ rfl _ _ _ rfl w.heap.size 3 i0 _ 1 8 Try.underlying23 hi hz0 hz1 hz2 rfl (by omega) u4 k _ rfl ((unhide O1).alloc _) ⟨w1.heap.size, 0, none⟩ 1 1 [_] rfl rfl (World.news_of_block (cs := #[_]) (t := 3) (fr := (0, 0)) (heap_alloc_new w1 _)) (by simp [Value.oneCell']) (by omega) (by unfold maxLen; omega) (by omega) (by simp; omega) _ rfl ?_; intro gg capg w2 hown2 hgrow2 hat2 hlt2)
          have R := hide (show w2.ownsRow w.heap.size 3 1 (.slice (some ⟨gg, 0, none⟩) (k + 1) capg) (k + 1) (((bytesI s).take (k + 1)).map (Value.int .i64)) ∧ Below w.heap.size w w2 from ⟨by rw [unhide HT, List.map_append]; exact hown2, ((unhide B1).alloc hz1' _).grown hgrow2 (by simp; omega) (fun r hr => ((unhide O1).lt r hr).1)⟩)
          clear hown2 hgrow2 hat2 hlt2
          go_roundw
          case rel => exact ⟨k + 1, by omega, by go_num, unhide HA2, (unhide R).1, (unhide R).2⟩
          case measure => simp [intOf]; omega
        · obtain ⟨q, rfl⟩ : ∃ q, k = q + 1 := ⟨k - 1, by omega⟩
          have e2 := bAt_eq s q (by omega)
          have hc0 := bAt_lo s q
          have hc1 := bAt_hi s q
          have hk2 : (0 : Int) < ((q + 1 : Nat) : Int) := by omega
          have hq0 : (0 : Int) ≤ (q : Int) := by omega
          have hq1 : (q : Int) < (s.size : Int) := by omega
          have m1 : IntKind.i64.wrap (((q + 1 : Nat) : Int) - 1) = (q : Int) := by simp only [IntKind.wrap, IntKind.bits, IntKind.signed]; simp; omega
          have m2 : IntKind.i64.wrap (q : Int) = (q : Int) := by simp only [IntKind.wrap, IntKind.bits, IntKind.signed]; simp; omega
          by_cases hlt3 : bAt s q < bAt s (q + 1)
          · have HA2 := hide (show ∀ i, i < q + 1 + 1 → inB (bAt s i) 0 6 = true ∧ (i = 0 ∨ bAt s (i - 1) < bAt s i) from fun i hi => by
              by_cases e : i = q + 1
              · subst e; exact ⟨hin, .inr (by rw [Nat.add_sub_cancel]; exact hlt3)⟩
              · exact unhide hA i (by omega))
            have hd : decide (bAt s (q + 1) ≤ bAt s q) = false := by simp; omega
            have HO := hide hown
            have HB := hide hbel
            clear hown hbel HNO hz
            generalize bAt s (q + 1) = x at *
            generalize bAt s q = y at *
            go_wp2_with fail
            go_quiet ((go_at_call 20; exact Calls.quiet_of_same (l01In_any _ _ _ _)))
            have hO1 : (wr.drewN nq).ownsRow w.heap.size 3 1 u4 (q + 1) (((bytesI s).take (q + 1)).map (Value.int .i64)) := unhide HO
            have hB1 : Below w.heap.size w (wr.drewN nq) := below_drewN (unhide HB) nq
            have hz1' := hB1.size
            have O1 := hide hO1
            have B1 := hide hB1
            clear hO1 hB1 HO HB
            generalize wr.drewN nq = w1 at *
            go_wp2_with (at_builtin; refine wpList_append_lies _ rfl _ _ _ rfl w.heap.size 3 i0 _ 1 8 Try.underlying23 hi hz0 hz1 hz2 rfl (by omega) u4 (q + 1) _ rfl ((unhide O1).alloc _) ⟨w1.heap.size, 0, none⟩ 1 1 [_] rfl rfl (World.news_of_block (cs := #[_]) (t := 3) (fr := (0, 0)) (heap_alloc_new w1 _)) (by simp [Value.oneCell']) (by omega) (by unfold maxLen; omega) (by omega) (by simp; omega) _ rfl ?_; intro gg capg w2 hown2 hgrow2 hat2 hlt2)
            have R := hide (show w2.ownsRow w.heap.size 3 1 (.slice (some ⟨gg, 0, none⟩) (q + 1 + 1) capg) (q + 1 + 1) (((bytesI s).take (q + 1 + 1)).map (Value.int .i64)) ∧ Below w.heap.size w w2 from ⟨by rw [unhide HT, List.map_append]; exact hown2, ((unhide B1).alloc hz1' _).grown hgrow2 (by simp; omega) (fun r hr => ((unhide O1).lt r hr).1)⟩)
            clear hown2 hgrow2 hat2 hlt2
            go_roundw
            case rel => exact ⟨q + 1 + 1, by omega, by go_num, unhide HA2, (unhide R).1, (unhide R).2⟩
            case measure => simp [intOf]; omega
          · have HF := hide (unhide HNO (fun hx => by
              rcases hx.2 with h0 | h0
              · omega
              · rw [Nat.add_sub_cancel] at h0; exact hlt3 h0))
            have hge : bAt s (q + 1) ≤ bAt s q := by omega
            have HB := hide hbel
            clear hown hbel HNO HT
            generalize bAt s (q + 1) = x at *
            generalize bAt s q = y at *
            go_wp2_with fail
            go_quiet ((go_at_call 20; exact Calls.quiet_of_same (l01In_any _ _ _ _)))
            go_wp2_with fail
            go_ret2
            exact ⟨.slice (some ⟨wr.heap.size, 0, none⟩) 0 0, ret_two_b (by rw [unhide HF]), by rw [unhide HF]; exact OwnI.empty _ _ _ rfl (unhide HB).size, (below_drewN (unhide HB) nq).alloc (unhide HB).size _⟩
      · have HF := hide (unhide HNO (fun hx => by rw [hx.1] at hin; cases hin))
        have HB := hide hbel
        clear hown hbel HNO HT
        generalize bAt s k = x at *
        go_wp2_with fail
        go_quiet ((go_at_call 20; exact Calls.quiet_of_same (l01In_any _ _ _ _)))
        go_wp2_with fail
        go_ret2
        exact ⟨.slice (some ⟨wr.heap.size, 0, none⟩) 0 0, ret_two_b (by rw [unhide HF]), by rw [unhide HF]; exact OwnI.empty _ _ _ rfl (unhide HB).size, (below_drewN (unhide HB) nq).alloc (unhide HB).size _⟩
    · obtain rfl : k = s.size := by omega
      have HF := hide (show memOut s = (bytesI s, decide (0 < s.size)) by
        unfold memOut
        rw [if_pos ⟨fun i hi => by rw [bytesI_bAt]; exact (unhide hA i (by rw [unhide HBL] at hi; exact hi)).1, fun i hi => by rw [bytesI_bAt, bytesI_bAt]; exact (unhide hA i (by rw [unhide HBL] at hi; exact hi)).2⟩])
      have hO : OwnI w.heap.size wr u4 (bytesI s) := by
        unfold OwnI
        rw [unhide HBL]
        have e : (bytesI s).take s.size = bytesI s := by rw [← unhide HBL, List.take_length]
        rw [e] at hown
        exact hown
      have R := hide (And.intro hO hbel)
      rcases hown.2 with ⟨rfl, h0⟩ | ⟨g, cp, cur, rfl, _⟩
      · have h00 : ((s.size : Nat) : Int) = 0 := by omega
        have HS := hide h0
        clear hO hbel hown h0
        go_wp2_with fail
        go_ret2
        exact ⟨_, ret_two_b (by rw [unhide HF]; simp [unhide HS]), by rw [unhide HF]; exact (unhide R).1, (unhide R).2⟩
      · clear hO hbel hown
        go_wp2_with fail
        go_ret2
        exact ⟨_, ret_two_b (by rw [unhide HF]), by rw [unhide HF]; exact (unhide R).1, (unhide R).2⟩
end Go.Proofs.Ytglkgmijcefjkaa
