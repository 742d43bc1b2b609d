/- What the proof of the claim needs (joined by program): Mem MemR Ent StO AnK StrR. -/
import Derived.Test.YtbchnheinnileaaGreatDoorQca01
import Derived.Test.YtbchnheinnileaaGreatDoorQca04
import Derived.Test.YtbchnheinnileaaGreatDoorQca20
import Derived.Test.YtbchnheinnileaaGreatDoorQca18
import Derived.Test.YtbchnheinnileaaGreatDoorQca19
import Derived.Deep.QuietTactic
import Derived.BigQuiet
import Derived.Deep.RegionHeld3
import Derived.Laws.IdiomStrings
namespace Go.Proofs.YtbchnheinnileaaGreatDoor
set_option maxRecDepth 100000
set_option maxHeartbeats 8000000
open Go.ChangeShapes Go.WideShapes Go.ChangeAt Go.RowKit
set_option linter.unusedVariables false
abbrev InAll (l : List Int) : Prop := ∀ i, i < l.length → inB (l.getD i 0) 0 6 = true
abbrev Rising (l : List Int) : Prop := ∀ i, i < l.length → i = 0 ∨ l.getD (i - 1) 0 < l.getD i 0
def mFault (l : List Int) : Int := if InAll l then (if l.length = 0 then 1 else if Rising l then 0 else 1) else 4

theorem membersFault_any (v : Value) (l : List Int) (w : World) (h : Ints w v l) (hs : l.length ≤ 1048576) :
  Calls Tryz.prog 46 #[v] w fun e w' => e = .returned (.int .i64 (mFault l)) ∧ ∃ n, w' = w.drewN n := by
 obtain ⟨a, cap, rfl, hm, hc⟩ := h
 have HC := Hd hc
 clear hc hm
 go_enter Tryz.func46, Tryz.ntmps46
 go_wp2_with fail
 go_loop [4, 8] (fun _ i => ∃ k : Nat, k ≤ l.length ∧ i = .int .i64 k ∧ Hid (∀ i, i < k → inB (l.getD i 0) 0 6 = true)) (fun _ i => l.length - (intOf i).toNat)
 case atStart => exact ⟨0, Nat.zero_le _, rfl, fun i hi => absurd hi (Nat.not_lt_zero _)⟩
 case round =>
  obtain ⟨k, hk, rfl, hA⟩ := hrel
  by_cases hlt : k < l.length
  ·obtain ⟨b, off, rfl, hbl, hsrc⟩ : ∃ b off, a = some ⟨b, off, none⟩ ∧ b < w.heap.size ∧ ∀ i, i < l.length → w.cell? ⟨b, off + i, none⟩ = some (.int .i64 (l.getD i 0)) := by
    rcases uh HC with h0 | h1
    ·omega
    ·exact h1
   have hs1 := hsrc k hlt
   have hk0 : (0 : Int) ≤ (k : Int) := by omega
   have hk1 : (k : Int) < (l.length : Int) := by omega
   have HX : Hid (l.getD k 0 = l.getD k 0) := rfl
   clear hsrc
   rcases Bool.eq_false_or_eq_true (inB (l.getD k 0) 0 6) with hin | hin
   ·have HA := Hd (show ∀ i, i < k + 1 → inB (l.getD i 0) 0 6 = true from fun i hi => by
     by_cases e : i = k
     ·subst e; exact hin
     ·exact uh hA i (by omega))
    generalize l.getD k 0 = x at *
    go_wp2_with fail
    refine (within_any _ _ _ _).mono ?_
    rintro e w' ⟨rfl, rfl⟩
    go_wp2_with fail
    go_round
    case rel => exact ⟨k + 1, by omega, by go_num, uh HA⟩
    case measure => simp [intOf]; omega
   ·have HF := Hd (show mFault l = 4 by unfold mFault; rw [if_neg (fun hx => by rw [hx k hlt] at hin; cases hin)])
    generalize l.getD k 0 = x at *
    go_wp2_with fail
    refine (within_any _ _ _ _).mono ?_
    rintro e w' ⟨rfl, rfl⟩
    go_wp2_with fail
    go_ret
    exact ⟨ret_int (uh HF).symm, 0, rfl⟩
  ·obtain rfl : k = l.length := by omega
   have hin : InAll l := uh hA
   by_cases hl0 : l.length = 0
   ·have HF := Hd (show mFault l = 1 by unfold mFault; rw [if_pos hin, if_pos hl0])
    have hb0 : ((l.length : Int) == 0) = true := by rw [hl0]; rfl
    clear hin
    go_wp2_with fail
    go_ret
    exact ⟨ret_int (uh HF).symm, 0, rfl⟩
   ·have hb0 : ((l.length : Int) == 0) = false := by rw [beq_eq_false_iff_ne]; omega
    have HI := Hd hin
    have hl1 : 1 ≤ l.length := by omega
    clear hin hl0
    go_wp2_with fail
    go_loopw [5] (fun i wr => ∃ j n : Nat, 1 ≤ j ∧ j ≤ l.length ∧ i = .int .i64 j ∧ Hid (∀ i, i < j → i = 0 ∨ l.getD (i - 1) 0 < l.getD i 0) ∧ wr = w.drewN n) (fun i _ => l.length - (intOf i).toNat)
    case atStart => exact ⟨1, 0, Nat.le_refl _, hl1, rfl, fun i hi => .inl (by omega), rfl⟩
    case round =>
     obtain ⟨j, n, hj1, hj, rfl, hR, rfl⟩ := hrel
     by_cases hlt2 : j < l.length
     ·obtain ⟨b, off, rfl, hbl, hsrc⟩ : ∃ b off, a = some ⟨b, off, none⟩ ∧ b < w.heap.size ∧ ∀ i, i < l.length → w.cell? ⟨b, off + i, none⟩ = some (.int .i64 (l.getD i 0)) := by
       rcases uh HC with h0 | h1
       ·omega
       ·exact h1
      obtain ⟨q, rfl⟩ : ∃ q, j = q + 1 := ⟨j - 1, by omega⟩
      have hs1 : w.cell? ⟨b, off + (q + 1), none⟩ = _ := hsrc (q + 1) hlt2
      have hs2 : w.cell? ⟨b, off + q, none⟩ = _ := hsrc q (by omega)
      have hk0 : (0 : Int) ≤ ((q + 1 : Nat) : Int) := by omega
      have hk1 : ((q + 1 : Nat) : Int) < (l.length : Int) := by omega
      have hk2 : (0 : Int) ≤ (q : Int) := by omega
      have hk3 : (q : Int) < (l.length : Int) := by omega
      have m1 : IntKind.i64.wrap (((q + 1 : Nat) : Int) - 1) = (q : Int) := by simp only [IntKind.wrap, IntKind.bits, IntKind.signed]; simp; omega
      have m2 : IntKind.i64.wrap (q : Int) = (q : Int) := by simp only [IntKind.wrap, IntKind.bits, IntKind.signed]; simp; omega
      clear hsrc
      by_cases hle : l.getD (q + 1) 0 ≤ l.getD q 0
      ·have HF := Hd (show mFault l = 1 by
        unfold mFault
        rw [if_pos (uh HI), if_neg (by omega), if_neg (fun hx => by
         rcases hx (q + 1) hlt2 with h0 | h0
         ·omega
         ·rw [Nat.add_sub_cancel] at h0; omega)])
       generalize l.getD (q + 1) 0 = x at *
       generalize l.getD q 0 = y at *
       go_wp2_with fail
       go_quiet (fail)
       go_wp2_with fail
       go_ret
       exact ⟨ret_int (uh HF).symm, n + nq, drewN_two _ _ _⟩
      ·have HR := Hd (show ∀ i, i < q + 1 + 1 → i = 0 ∨ l.getD (i - 1) 0 < l.getD i 0 from fun i hi => by
        by_cases e : i = q + 1
        ·subst e; right; rw [Nat.add_sub_cancel]; omega
        ·exact uh hR i (by omega))
       have hlt3 : l.getD q 0 < l.getD (q + 1) 0 := by omega
       have hd : decide (l.getD (q + 1) 0 ≤ l.getD q 0) = false := by simpa using hle
       generalize l.getD (q + 1) 0 = x at *
       generalize l.getD q 0 = y at *
       go_wp2_with fail
       go_quiet (fail)
       go_wp2_with fail
       refine ⟨⟨q + 1 + 1, n + nq, by omega, by omega, by go_num, uh HR, rfl⟩, ?_⟩
       simp [intOf]; omega
     ·have HF := Hd (show mFault l = 0 by
       unfold mFault
       rw [if_pos (uh HI), if_neg (by omega), if_pos (fun i hi => uh hR i (by omega))])
      go_wp2_with fail
      go_ret
      exact ⟨ret_int (uh HF).symm, n, rfl⟩

abbrev MemB (s : ByteArray) : Prop := InAll (bytesI s) ∧ Rising (bytesI s)
def memOut (s : ByteArray) : List Int × Bool := if MemB s then (bytesI s, decide (0 < s.size)) else ([], false)
theorem l02Members_any (s : ByteArray) (w : World) (hs : s.size ≤ 1048576) :
  Calls Tryz.prog 76 #[.string s] w fun e w' => ∃ v', e = .returned (.tuple #[v', .bool (memOut s).2]) ∧ OwnI w.heap.size w' v' (memOut s).1 ∧ Below w.heap.size w w' := by
 obtain ⟨i0, hi, hz0, hz1, hz2⟩ := info_parts info3
 have hbl := bytesI_len s
 have HBL := Hd hbl
 clear hbl
 go_enter Tryz.func76, Tryz.ntmps76
 go_wp2_with fail
 go_loopw [4, 5] (fun v i wr => ∃ k : Nat, k ≤ s.size ∧ i = .int .i64 k ∧ Hid (∀ i, i < k → inB (bAt s i) 0 6 = true ∧ (i = 0 ∨ bAt s (i - 1) < bAt s i)) ∧ wr.ownsRow w.heap.size 3 1 v k (((bytesI s).take k).map (Value.int .i64)) ∧ Below w.heap.size w wr) (fun _ i _ => s.size - (intOf i).toNat)
 case atStart =>
  refine ⟨0, Nat.zero_le _, rfl, fun i hi => absurd hi (Nat.not_lt_zero _), ?_, (Below.refl _ _).alloc (Nat.le_refl _) _⟩
  exact World.ownsRow_made w #[] 0 (Nat.le_refl _) (by unfold maxLen; omega) rfl
 case round =>
  obtain ⟨k, hk, rfl, hA, hown, hbel⟩ := hrel
  by_cases hlt : k < s.size
  ·have e1 := bAt_eq s k hlt
   have hb0 := bAt_lo s k
   have hb1 := bAt_hi s k
   have hk0 : (0 : Int) ≤ (k : Int) := by omega
   have hk1 : (k : Int) < (s.size : Int) := by omega
   have m0 : IntKind.i64.wrap (bAt s k) = bAt s k := by simp only [IntKind.wrap, IntKind.bits, IntKind.signed]; simp; omega
   have hno : ∀ (hx : ¬ (inB (bAt s k) 0 6 = true ∧ (k = 0 ∨ bAt s (k - 1) < bAt s k))), memOut s = ([], false) := fun hx => by
    unfold memOut
    rw [if_neg (fun hy => hx ⟨by have := hy.1 k (by rw [uh HBL]; exact hlt); rwa [bytesI_bAt] at this, by
     rcases hy.2 k (by rw [uh HBL]; exact hlt) with h0 | h0
     ·exact .inl h0
     ·right; rwa [bytesI_bAt, bytesI_bAt] at h0⟩)]
   have HNO := Hd hno
   have HT := Hd (bytesI_take s k hlt)
   clear hno
   rcases Bool.eq_false_or_eq_true (inB (bAt s k) 0 6) with hin | hin
   ·by_cases hz : k = 0
    ·have HA2 := Hd (show ∀ i, i < k + 1 → inB (bAt s i) 0 6 = true ∧ (i = 0 ∨ bAt s (i - 1) < bAt s i) from fun i hi => by
      obtain rfl : i = k := by omega
      exact ⟨hin, .inl hz⟩)
     have hk2 : ¬ ((0 : Int) < (k : Int)) := by omega
     have hd : decide ((0 : Int) < (k : Int)) = false := by simpa using hk2
     have hd2 : decide (0 < k) = false := by simp; omega
     have HO := Hd hown
     have HB := Hd hbel
     have HZ := Hd hz
     clear hown hbel HNO hz
     generalize bAt s k = x at *
     go_wp2_with fail
     go_quiet ((go_at_call 37; exact Calls.quiet_of_same (l01In_any _ _ _ _)))
     have hO1 : (wr.drewN nq).ownsRow w.heap.size 3 1 u4 k (((bytesI s).take k).map (Value.int .i64)) := uh HO
     have hB1 : Below w.heap.size w (wr.drewN nq) := below_drewN (uh HB) nq
     have hz1' := hB1.size
     have O1 := Hd hO1
     have B1 := Hd hB1
     clear hO1 hB1 HO HB
     generalize wr.drewN nq = w1 at *
     go_wp2_with (at_builtin; refine wpList_append_lies _ rfl _ _ _ rfl w.heap.size 3 i0 _ 1 8 Tryz.underlying23 hi hz0 hz1 hz2 rfl (by omega) u4 k _ rfl ((uh O1).alloc _) ⟨w1.heap.size, 0, none⟩ 1 1 [_] rfl rfl (World.news_of_block (cs := #[_]) (t := 3) (fr := (0, 0)) (heap_alloc_new w1 _)) (by simp [Value.oneCell']) (by omega) (by unfold maxLen; omega) (by omega) (by simp; omega) _ rfl ?_; intro gg capg w2 hown2 hgrow2 hat2 hlt2)
     have R := Hd (show w2.ownsRow w.heap.size 3 1 (.slice (some ⟨gg, 0, none⟩) (k + 1) capg) (k + 1) (((bytesI s).take (k + 1)).map (Value.int .i64)) ∧ Below w.heap.size w w2 from ⟨by rw [uh HT, List.map_append]; exact hown2, ((uh B1).alloc hz1' _).grown hgrow2 (by simp; omega) (fun r hr => ((uh O1).lt r hr).1)⟩)
     clear hown2 hgrow2 hat2 hlt2
     go_roundw
     case rel => exact ⟨k + 1, by omega, by go_num, uh HA2, (uh R).1, (uh R).2⟩
     case measure => simp [intOf]; omega
    ·obtain ⟨q, rfl⟩ : ∃ q, k = q + 1 := ⟨k - 1, by omega⟩
     have e2 := bAt_eq s q (by omega)
     have hc0 := bAt_lo s q
     have hc1 := bAt_hi s q
     have hk2 : (0 : Int) < ((q + 1 : Nat) : Int) := by omega
     have hq0 : (0 : Int) ≤ (q : Int) := by omega
     have hq1 : (q : Int) < (s.size : Int) := by omega
     have m1 : IntKind.i64.wrap (((q + 1 : Nat) : Int) - 1) = (q : Int) := by simp only [IntKind.wrap, IntKind.bits, IntKind.signed]; simp; omega
     have m2 : IntKind.i64.wrap (q : Int) = (q : Int) := by simp only [IntKind.wrap, IntKind.bits, IntKind.signed]; simp; omega
     by_cases hlt3 : bAt s q < bAt s (q + 1)
     ·have HA2 := Hd (show ∀ i, i < q + 1 + 1 → inB (bAt s i) 0 6 = true ∧ (i = 0 ∨ bAt s (i - 1) < bAt s i) from fun i hi => by
       by_cases e : i = q + 1
       ·subst e; exact ⟨hin, .inr (by rw [Nat.add_sub_cancel]; exact hlt3)⟩
       ·exact uh hA i (by omega))
      have hd : decide (bAt s (q + 1) ≤ bAt s q) = false := by simp; omega
      have HO := Hd hown
      have HB := Hd hbel
      clear hown hbel HNO hz
      generalize bAt s (q + 1) = x at *
      generalize bAt s q = y at *
      go_wp2_with fail
      go_quiet ((go_at_call 37; exact Calls.quiet_of_same (l01In_any _ _ _ _)))
      have hO1 : (wr.drewN nq).ownsRow w.heap.size 3 1 u4 (q + 1) (((bytesI s).take (q + 1)).map (Value.int .i64)) := uh HO
      have hB1 : Below w.heap.size w (wr.drewN nq) := below_drewN (uh HB) nq
      have hz1' := hB1.size
      have O1 := Hd hO1
      have B1 := Hd hB1
      clear hO1 hB1 HO HB
      generalize wr.drewN nq = w1 at *
      go_wp2_with (at_builtin; refine wpList_append_lies _ rfl _ _ _ rfl w.heap.size 3 i0 _ 1 8 Tryz.underlying23 hi hz0 hz1 hz2 rfl (by omega) u4 (q + 1) _ rfl ((uh O1).alloc _) ⟨w1.heap.size, 0, none⟩ 1 1 [_] rfl rfl (World.news_of_block (cs := #[_]) (t := 3) (fr := (0, 0)) (heap_alloc_new w1 _)) (by simp [Value.oneCell']) (by omega) (by unfold maxLen; omega) (by omega) (by simp; omega) _ rfl ?_; intro gg capg w2 hown2 hgrow2 hat2 hlt2)
      have R := Hd (show w2.ownsRow w.heap.size 3 1 (.slice (some ⟨gg, 0, none⟩) (q + 1 + 1) capg) (q + 1 + 1) (((bytesI s).take (q + 1 + 1)).map (Value.int .i64)) ∧ Below w.heap.size w w2 from ⟨by rw [uh HT, List.map_append]; exact hown2, ((uh B1).alloc hz1' _).grown hgrow2 (by simp; omega) (fun r hr => ((uh O1).lt r hr).1)⟩)
      clear hown2 hgrow2 hat2 hlt2
      go_roundw
      case rel => exact ⟨q + 1 + 1, by omega, by go_num, uh HA2, (uh R).1, (uh R).2⟩
      case measure => simp [intOf]; omega
     ·have HF := Hd (uh HNO (fun hx => by
       rcases hx.2 with h0 | h0
       ·omega
       ·rw [Nat.add_sub_cancel] at h0; exact hlt3 h0))
      have hge : bAt s (q + 1) ≤ bAt s q := by omega
      have HB := Hd hbel
      clear hown hbel HNO HT
      generalize bAt s (q + 1) = x at *
      generalize bAt s q = y at *
      go_wp2_with fail
      go_quiet ((go_at_call 37; exact Calls.quiet_of_same (l01In_any _ _ _ _)))
      go_wp2_with fail
      go_ret2
      exact ⟨.slice (some ⟨wr.heap.size, 0, none⟩) 0 0, ret_two_b (by rw [uh HF]), by rw [uh HF]; exact OwnI.empty _ _ _ rfl (uh HB).size, (below_drewN (uh HB) nq).alloc (uh HB).size _⟩
   ·have HF := Hd (uh HNO (fun hx => by rw [hx.1] at hin; cases hin))
    have HB := Hd hbel
    clear hown hbel HNO HT
    generalize bAt s k = x at *
    go_wp2_with fail
    go_quiet ((go_at_call 37; exact Calls.quiet_of_same (l01In_any _ _ _ _)))
    go_wp2_with fail
    go_ret2
    exact ⟨.slice (some ⟨wr.heap.size, 0, none⟩) 0 0, ret_two_b (by rw [uh HF]), by rw [uh HF]; exact OwnI.empty _ _ _ rfl (uh HB).size, (below_drewN (uh HB) nq).alloc (uh HB).size _⟩
  ·obtain rfl : k = s.size := by omega
   have HF := Hd (show memOut s = (bytesI s, decide (0 < s.size)) by
    unfold memOut
    rw [if_pos ⟨fun i hi => by rw [bytesI_bAt]; exact (uh hA i (by rw [uh HBL] at hi; exact hi)).1, fun i hi => by rw [bytesI_bAt, bytesI_bAt]; exact (uh hA i (by rw [uh HBL] at hi; exact hi)).2⟩])
   have hO : OwnI w.heap.size wr u4 (bytesI s) := by
    unfold OwnI
    rw [uh HBL]
    have e : (bytesI s).take s.size = bytesI s := by rw [← uh HBL, List.take_length]
    rw [e] at hown
    exact hown
   have R := Hd (And.intro hO hbel)
   rcases hown.2 with ⟨rfl, h0⟩ | ⟨g, cp, cur, rfl, _⟩
   ·have h00 : ((s.size : Nat) : Int) = 0 := by omega
    have HS := Hd h0
    clear hO hbel hown h0
    go_wp2_with fail
    go_ret2
    exact ⟨_, ret_two_b (by rw [uh HF]; simp [uh HS]), by rw [uh HF]; exact (uh R).1, (uh R).2⟩
   ·clear hO hbel hown
    go_wp2_with fail
    go_ret2
    exact ⟨_, ret_two_b (by rw [uh HF]), by rw [uh HF]; exact (uh R).1, (uh R).2⟩
def memRead (s : ByteArray) : List Int × Int := if 65536 < s.size then ([], 2) else if mFault (bytesI s) = 0 then (bytesI s, 0) else ([], 3)
theorem memOut_fault (s : ByteArray) : (memOut s).2 = decide (mFault (bytesI s) = 0) ∧ ((memOut s).2 = true → (memOut s).1 = bytesI s) := by
 unfold memOut mFault
 by_cases h1 : InAll (bytesI s)
 ·by_cases h2 : Rising (bytesI s)
  ·rw [if_pos ⟨h1, h2⟩, if_pos h1]
   by_cases h3 : s.size = 0
   ·rw [if_pos (by rw [bytesI_len]; exact h3)]; simp [h3]
   ·rw [if_neg (by rw [bytesI_len]; exact h3), if_pos h2]; simp; omega
  ·rw [if_neg (fun h => h2 h.2), if_pos h1]
   by_cases h3 : (bytesI s).length = 0
   ·rw [if_pos h3]; simp
   ·rw [if_neg h3, if_neg h2]; simp
 ·rw [if_neg (fun h => h1 h.1), if_neg h1]; simp

def copiedI (s : ByteArray) (k j : Nat) : Int := if j < k then bAt s j else 0
theorem implReadMembers_any (s : ByteArray) (w : World) (hs : s.size ≤ maxLen) :
  Calls Tryz.prog 85 #[.string s] w fun e w' => ∃ v', e = .returned (.tuple #[v', .int .i64 (memRead s).2]) ∧ OwnI w.heap.size w' v' (memRead s).1 ∧ Below w.heap.size w w' := by
 unfold maxLen at hs
 obtain ⟨i0, hi, hz0, hz1, hz2⟩ := info_parts info3
 by_cases hl : 65536 < s.size
 ·have E := Hd (show memRead s = ([], 2) by simp [memRead, hl])
  go_enter Tryz.func85, Tryz.ntmps85
  go_wp2_with fail
  go_ret2
  exact ⟨.slice none 0 0, ret_two (by rw [uh E]), by rw [uh E]; exact World.ownsRow_nil _ _ _ _, Below.refl _ _⟩
 ·go_enter Tryz.func85, Tryz.ntmps85
  go_wp2_with (at_make; refine wpList_make_full _ rfl _ _ 23 rfl w.heap.size 3 i0 _ 1 Tryz.underlying23 hi hz0 hz1 .i64 .i64 _ _ s.size rfl rfl rfl rfl (by rw [hz2]; omega) (by unfold maxLen; omega) (Nat.le_refl _) ?_; intro w1 hown1 hg1)
  have hz : LaidI w1 w.heap.size s.size (copiedI s 0) s.size := by
   obtain ⟨hl1, hc1⟩ := hown1
   rcases hc1 with ⟨hv, _⟩ | ⟨g', cap', cur, hv, hb, hg, hn, hm, hs1, ht⟩
   ·cases hv
   ·cases hv
    refine ⟨cur, hg, by simpa using hs1, hn, fun j hj => ?_⟩
    have e := congrArg (fun z : List Value => z[j]?) ht
    have e3 : (Value.int IntKind.i64 0).cells = #[Value.int IntKind.i64 0] := rfl
    rw [e3, Nat.mul_one, toList_madeCells_one] at e
    simp only [List.getElem?_take, if_pos hj, Array.getElem?_toList] at e
    rw [e]; simp [hj, copiedI]
  have HZ := Hd (And.intro hz ((Below.refl w.heap.size w).grown hg1 (Nat.le_refl _) (fun k h => by cases h)))
  clear hown1 hg1 hz
  go_loopw [5, 14] (fun _ i wr => ∃ k : Nat, k ≤ s.size ∧ i = .int .i64 k ∧ LaidI wr w.heap.size s.size (copiedI s k) s.size ∧ Below w.heap.size w wr) (fun _ i _ => s.size - (intOf i).toNat)
  case atStart => exact ⟨0, Nat.zero_le _, rfl, (uh HZ).1, (uh HZ).2⟩
  case round =>
   obtain ⟨k, hk, rfl, hL, hbel⟩ := hrel
   by_cases hlt : k < s.size
   ·have e1 := bAt_eq s k hlt
    have hb0 := bAt_lo s k
    have hb1 := bAt_hi s k
    have hk0 : (0 : Int) ≤ (k : Int) := by omega
    have hk1 : (k : Int) < (s.size : Int) := by omega
    have m0 : IntKind.i64.wrap (bAt s k) = bAt s k := by simp only [IntKind.wrap, IntKind.bits, IntKind.signed]; simp; omega
    obtain ⟨d1, d2⟩ := hL.cell k hlt
    have R := Hd (And.intro (hL.set (f' := copiedI s (k + 1)) k (bAt s k) hlt (by unfold copiedI; rw [if_pos (by omega)]) (fun j hj => by
     unfold copiedI
     by_cases h1 : j < k
     ·rw [if_pos h1, if_pos (by omega)]
     ·rw [if_neg h1, if_neg (by omega)])) (hbel.setCell (p := ⟨w.heap.size, k, none⟩) (Nat.le_refl _) (.int .i64 (bAt s k))))
    clear hL hbel
    generalize bAt s k = x at *
    go_wp2_with fail
    refine ⟨⟨k + 1, by omega, by go_num, (uh R).1, (uh R).2⟩, ?_⟩
    simp [intOf]; omega
   ·obtain rfl : k = s.size := by omega
    have hbl := bytesI_len s
    have hO : OwnI w.heap.size wr (.slice (some ⟨w.heap.size, 0, none⟩) s.size s.size) (bytesI s) := by
     have h1 := LaidI.own (B := w.heap.size) (l := bytesI s) (f := copiedI s s.size) (cap := s.size) (w := wr) (g := w.heap.size) (by rw [hbl]; exact hL) (fun j hj => by rw [hbl] at hj; unfold copiedI; rw [if_pos hj, bytesI_bAt]) (Nat.le_refl _) (by unfold maxLen; omega)
     rw [hbl] at h1; exact h1
    have HI := Hd hO.ints
    have R := Hd (And.intro hO hbel)
    have HBL := Hd hbl
    clear hL hbel hO hbl
    go_wp2_with fail
    refine (membersFault_any _ (bytesI s) _ (uh HI) (by rw [uh HBL]; omega)).mono ?_
    rintro e w2 ⟨rfl, n, rfl⟩
    by_cases hf : mFault (bytesI s) = 0
    ·have E := Hd (show memRead s = (bytesI s, 0) by simp [memRead, hl, hf])
     rw [hf]
     clear hf
     go_wp2_with fail
     go_ret2
     exact ⟨_, ret_two (by rw [uh E]), by rw [uh E]; exact (uh R).1.drewN n, below_drewN (uh R).2 n⟩
    ·have E := Hd (show memRead s = ([], 3) by simp [memRead, hl, hf])
     have hne : (mFault (bytesI s) != 0) = true := by rw [bne_iff_ne]; exact hf
     generalize mFault (bytesI s) = x at *
     go_wp2_with fail
     go_ret2
     exact ⟨.slice none 0 0, ret_two (by rw [uh E]), by rw [uh E]; exact World.ownsRow_nil _ _ _ _, below_drewN (uh R).2 n⟩
theorem rising_ge {l : List Int} (h1 : InAll l) (h2 : Rising l) : ∀ i, i < l.length → (i : Int) ≤ l.getD i 0 := by
 intro i
 induction i with
 | zero => intro hi; have := inB_iff.1 (h1 0 hi); simpa using this.1
 | succ i ih =>
  intro hi
  have h := ih (by omega)
  rcases h2 (i + 1) hi with h0 | h0
  ·omega
  ·rw [Nat.add_sub_cancel] at h0; omega
theorem mFault_small {l : List Int} (h : mFault l = 0) : l.length ≤ 7 := by
 unfold mFault at h
 split at h
 ·rename_i h1
  split at h
  ·omega
  ·split at h
   ·rename_i h0 h2
    have h3 := rising_ge h1 h2 (l.length - 1) (by omega)
    have h4 := inB_iff.1 (h1 (l.length - 1) (by omega))
    omega
   ·omega
 ·omega
theorem memRead_code (d : ByteArray) : (memRead d).2 = 0 ↔ mFault (bytesI d) = 0 := by
 unfold memRead
 by_cases h : 65536 < d.size
 ·rw [if_pos h]
  constructor
  ·intro h1; simp at h1
  ·intro h1; have := mFault_small h1; rw [bytesI_len] at this; omega
 ·rw [if_neg h]
  by_cases h1 : mFault (bytesI d) = 0
  ·rw [if_pos h1]; simp [h1]
  ·rw [if_neg h1]; simp [h1]
def entOK (t k : Int) (d : ByteArray) : Bool :=
 if inB t 1 1000000 then (if k = 0 then emptyB d else if k = 1 then inB d.size 1 100 else if k = 2 then decide (mFault (bytesI d) = 0) else false) else false
theorem entOK_bounds {t k : Int} {d : ByteArray} (h : entOK t k d = true) : 1 ≤ t ∧ t ≤ 1000000 ∧ 0 ≤ k ∧ k ≤ 2 ∧ d.size ≤ 100 := by
 unfold entOK at h
 split at h
 ·rename_i h1
  rw [inB_iff] at h1
  have : 0 ≤ k ∧ k ≤ 2 ∧ d.size ≤ 100 := by
   split at h
   ·rw [emptyB_iff] at h; omega
   ·split at h
    ·rw [inB_iff] at h; omega
    ·split at h
     ·have h2 := mFault_small (of_decide_eq_true h); rw [bytesI_len] at h2; omega
     ·cases h
  omega
 ·cases h
theorem implEntryOK_any (t k : Int) (d : ByteArray) (w : World) (hd : d.size ≤ maxLen) :
  Calls Tryz.prog 66 #[.agg #[.int .i64 t, .int .i64 k, .string d]] w fun e w' => e = .returned (.bool (entOK t k d)) ∧ Below w.heap.size w w' := by
 have HD := Hd hd
 unfold maxLen at hd
 have H5 := Hd (fun o => (Below.refl w.heap.size w).alloc (Nat.le_refl _) o)
 rcases Bool.eq_false_or_eq_true (inB t 1 1000000) with h1 | h1
 case inr =>
  have H := Hd (show entOK t k d = false by simp [entOK, h1])
  go_enter Tryz.func66, Tryz.ntmps66
  go_wp2_with (go_at_call 44; refine (within_any _ _ _ _).mono ?_; rintro e w' ⟨rfl, rfl⟩)
  go_ret
  exact ⟨ret_bool (uh H).symm, uh H5 _⟩
 by_cases k0 : k = 0
 ·have H := Hd (show entOK t k d = d.toList.isEmpty by simp [entOK, h1, k0, emptyB])
  subst k0
  go_enter Tryz.func66, Tryz.ntmps66
  go_wp2_with (go_at_call 44; refine (within_any _ _ _ _).mono ?_; rintro e w' ⟨rfl, rfl⟩)
  go_ret
  exact ⟨ret_bool (uh H).symm, uh H5 _⟩
 by_cases k1 : k = 1
 ·have H := Hd (show entOK t k d = inB d.size 1 100 by simp [entOK, h1, k1])
  subst k1
  go_enter Tryz.func66, Tryz.ntmps66
  go_wp2_with (go_at_call 44; refine (within_any _ _ _ _).mono ?_; rintro e w' ⟨rfl, rfl⟩)
  go_ret
  exact ⟨ret_bool (uh H).symm, uh H5 _⟩
 by_cases k2 : k = 2
 ·have H := Hd (show entOK t k d = decide (mFault (bytesI d) = 0) by simp [entOK, h1, k2])
  subst k2
  go_enter Tryz.func66, Tryz.ntmps66
  go_wp2_with (go_at_call 44; refine (within_any _ _ _ _).mono ?_; rintro e w' ⟨rfl, rfl⟩)
  refine (implReadMembers_any d _ (uh HD)).mono ?_
  rintro e w1 ⟨v1, rfl, hO1, hb1⟩
  have B1 := Hd ((uh H5 (.cells #[.int .i64 t, .int .i64 2, .string d] 75)).trans (hb1.mono (by simp)))
  have HM := Hd (memRead_code d)
  clear hO1 hb1
  generalize (memRead d).2 = c at *
  by_cases hc : c = 0
  ·have hb : (c == 0) = true := by rw [hc]; rfl
   have HC := Hd hc
   clear hc
   go_wp2_with fail
   go_ret
   exact ⟨ret_bool (by rw [uh H]; have := (uh HM).1 (uh HC); simp [this]), uh B1⟩
  ·have hb : (c == 0) = false := by rw [beq_eq_false_iff_ne]; exact hc
   have HC := Hd hc
   clear hc
   go_wp2_with fail
   go_ret
   exact ⟨ret_bool (by rw [uh H]; exact (decide_eq_false (fun h => uh HC ((uh HM).2 h))).symm), uh B1⟩
 ·have H := Hd (show entOK t k d = false by simp [entOK, h1, k0, k1, k2])
  go_enter Tryz.func66, Tryz.ntmps66
  go_wp2_with (go_at_call 44; refine (within_any _ _ _ _).mono ?_; rintro e w' ⟨rfl, rfl⟩)
  go_ret
  exact ⟨ret_bool (uh H).symm, uh H5 _⟩
theorem specEntry_any (t k : Int) (d : ByteArray) (w : World) (hd : d.size ≤ maxLen) (hs : d.size ≤ 1048576) :
  Calls Tryz.prog 59 #[.agg #[.int .i64 t, .int .i64 k, .string d]] w fun e w' => e = .returned (.bool (entOK t k d)) ∧ Below w.heap.size w w' := by
 have HD := Hd hd
 unfold maxLen at hd
 have H5 := Hd (fun o => (Below.refl w.heap.size w).alloc (Nat.le_refl _) o)
 rcases Bool.eq_false_or_eq_true (inB t 1 1000000) with h1 | h1
 case inr =>
  have H := Hd (show entOK t k d = false by simp [entOK, h1])
  go_enter Tryz.func59, Tryz.ntmps59
  go_wp2_with (go_at_call 37; refine (l01In_any _ _ _ _).mono ?_; rintro e w' ⟨rfl, rfl⟩)
  go_ret
  exact ⟨ret_bool (uh H).symm, uh H5 _⟩
 by_cases k0 : k = 0
 ·have H := Hd (show entOK t k d = d.toList.isEmpty by simp [entOK, h1, k0, emptyB])
  subst k0
  go_enter Tryz.func59, Tryz.ntmps59
  go_wp2_with (go_at_call 37; refine (l01In_any _ _ _ _).mono ?_; rintro e w' ⟨rfl, rfl⟩)
  go_ret
  exact ⟨ret_bool (uh H).symm, uh H5 _⟩
 by_cases k1 : k = 1
 ·have H := Hd (show entOK t k d = inB d.size 1 100 by simp [entOK, h1, k1])
  subst k1
  go_enter Tryz.func59, Tryz.ntmps59
  by_cases h6 : 1 ≤ (d.size : Int)
  ·go_wp2_with (go_at_call 37; refine (l01In_any _ _ _ _).mono ?_; rintro e w' ⟨rfl, rfl⟩)
   go_ret
   exact ⟨ret_bool (by rw [uh H]; simp [inB, h6]), uh H5 _⟩
  ·have HF := Hd (show inB d.size 1 100 = false by simp [inB]; omega)
   go_wp2_with (go_at_call 37; refine (l01In_any _ _ _ _).mono ?_; rintro e w' ⟨rfl, rfl⟩)
   go_ret
   exact ⟨ret_bool (by rw [uh H, uh HF]), uh H5 _⟩
 by_cases k2 : k = 2
 ·have H := Hd (show entOK t k d = decide (mFault (bytesI d) = 0) by simp [entOK, h1, k2])
  subst k2
  go_enter Tryz.func59, Tryz.ntmps59
  go_wp2_with (go_at_call 37; refine (l01In_any _ _ _ _).mono ?_; rintro e w' ⟨rfl, rfl⟩)
  refine (l02Members_any d _ hs).mono ?_
  rintro e w1 ⟨v1, rfl, hO1, hb1⟩
  have B1 := Hd ((uh H5 (.cells #[.int .i64 t, .int .i64 2, .string d] 75)).trans (hb1.mono (by simp)))
  have HM := Hd (memOut_fault d).1
  clear hO1 hb1
  rw [uh HM]
  go_wp2_with fail
  go_ret
  exact ⟨ret_bool (uh H).symm, uh B1⟩
 ·have H := Hd (show entOK t k d = false by simp [entOK, h1, k0, k1, k2])
  go_enter Tryz.func59, Tryz.ntmps59
  go_wp2_with (go_at_call 37; refine (l01In_any _ _ _ _).mono ?_; rintro e w' ⟨rfl, rfl⟩)
  go_ret
  exact ⟨ret_bool (uh H).symm, uh H5 _⟩
def leastT (l : List En) : Nat → Int
 | 0 => 0
 | i + 1 => (l.getD i default).t
def entB (tm : Int) (l : List En) (i : Nat) : Bool := entOK (l.getD i default).t (l.getD i default).k (l.getD i default).d && inB (l.getD i default).t (leastT l i) tm
def entTo (tm : Int) (l : List En) (k : Nat) : Prop := ∀ i, i < k → entB tm l i = true
theorem entTo.next {tm : Int} {l : List En} {k : Nat} (h : entTo tm l k) (hk : entB tm l k = true) : entTo tm l (k + 1) := fun i hi => by
 by_cases e : i = k
 ·subst e; exact hk
 ·exact h i (by omega)
def stateB (tm vo : Int) (l : List En) : Bool := inB tm 0 1000000 && inB vo (-1) 6 && decide (l.length ≤ 60) && (List.range l.length).all (entB tm l)
theorem state_bad {tm vo : Int} {l : List En} {k : Nat} (hk : k < l.length) (h : entB tm l k = false) : stateB tm vo l = false := by
 have : (List.range l.length).all (entB tm l) = false := by
  rw [List.all_eq_false]; exact ⟨k, by simpa using hk, by simp [h]⟩
 unfold stateB; rw [this]; simp
theorem state_all {tm vo : Int} {l : List En} (h1 : inB tm 0 1000000 = true) (h2 : inB vo (-1) 6 = true) (h3 : l.length ≤ 60) (h : entTo tm l l.length) : stateB tm vo l = true := by
 have : (List.range l.length).all (entB tm l) = true := by
  rw [List.all_eq_true]; exact fun i hi => h i (by simpa using hi)
 unfold stateB; rw [this, h1, h2, decide_eq_true h3]; simp

theorem implStateOK_any (tm vo : Int) (v : Value) (l : List En) (w : World) (h : Ens w v l) (hs : ∀ i, (l.getD i default).d.size ≤ 1048576) :
  Calls Tryz.prog 45 #[.agg #[.int .i64 tm, .int .i64 vo, v]] w fun e w' => e = .returned (.bool (stateB tm vo l)) ∧ Below w.heap.size w w' := by
 obtain ⟨a, cap, rfl, hn, hm, hc⟩ := h
 have HC := Hd hc
 have HS := Hd hs
 clear hc hs
 have B0 := Hd (bal w (.cells #[.int .i64 tm, .int .i64 vo, .slice a l.length cap] 72))
 have X0 := Hd (Blk.new w #[.int .i64 tm, .int .i64 vo, .slice a l.length cap] 72 w.heap.size rfl)
 rcases Bool.eq_false_or_eq_true (inB tm 0 1000000) with h1 | h1
 case inr =>
  have HD : Hid (stateB tm vo l = false) := Hd (by unfold stateB; rw [h1]; simp)
  go_enter Tryz.func45, Tryz.ntmps45
  go_wp2_with (go_at_call 44; refine (within_any _ _ _ _).mono ?_; rintro e w' ⟨rfl, hw'⟩; have hw2 := hw'.symm; clear hw'; subst hw2)
  go_ret
  exact ⟨ret_bool (uh HD).symm, uh B0⟩
 rcases Bool.eq_false_or_eq_true (inB vo (-1) 6) with h2 | h2
 case inr =>
  have HD : Hid (stateB tm vo l = false) := Hd (by unfold stateB; rw [h2]; simp)
  go_enter Tryz.func45, Tryz.ntmps45
  go_wp2_with (go_at_call 44; refine (within_any _ _ _ _).mono ?_; rintro e w' ⟨rfl, hw'⟩; have hw2 := hw'.symm; clear hw'; subst hw2)
  go_ret
  exact ⟨ret_bool (uh HD).symm, uh B0⟩
 by_cases h3 : l.length ≤ 60
 case neg =>
  have HD : Hid (stateB tm vo l = false) := Hd (by unfold stateB; rw [decide_eq_false h3]; simp)
  have h3b : (60 : Int) < (l.length : Int) := by omega
  go_enter Tryz.func45, Tryz.ntmps45
  go_wp2_with (go_at_call 44; refine (within_any _ _ _ _).mono ?_; rintro e w' ⟨rfl, hw'⟩; have hw2 := hw'.symm; clear hw'; subst hw2)
  go_ret
  exact ⟨ret_bool (uh HD).symm, uh B0⟩
 have h3b : ¬ (60 : Int) < (l.length : Int) := by omega
 go_enter Tryz.func45, Tryz.ntmps45
 go_wp2_with (go_at_call 44; refine (within_any _ _ _ _).mono ?_; rintro e w' ⟨rfl, hw'⟩; have hw2 := hw'.symm; clear hw'; subst hw2)
 generalize w.alloc (.cells #[.int .i64 tm, .int .i64 vo, .slice a l.length cap] 72) = w0 at *
 have c0 := (uh X0).cell 0 rfl
 go_loopw [3, 25] (fun ls i wr => ∃ k : Nat, k ≤ l.length ∧ ls = .int .i64 (leastT l k) ∧ i = .int .i64 k ∧ entTo tm l k ∧ Below (w.heap.size + 1) w0 wr) (fun _ i _ => l.length - (intOf i).toNat)
 case atStart => exact ⟨0, Nat.zero_le _, rfl, rfl, fun i hi => by omega, Below.refl _ _⟩
 case round =>
  obtain ⟨k, hk, rfl, rfl, hgo, hb⟩ := hrel
  have hbw : Below w.heap.size w wr := (uh B0).trans (hb.mono (by omega))
  by_cases hlt : k < l.length
  ·obtain ⟨b, off, rfl, hbl, hsrc⟩ : ∃ b off, a = some ⟨b, off, none⟩ ∧ b < w.heap.size ∧ ∀ i, i < l.length → w.cell? ⟨b, off + i * 3, none⟩ = some (.int .i64 (l.getD i default).t) ∧ w.cell? ⟨b, off + i * 3 + 1, none⟩ = some (.int .i64 (l.getD i default).k) ∧ w.cell? ⟨b, off + i * 3 + 2, none⟩ = some (.string (l.getD i default).d) := by
    rcases uh HC with h0 | h1
    ·omega
    ·exact h1
   obtain ⟨s0, s1, s2⟩ := hsrc k hlt
   have e0 := (hbw.cell (p := ⟨b, off + k * 3, none⟩) hbl).trans s0
   have e1 := (hbw.cell (p := ⟨b, off + k * 3 + 1, none⟩) hbl).trans s1
   have e2 := (hbw.cell (p := ⟨b, off + k * 3 + 2, none⟩) hbl).trans s2
   have d0 := (hb.cell (p := ⟨w.heap.size, 0, none⟩) (by simp)).trans c0
   have hk0 : (0 : Int) ≤ (k : Int) := by omega
   have hk1 : (k : Int) < (l.length : Int) := by omega
   have hfz := uh HS k
   have hbs := hbw.size
   have hbs2 := hb.size
   have hz0 := (uh X0).1
   have HB := Hd hb
   have HGo := Hd hgo
   have HEB : Hid (entB tm l k = (entOK (l.getD k default).t (l.getD k default).k (l.getD k default).d && inB (l.getD k default).t (leastT l k) tm)) := Hd rfl
   have HLS : Hid (leastT l (k + 1) = (l.getD k default).t) := Hd rfl
   clear hsrc s0 s1 s2 hb hbw hgo
   generalize leastT l k = ls at *
   generalize l.getD k default = f at *
   obtain ⟨ft, fk, fd⟩ := f
   dsimp only at e0 e1 e2 hfz HEB HLS
   have hnm : fd.size ≤ maxLen := by unfold maxLen; omega
   have b0 := Hd (bal wr (.cells #[.int .i64 ft, .int .i64 fk, .string fd] 75))
   have y0 := Hd (Blk.new wr #[.int .i64 ft, .int .i64 fk, .string fd] 75 wr.heap.size rfl)
   go_wp2_with fail
   generalize wr.alloc (.cells #[.int .i64 ft, .int .i64 fk, .string fd] 75) = w1 at *
   have hbs3 := (uh b0).size
   refine (implEntryOK_any ft fk fd w1 hnm).mono ?_
   rintro e w2 ⟨rfl, hb2⟩
   have Y2 := (uh y0).below hb2
   have g0 := Y2.cell 0 rfl
   have g1 := (hb2.cell (p := ⟨w.heap.size, 0, none⟩) (by simp; omega)).trans (((uh b0).cell (p := ⟨w.heap.size, 0, none⟩) (by simp; omega)).trans d0)
   have HB2 := Hd ((uh HB).trans (((uh b0).trans (hb2.mono hbs3)).mono (by omega)))
   have HBW := Hd ((uh B0).trans ((uh HB2).mono (by omega)))
   clear hb2 Y2 d0 e0 e1 e2
   rcases Bool.eq_false_or_eq_true (entOK ft fk fd) with ho | ho
   case inr =>
    have HD := Hd (state_bad (tm := tm) (vo := vo) hlt (by rw [uh HEB, ho]; simp))
    rw [ho]
    go_wp2_with fail
    go_ret
    exact ⟨ret_bool (uh HD).symm, uh HBW⟩
   rw [ho]
   rcases Bool.eq_false_or_eq_true (inB ft ls tm) with hi | hi
   case inr =>
    have HD := Hd (state_bad (tm := tm) (vo := vo) hlt (by rw [uh HEB, hi]; simp))
    go_wp2_with (go_at_call 44; refine (within_any _ _ _ _).mono ?_; rintro e w' ⟨rfl, hw'⟩; have hw2 := hw'.symm; clear hw'; subst hw2)
    go_ret
    exact ⟨ret_bool (uh HD).symm, uh HBW⟩
   have HN := Hd ((uh HGo).next (by rw [uh HEB, ho, hi]; rfl))
   go_wp2_with (go_at_call 44; refine (within_any _ _ _ _).mono ?_; rintro e w' ⟨rfl, hw'⟩; have hw2 := hw'.symm; clear hw'; subst hw2)
   refine ⟨⟨k + 1, by omega, by rw [uh HLS], by go_num, uh HN, uh HB2⟩, ?_⟩
   simp [intOf]; omega
  ·obtain rfl : k = l.length := by omega
   have HD := Hd (state_all (vo := vo) h1 h2 h3 hgo)
   have HBW := Hd hbw
   clear hb hbw hgo
   go_wp2_with fail
   go_ret
   exact ⟨ret_bool (uh HD).symm, uh HBW⟩
end Go.Proofs.YtbchnheinnileaaGreatDoor
namespace Go.Proofs.YtbchnheinnileaaGreatDoor.Sha
set_option maxRecDepth 100000
set_option maxHeartbeats 8000000
open Go.ChangeShapes Go.WideShapes Go.ChangeAt Go.RowKit
set_option linter.unusedVariables false
set_option linter.unusedSimpArgs false
def tupC (c : Int × Int × Int × ByteArray × ByteArray) : Cm := ⟨c.1, c.2.1, c.2.2.1, c.2.2.2.1, c.2.2.2.2⟩
def cmE (e : En) : Option Cm := if e.k = 1 ∧ (cmdRead (bytesI e.d)).2 = 0 then some (tupC (cmdRead (bytesI e.d)).1) else none
def pushO (l : List Cm) : Option Cm → List Cm
 | none => l
 | some c => l ++ [c]
def cmL (lg : List En) : Nat → List Cm
 | 0 => []
 | k + 1 => pushO (cmL lg k) (cmE (lg.getD k default))
theorem cmL_len (lg : List En) : ∀ k, (cmL lg k).length ≤ k
 | 0 => Nat.le_refl 0
 | k + 1 => by
  have ih := cmL_len lg k
  show (pushO (cmL lg k) (cmE (lg.getD k default))).length ≤ k + 1
  cases cmE (lg.getD k default) with
  | none => exact Nat.le_succ_of_le ih
  | some c => simp only [pushO, List.length_append, List.length_singleton]; omega
theorem cmdRead_ok {l : List Int} (h : (cmdRead l).2 = 0) : cmK (tupC (cmdRead l).1) = true := by
 unfold cmdRead at h ⊢
 split at h
 ·cases h
 ·rename_i h1
  rw [if_neg h1]
  split at h
  ·rename_i h2
   rw [if_pos h2]
   rw [Bool.and_eq_true] at h2
   exact h2.2
  ·cases h
theorem l02_ok {l : List Int} (h : ¬ 65536 < l.length) : (doneP (cmdP (some l)).2 && cmdOK (cmdP (some l)).1.1 (cmdP (some l)).1.2.1 (cmdP (some l)).1.2.2.1 (cmdP (some l)).1.2.2.2.1 (cmdP (some l)).1.2.2.2.2) = decide ((cmdRead l).2 = 0) ∧ ((cmdRead l).2 = 0 → (cmdP (some l)).1 = (cmdRead l).1) := by
 unfold cmdRead
 rw [if_neg h]
 split
 ·rename_i h2
  rw [h2]
  exact ⟨by simp, fun _ => rfl⟩
 ·rename_i h2
  rw [Bool.not_eq_true] at h2
  rw [h2]
  exact ⟨by simp, fun e => by cases e⟩
theorem cmE_ok {e : En} {c : Cm} (h : cmE e = some c) : cmK c = true := by
 unfold cmE at h
 split at h
 ·rename_i h1
  cases h
  exact cmdRead_ok h1.2
 ·cases h
theorem cm_getD_app (l : List Cm) (c : Cm) {i : Nat} (h : i < l.length) : (l ++ [c]).getD i default = l.getD i default := by
 simp only [List.getD_eq_getElem?_getD]
 rw [List.getElem?_append_left h]
theorem cm_getD_last (l : List Cm) (c : Cm) : (l ++ [c]).getD l.length default = c := by
 simp [List.getD_eq_getElem?_getD]
theorem cmL_ok (lg : List En) : ∀ k i, i < (cmL lg k).length → cmK ((cmL lg k).getD i default) = true
 | 0, i, h => absurd h (Nat.not_lt_zero _)
 | k + 1, i, h => by
  have ih := cmL_ok lg k
  have e : cmL lg (k + 1) = pushO (cmL lg k) (cmE (lg.getD k default)) := rfl
  rw [e] at h ⊢
  cases hc : cmE (lg.getD k default) with
  | none => rw [hc] at h; exact ih i h
  | some c =>
   rw [hc] at h
   simp only [pushO, List.length_append, List.length_singleton] at h ⊢
   by_cases hi : i < (cmL lg k).length
   ·rw [cm_getD_app _ _ hi]; exact ih i hi
   ·obtain rfl : i = (cmL lg k).length := by omega
    rw [cm_getD_last]; exact cmE_ok hc
theorem stA_app (l : List Cm) (c : Cm) : ∀ k, k ≤ l.length → stA (l ++ [c]) k = stA l k
 | 0, _ => rfl
 | k + 1, h => by
  show (apOut (stA (l ++ [c]) k) ((l ++ [c]).getD k default)).1 = (apOut (stA l k) (l.getD k default)).1
  rw [stA_app l c k (by omega), cm_getD_app l c (by omega)]
def stN (lg : List En) (k : Nat) : Lst := stA (cmL lg k) (cmL lg k).length
theorem stN_none {lg : List En} {k : Nat} (h : cmE (lg.getD k default) = none) : stN lg (k + 1) = stN lg k := by
 unfold stN
 show stA (pushO (cmL lg k) (cmE (lg.getD k default))) (pushO (cmL lg k) (cmE (lg.getD k default))).length = _
 rw [h]; rfl
theorem stN_some {lg : List En} {k : Nat} {c : Cm} (h : cmE (lg.getD k default) = some c) : stN lg (k + 1) = (apOut (stN lg k) c).1 := by
 unfold stN
 show stA (pushO (cmL lg k) (cmE (lg.getD k default))) (pushO (cmL lg k) (cmE (lg.getD k default))).length = _
 rw [h]
 show stA (cmL lg k ++ [c]) (cmL lg k ++ [c]).length = _
 rw [List.length_append, List.length_singleton]
 show (apOut (stA (cmL lg k ++ [c]) (cmL lg k).length) ((cmL lg k ++ [c]).getD (cmL lg k).length default)).1 = _
 rw [stA_app _ _ _ (Nat.le_refl _), cm_getD_last]
theorem stN_ok (lg : List En) (k : Nat) : LOK (stN lg k) := stA_ok _ (fun i hi => cmL_ok lg k i hi)
theorem aaO_node (lg : List En) {k : Nat} (h : k ≤ 120) : aaO (cmL lg k) = (stN lg k, resA (cmL lg k) (cmL lg k).length, 0) :=
 aaO_good (by have := cmL_len lg k; omega) (fun i hi => cmL_ok lg k i hi)
end Go.Proofs.YtbchnheinnileaaGreatDoor.Sha
namespace Go.Proofs.YtbchnheinnileaaGreatDoor
set_option maxRecDepth 100000
set_option maxHeartbeats 8000000
open Go.ChangeShapes Go.WideShapes Go.ChangeAt Go.RowKit
set_option linter.unusedVariables false
theorem bytesI_lenR (s : ByteArray) : (bytesI s).length = s.size := by simp [bytesI]
theorem str_bytesR (s : ByteArray) (w : World) (hs : s.size ≤ maxLen) : ∃ cap w1, (convert 9 80 (.string s)).run Tryz.prog w = .ok (.slice (some ⟨w.heap.size, 0, none⟩) (bytesI s).length cap) w1 ∧ RdV w1 w1.heap.size (.slice (some ⟨w.heap.size, 0, none⟩) (bytesI s).length cap) (bytesI s) ∧ Below w.heap.size w w1 := by
 refine ⟨grownCap w s.size 0 5, _, by rw [run_bytes_of_string w 9 80 5 s Tryz.underlying9 Tryz.underlying80 Tryz.underlying5, bytesI_lenR], ?_, ?_⟩
 ·refine ⟨_, _, rfl, by rw [bytesI_lenR]; exact grownCap_ge _ _ _ _, grownCap_le_maxLen _ _ _ _ hs, .inr ⟨w.heap.size, 0, rfl, by simp, fun i hi => ?_⟩, bytesI_range s⟩
  rw [bytesI_lenR] at hi
  have hb : (w.drew.alloc (.cells (bytesRow s (grownCap w s.size 0 5)) 5 ((bytesRow s (grownCap w s.size 0 5)).size, (bytesRow s (grownCap w s.size 0 5)).size + 1))).heap[w.heap.size]? = some (.cells (bytesRow s (grownCap w s.size 0 5)) 5 ((bytesRow s (grownCap w s.size 0 5)).size, (bytesRow s (grownCap w s.size 0 5)).size + 1)) := heap_alloc_new w.drew _
  rw [Nat.zero_add, cell_of_row _ _ _ _ _ _ hb]
  have hi' : i < s.data.size := hi
  unfold bytesRow bytesI
  rw [Array.getElem?_append_left (by simpa using hi')]
  rw [Array.getElem?_map, Array.getElem?_eq_getElem hi', List.getD_eq_getElem?_getD, List.getElem?_map, Array.getElem?_toList, Array.getElem?_eq_getElem hi']
  rfl
 ·exact ((Below.refl _ _).drew).alloc (Nat.le_refl _) _
end Go.Proofs.YtbchnheinnileaaGreatDoor
