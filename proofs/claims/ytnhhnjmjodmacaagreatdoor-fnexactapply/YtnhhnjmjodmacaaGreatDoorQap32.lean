/- What the proof of the claim needs (joined by program): Hf MkH LeS. -/
import Derived.Test.YtnhhnjmjodmacaaGreatDoorQap03
import Derived.Test.YtnhhnjmjodmacaaGreatDoorQap00
import Derived.Test.YtnhhnjmjodmacaaGreatDoorQap31
import Derived.Test.YtnhhnjmjodmacaaGreatDoorQap14
import Derived.Deep.RegionHeld3
import Derived.Lib.BitFns
namespace Go.Proofs.YtnhhnjmjodmacaaGreatDoor
set_option maxRecDepth 100000
set_option maxHeartbeats 8000000
open Go.ChangeShapes Go.WideShapes Go.ChangeAt Go.RowKit
set_option linter.unusedVariables false
def hfC (s : ByteArray) : Int := if 65536 < s.size then 2 else if s.size = 32 then 0 else 1
theorem hashFault_any (s : ByteArray) (w : World) (hs : s.size ≤ maxLen) :
  Calls Tryz.prog 95 #[.string s] w fun e w' => e = .returned (.int .i64 (hfC s)) ∧ w' = w := by
 unfold maxLen at hs
 by_cases h1 : 65536 < s.size
 ·have H : Hid (hfC s = 2) := Hd (by unfold hfC; rw [if_pos h1])
  go_enter Tryz.func95, Tryz.ntmps95
  go_wp2_with fail
  go_ret
  exact ⟨ret_int (uh H).symm, rfl⟩
 ·by_cases h2 : s.size = 32
  ·have H : Hid (hfC s = 0) := Hd (by unfold hfC; rw [if_neg h1, if_pos h2])
   go_enter Tryz.func95, Tryz.ntmps95
   go_wp2_with fail
   go_ret
   exact ⟨ret_int (uh H).symm, rfl⟩
  ·have H : Hid (hfC s = 1) := Hd (by unfold hfC; rw [if_neg h1, if_neg h2])
   have h3 : (s.size : Int) ≠ 32 := by omega
   go_enter Tryz.func95, Tryz.ntmps95
   go_wp2_with fail
   go_ret
   exact ⟨ret_int (uh H).symm, rfl⟩
theorem notHash_any (s : ByteArray) (w : World) (hs : s.size ≤ maxLen) :
  Calls Tryz.prog 67 #[.string s] w fun e w' => e = .returned (.bool (!decide (s.size = 32))) ∧ w' = w := by
 have H : Hid (s.size = 32 ↔ hfC s = 0) := Hd (by
  unfold hfC; constructor
  ·intro h; rw [if_neg (by omega), if_pos h]
  ·intro h; split at h
   ·cases h
   ·split at h
    ·assumption
    ·cases h)
 have HF := Hd (hashFault_any s w hs)
 generalize hfC s = c at *
 go_enter Tryz.func67, Tryz.ntmps67
 go_wp2_with fail
 refine (uh HF).mono ?_
 rintro e w' ⟨rfl, rfl⟩
 by_cases h : c = 0
 ·have h32 := (uh H).2 h
  subst h
  go_wp2_with fail
  go_ret
  exact ⟨ret_bool (by simp [h32]), rfl⟩
 ·have h32 : ¬ s.size = 32 := fun e => h ((uh H).1 e)
  have HN := Hd h32
  clear h32
  go_wp2_with fail
  go_ret
  exact ⟨ret_bool (by simp [uh HN, h]), rfl⟩
def allH (l : List ByteArray) : Bool := l.all fun s => decide (s.size = 32)
theorem allH_yes {l : List ByteArray} (h : ∀ j, j < l.length → (l.getD j ByteArray.empty).size = 32) : allH l = true := by
 unfold allH; rw [List.all_eq_true]
 intro s hs
 obtain ⟨j, hj⟩ := List.getElem?_of_mem hs
 have := h j (List.getElem?_eq_some_iff.1 hj).1
 rw [List.getD_eq_getElem?_getD, hj] at this
 simpa using this
theorem allH_at {l : List ByteArray} (h : allH l = true) (j : Nat) (hj : j < l.length) : (l.getD j ByteArray.empty).size = 32 := by
 unfold allH at h; rw [List.all_eq_true] at h
 have := h _ (List.getElem_mem hj)
 rw [List.getD_eq_getElem?_getD, List.getElem?_eq_getElem hj]
 simpa using this
theorem allH_no {l : List ByteArray} {j : Nat} (hj : j < l.length) (h : (l.getD j ByteArray.empty).size ≠ 32) : allH l = false := by
 rcases Bool.eq_false_or_eq_true (allH l) with e | e
 ·exact absurd (allH_at e j hj) h
 ·exact e
structure SA (w : World) (b off cap : Nat) (l : List ByteArray) : Prop where
 le : l.length ≤ cap
 mx : cap ≤ maxLen
 lt : b < w.heap.size
 cell : ∀ i, i < l.length → w.cell? ⟨b, off + i, none⟩ = some (.string (l.getD i ByteArray.empty))
theorem SA.below {w w' : World} {b off cap : Nat} {l : List ByteArray} (h : SA w b off cap l) (hb : Below w.heap.size w w') : SA w' b off cap l :=
 ⟨h.le, h.mx, Nat.lt_of_lt_of_le h.lt hb.size, fun i hi => (hb.cell (p := ⟨b, off + i, none⟩) h.lt).trans (h.cell i hi)⟩
theorem SA.drewN {w : World} {b off cap : Nat} {l : List ByteArray} (h : SA w b off cap l) (n : Nat) : SA (w.drewN n) b off cap l := h.below (below_drewN (Below.refl _ _) n)
theorem SA.take {w : World} {b off cap : Nat} {l : List ByteArray} (h : SA w b off cap l) (k : Nat) (hk : k ≤ l.length) : SA w b off cap (l.take k) := by
 have e : (l.take k).length = k := by rw [List.length_take]; omega
 refine ⟨by have := h.le; omega, h.mx, h.lt, fun i hi => ?_⟩
 rw [e] at hi
 rw [h.cell i (by omega)]
 simp [List.getD_eq_getElem?_getD, hi]
theorem SA.drop {w : World} {b off cap : Nat} {l : List ByteArray} (h : SA w b off cap l) (k : Nat) (hk : k ≤ l.length) : SA w b (off + k) (cap - k) (l.drop k) := by
 have e : (l.drop k).length = l.length - k := List.length_drop ..
 refine ⟨by have := h.le; omega, by have := h.mx; omega, h.lt, fun i hi => ?_⟩
 rw [e] at hi
 rw [show off + k + i = off + (k + i) by omega, h.cell (k + i) (by omega)]
 simp [List.getD_eq_getElem?_getD, List.getElem?_drop]
theorem SA.strs {w : World} {b off cap : Nat} {l : List ByteArray} (h : SA w b off cap l) : Strs w (.slice (some ⟨b, off, none⟩) l.length cap) l :=
 ⟨_, _, rfl, Nat.le_trans h.le h.mx, .inr ⟨b, off, rfl, h.lt, h.cell⟩⟩
theorem SA.own {B : Nat} {w : World} {g cap : Nat} {l : List ByteArray} (h : OwnS B w (.slice (some ⟨g, 0, none⟩) l.length cap) l) : SA w g 0 cap l := by
 rcases own_shape h with ⟨hv, _⟩ | ⟨g', cap', hv, hb, hlt, hn, hm⟩
 ·cases hv
 ·simp only [Value.slice.injEq, Option.some.injEq, Addr.mk.injEq] at hv
  obtain ⟨⟨rfl, _⟩, _, rfl⟩ := hv
  exact ⟨hn, hm, hlt, fun i hi => by rw [Nat.zero_add]; exact h.cell i hi⟩

theorem indexFunc_any (l : List ByteArray) (b off cap : Nat) (w : World) (h : SA w b off cap l) (hz : ∀ i, (l.getD i ByteArray.empty).size ≤ 1048576) :
  Calls Tryz.prog 94 #[.slice (some ⟨b, off, none⟩) l.length cap, .func (.func 67) #[] #[]] w fun e w' => ∃ r : Int, e = .returned (.int .i64 r) ∧ (0 ≤ r ↔ allH l = false) ∧ w' = w := by
 have hle : l.length ≤ 9223372036854775807 := by have := h.le; have := h.mx; unfold maxLen at this; omega
 have HS := Hd h
 have HZ := Hd hz
 clear h hz
 go_enter Tryz.func94, Tryz.ntmps94
 go_wp2_with fail
 go_loop [8] (fun i => ∃ k : Nat, k ≤ l.length ∧ i = .int .i64 k ∧ ∀ j, j < k → (l.getD j ByteArray.empty).size = 32) (fun i => l.length - (intOf i).toNat)
 case atStart => exact ⟨0, Nat.zero_le _, rfl, fun j hj => by omega⟩
 case round =>
  obtain ⟨k, hk, rfl, hgo⟩ := hrel
  have HGO := Hd hgo
  clear hgo
  by_cases hlt : k < l.length
  ·have c0 := (uh HS).cell k hlt
   have hk0 : (0 : Int) ≤ (k : Int) := by omega
   have hk1 : (k : Int) < (l.length : Int) := by omega
   have HN := Hd (notHash_any (l.getD k ByteArray.empty) w (by have := uh HZ k; unfold maxLen; omega))
   have HNO := Hd (allH_no (l := l) (j := k) hlt)
   have HT := Hd (rfl : l.getD k ByteArray.empty = l.getD k ByteArray.empty)
   generalize htk : l.getD k ByteArray.empty = t at c0 HN HNO
   have HTK := Hd htk
   clear htk HT
   go_wp2_with fail
   refine (uh HN).mono ?_
   rintro e w' ⟨rfl, rfl⟩
   by_cases ht : t.size = 32
   ·have hb : (!decide (t.size = 32)) = false := by simp [ht]
    rw [hb]
    go_wp2_with fail
    refine ⟨⟨k + 1, by omega, by go_num, fun j hj => ?_⟩, ?_⟩
    ·by_cases e : j = k
     ·subst e; rw [uh HTK]; exact ht
     ·exact uh HGO j (by omega)
    ·simp [intOf]; omega
   ·have hb : (!decide (t.size = 32)) = true := by simp [ht]
    have HA := Hd (uh HNO ht)
    rw [hb]
    clear ht hb
    go_wp2_with fail
    go_ret
    exact ⟨_, rfl, ⟨fun _ => uh HA, fun _ => hk0⟩, rfl⟩
  ·obtain rfl : k = l.length := by omega
   have HA := Hd (allH_yes (uh HGO))
   go_wp2_with fail
   go_ret
   exact ⟨_, rfl, ⟨fun h => by omega, fun h => by rw [uh HA] at h; cases h⟩, rfl⟩
theorem containsFunc_any (l : List ByteArray) (b off cap : Nat) (w : World) (h : SA w b off cap l) (hz : ∀ i, (l.getD i ByteArray.empty).size ≤ 1048576) :
  Calls Tryz.prog 66 #[.slice (some ⟨b, off, none⟩) l.length cap, .func (.func 67) #[] #[]] w fun e w' => e = .returned (.bool (!allH l)) ∧ w' = w := by
 have HI := Hd (indexFunc_any l b off cap w h hz)
 clear h hz
 go_enter Tryz.func66, Tryz.ntmps66
 go_wp2_with fail
 refine (uh HI).mono ?_
 rintro e w' ⟨r, rfl, hr, rfl⟩
 by_cases h0 : 0 ≤ r
 ·have HA := Hd (hr.1 h0)
  clear hr
  go_wp2_with fail
  go_ret
  exact ⟨ret_bool (by rw [uh HA]; rfl), rfl⟩
 ·have HA : Hid (allH l = true) := Hd (by
   rcases Bool.eq_false_or_eq_true (allH l) with e | e
   ·exact e
   ·exact absurd (hr.2 e) h0)
  clear hr
  go_wp2_with fail
  go_ret
  exact ⟨ret_bool (by rw [uh HA]; simp; omega), rfl⟩
theorem l06Hashes_any (l : List ByteArray) (b off cap : Nat) (w : World) (h : SA w b off cap l) (hz : ∀ i, (l.getD i ByteArray.empty).size ≤ 1048576) :
  Calls Tryz.prog 56 #[.slice (some ⟨b, off, none⟩) l.length cap] w fun e w' => e = .returned (.bool (decide (l.length ≤ 64) && allH l)) ∧ w' = w := by
 have hle : l.length ≤ 9223372036854775807 := by have := h.le; have := h.mx; unfold maxLen at this; omega
 have HS := Hd h
 have HZ := Hd hz
 clear h hz
 by_cases h1 : 64 < l.length
 ·have H : Hid ((decide (l.length ≤ 64) && allH l) = false) := Hd (by simp; omega)
  go_enter Tryz.func56, Tryz.ntmps56
  go_wp2_with fail
  go_ret
  exact ⟨ret_bool (uh H).symm, rfl⟩
 have H : Hid ((decide (l.length ≤ 64) && allH l) = allH l) := Hd (by simp; omega)
 go_enter Tryz.func56, Tryz.ntmps56
 go_wp2_with fail
 go_loop [3] (fun i => ∃ k : Nat, k ≤ l.length ∧ i = .int .i64 k ∧ ∀ j, j < k → (l.getD j ByteArray.empty).size = 32) (fun i => l.length - (intOf i).toNat)
 case atStart => exact ⟨0, Nat.zero_le _, rfl, fun j hj => by omega⟩
 case round =>
  obtain ⟨k, hk, rfl, hgo⟩ := hrel
  have HGO := Hd hgo
  clear hgo
  by_cases hlt : k < l.length
  ·have c0 := (uh HS).cell k hlt
   have hk0 : (0 : Int) ≤ (k : Int) := by omega
   have hk1 : (k : Int) < (l.length : Int) := by omega
   have HNO := Hd (allH_no (l := l) (j := k) hlt)
   generalize htk : l.getD k ByteArray.empty = t at c0 HNO
   have htz : t.size ≤ 1048576 := by rw [← htk]; exact uh HZ k
   have HTK := Hd htk
   clear htk
   by_cases ht : t.size = 32
   ·go_wp2_with fail
    refine ⟨⟨k + 1, by omega, by go_num, fun j hj => ?_⟩, ?_⟩
    ·by_cases e : j = k
     ·subst e; rw [uh HTK]; exact ht
     ·exact uh HGO j (by omega)
    ·simp [intOf]; omega
   ·have HA := Hd (uh HNO ht)
    have ht2 : (t.size : Int) ≠ 32 := by omega
    go_wp2_with fail
    go_ret
    exact ⟨ret_bool (by rw [uh H, uh HA]), rfl⟩
  ·obtain rfl : k = l.length := by omega
   have HA := Hd (allH_yes (uh HGO))
   go_wp2_with fail
   go_ret
   exact ⟨ret_bool (by rw [uh H, uh HA]), rfl⟩
end Go.Proofs.YtnhhnjmjodmacaaGreatDoor
namespace Go.Proofs.YtnhhnjmjodmacaaGreatDoor.Sha
set_option maxRecDepth 100000
set_option maxHeartbeats 8000000
open Go.ChangeShapes Go.WideShapes Go.ChangeAt Go.RowKit
set_option linter.unusedVariables false
def ledB (ls : List ByteArray) (b : Br) (ss : List Se) : Bool := decide (ls.length ≤ 50) && allH ls && mapB b && sesB ss
theorem specLedgerOK_any (ls : List ByteArray) (k v : ByteArray) (a : Int) (ks : List Br) (ss : List Se) (lb loff lc : Nat) (ka : Option Addr) (kc : Nat) (sa : Option Addr) (sc : Nat) (w : World)
  (hS : SA w lb loff lc ls) (h : LedR w (.slice (some ⟨lb, loff, none⟩) ls.length lc) (.slice ka ks.length kc) (.slice sa ss.length sc) ls ks ss) (t1 : ∀ i, (ls.getD i ByteArray.empty).size ≤ 1048576) (zk : k.size ≤ maxLen) (zv : v.size ≤ maxLen) (t3 : ∀ i, (ss.getD i default).vl.size ≤ 1048576) :
  Calls Tryz.prog 30 #[.agg #[.slice (some ⟨lb, loff, none⟩) ls.length lc, .string k, .string v, .int .i64 a, .slice ka ks.length kc, .slice sa ss.length sc]] w fun e w' => e = .returned (.bool (ledB ls (.mk k v a ks) ss)) ∧ Below w.heap.size w w' := by
 have hlm : ls.length ≤ 9223372036854775807 := by have := hS.le; have := hS.mx; unfold maxLen at this; omega
 obtain ⟨sa', sc', hsv, hn, hm, hc⟩ := h.sv
 simp only [Value.slice.injEq, true_and] at hsv
 obtain ⟨rfl, rfl⟩ := hsv
 have HC := Hd hc
 have hsm : ss.length ≤ 9223372036854775807 := by unfold maxLen at hm; omega
 have B0 := Hd (bal w (.cells #[.slice (some ⟨lb, loff, none⟩) ls.length lc, .string k, .string v, .int .i64 a, .slice ka ks.length kc, .slice sa ss.length sc] 38))
 have X0 := Hd (Blk.new w #[.slice (some ⟨lb, loff, none⟩) ls.length lc, .string k, .string v, .int .i64 a, .slice ka ks.length kc, .slice sa ss.length sc] 38 w.heap.size rfl)
 have HH := Hd (l06Hashes_any ls lb loff lc _ (hS.below (uh B0)) t1)
 have HM := Hd (specMapOK_any k v a ks _ _ _ (h.kv.blw (uh B0)) zk zv)
 have HS := Hd t3
 clear hc hm hn h hS t1 t3 zk zv
 by_cases h1 : ls.length ≤ 50
 case neg =>
  have HD : Hid (ledB ls (.mk k v a ks) ss = false) := Hd (by unfold ledB; rw [decide_eq_false h1]; simp)
  have h1b : (50 : Int) < (ls.length : Int) := by omega
  go_enter Tryz.func30, Tryz.ntmps30
  go_wp2_with fail
  go_ret
  exact ⟨ret_bool (uh HD).symm, uh B0⟩
 have h1b : ¬ (50 : Int) < (ls.length : Int) := by omega
 rw [decide_eq_true (show ls.length ≤ 64 by omega), Bool.true_and] at HH
 rcases Bool.eq_false_or_eq_true (allH ls) with h2 | h2
 case inr =>
  have HD : Hid (ledB ls (.mk k v a ks) ss = false) := Hd (by unfold ledB; rw [h2]; simp)
  rw [h2] at HH
  go_enter Tryz.func30, Tryz.ntmps30
  go_wp2_with fail
  refine (uh HH).mono ?_
  rintro e w1 ⟨rfl, hw1⟩
  subst hw1
  go_wp2_with fail
  go_ret
  exact ⟨ret_bool (uh HD).symm, uh B0⟩
 rw [h2] at HH
 rcases Bool.eq_false_or_eq_true (mapB (.mk k v a ks)) with h3 | h3
 case inr =>
  have HD : Hid (ledB ls (.mk k v a ks) ss = false) := Hd (by unfold ledB; rw [h3]; simp)
  rw [h3] at HM
  go_enter Tryz.func30, Tryz.ntmps30
  go_wp2_with fail
  refine (uh HH).mono ?_
  rintro e w1 ⟨rfl, hw1⟩
  subst hw1
  go_wp2_with fail
  refine (uh HM).mono ?_
  rintro e w2 ⟨rfl, hb2⟩
  have K2 := hbt B0 hb2
  clear hb2
  go_wp2_with fail
  go_ret
  exact ⟨ret_bool (uh HD).symm, uh K2⟩
 rw [h3] at HM
 have HLB : Hid (ledB ls (.mk k v a ks) ss = sesB ss) := Hd (by unfold ledB; rw [decide_eq_true h1, h2, h3]; simp)
 by_cases h4 : ss.length ≤ 8
 case neg =>
  have HD : Hid (ledB ls (.mk k v a ks) ss = false) := Hd (by rw [uh HLB]; unfold sesB; rw [decide_eq_false h4]; simp)
  have h4b : (8 : Int) < (ss.length : Int) := by omega
  go_enter Tryz.func30, Tryz.ntmps30
  go_wp2_with fail
  refine (uh HH).mono ?_
  rintro e w1 ⟨rfl, hw1⟩
  subst hw1
  go_wp2_with fail
  refine (uh HM).mono ?_
  rintro e w2 ⟨rfl, hb2⟩
  have K2 := hbt B0 hb2
  have c5 := ((uh X0).below hb2).cell 5 rfl
  clear hb2
  go_wp2_with fail
  go_ret
  exact ⟨ret_bool (uh HD).symm, uh K2⟩
 have h4b : ¬ (8 : Int) < (ss.length : Int) := by omega
 rw [uh HLB]
 go_enter Tryz.func30, Tryz.ntmps30
 go_wp2_with fail
 refine (uh HH).mono ?_
 rintro e w1 ⟨rfl, hw1⟩
 subst hw1
 go_wp2_with fail
 refine (uh HM).mono ?_
 rintro e w2 ⟨rfl, hb2⟩
 have K2 := hbt B0 hb2
 have X2 := Hd ((uh X0).below hb2)
 have c5 := (uh X2).cell 5 rfl
 have hx2 := (uh X2).1
 clear hb2 HH HM X0 B0
 go_wp2_with fail
 go_loopw [3] (fun i wr => ∃ k : Nat, k ≤ ss.length ∧ i = .int .i64 k ∧ sesTo ss k ∧ Below w2.heap.size w2 wr) (fun i _ => ss.length - (intOf i).toNat)
 case atStart => exact ⟨0, Nat.zero_le _, rfl, fun i hi => by omega, Below.refl _ _⟩
 case round =>
  obtain ⟨j, hj, rfl, hgo, hb⟩ := hrel
  have d5 := (hb.cell (p := ⟨w.heap.size, 5, none⟩) hx2).trans c5
  have hbw := hbt K2 hb
  by_cases hlt : j < ss.length
  ·obtain ⟨b, off, rfl, hbl, hsrc⟩ : ∃ b off, sa = some ⟨b, off, none⟩ ∧ b < w.heap.size ∧ ∀ i, i < ss.length → w.cell? ⟨b, off + i * 5, none⟩ = some (.int .i64 (ss.getD i default).id) ∧ w.cell? ⟨b, off + i * 5 + 1, none⟩ = some (.int .i64 (ss.getD i default).sq) ∧ w.cell? ⟨b, off + i * 5 + 2, none⟩ = some (.int .i64 (ss.getD i default).kd) ∧ w.cell? ⟨b, off + i * 5 + 3, none⟩ = some (.int .i64 (ss.getD i default).pl) ∧ w.cell? ⟨b, off + i * 5 + 4, none⟩ = some (.string (ss.getD i default).vl) := by
    rcases uh HC with h0 | h1
    ·omega
    ·exact h1
   have hbl2 := Nat.lt_of_lt_of_le hbl (uh hbw).size
   have hsrc2 : ∀ i, i < ss.length → wr.cell? ⟨b, off + i * 5, none⟩ = some (.int .i64 (ss.getD i default).id) ∧ wr.cell? ⟨b, off + i * 5 + 1, none⟩ = some (.int .i64 (ss.getD i default).sq) ∧ wr.cell? ⟨b, off + i * 5 + 2, none⟩ = some (.int .i64 (ss.getD i default).kd) ∧ wr.cell? ⟨b, off + i * 5 + 3, none⟩ = some (.int .i64 (ss.getD i default).pl) ∧ wr.cell? ⟨b, off + i * 5 + 4, none⟩ = some (.string (ss.getD i default).vl) := fun i hi => ⟨((uh hbw).cell (p := ⟨b, off + i * 5, none⟩) hbl).trans (hsrc i hi).1, ((uh hbw).cell (p := ⟨b, off + i * 5 + 1, none⟩) hbl).trans (hsrc i hi).2.1, ((uh hbw).cell (p := ⟨b, off + i * 5 + 2, none⟩) hbl).trans (hsrc i hi).2.2.1, ((uh hbw).cell (p := ⟨b, off + i * 5 + 3, none⟩) hbl).trans (hsrc i hi).2.2.2.1, ((uh hbw).cell (p := ⟨b, off + i * 5 + 4, none⟩) hbl).trans (hsrc i hi).2.2.2.2⟩
   obtain ⟨s0, s1, s2, s3, s4⟩ := hsrc2 j hlt
   have hk0 : (0 : Int) ≤ (j : Int) := by omega
   have hk1 : (j : Int) < (ss.length : Int) := by omega
   have hfz := uh HS j
   have HGo := Hd hgo
   have HEB : Hid (sesAt ss j = (inB (ss.getD j default).id (leastS ss j) 65535 && inB (ss.getD j default).sq 0 65535 && repB (ss.getD j default).kd (ss.getD j default).pl (ss.getD j default).vl)) := Hd rfl
   have HLS : Hid (∀ q, q + 1 = j → leastS ss j = (ss.getD q default).id + 1) := Hd (fun q hq => by subst hq; rfl)
   have HL0 : Hid (j = 0 → leastS ss j = 0) := Hd (fun hq => by subst hq; rfl)
   have HLO := Hd (leastS_lo hgo)
   have HPR : Hid (∀ q, q + 1 = j → 0 ≤ (ss.getD q default).id) := Hd (fun q hq => by
    have h1 := hgo q (by omega)
    have h2 := leastS_lo (k := q) (fun i hi => hgo i (by omega))
    unfold sesAt at h1
    simp only [Bool.and_eq_true] at h1
    have := (inB_iff.1 h1.1.1).1
    omega)
   have HSR := Hd hsrc2
   have HB := Hd hb
   clear hsrc hsrc2 hb hgo
   generalize leastS ss j = ls at *
   generalize hff : ss.getD j default = f at *
   clear hff
   obtain ⟨f0, f1, f2, f3, f4⟩ := f
   dsimp only at s0 s1 s2 s3 s4 hfz HEB
   have Y0 := Hd (Blk.new wr #[.int .i64 f0, .int .i64 f1, .int .i64 f2, .int .i64 f3, .string f4] 106 wr.heap.size rfl)
   have BB := bal wr (.cells #[.int .i64 f0, .int .i64 f1, .int .i64 f2, .int .i64 f3, .string f4] 106)
   have HB3 := hbt HB BB
   have e5 := (BB.cell (p := ⟨w.heap.size, 5, none⟩) (Nat.lt_of_lt_of_le hx2 (uh HB).size)).trans d5
   have hz5 := Nat.lt_of_lt_of_le hx2 (uh HB3).size
   have hbl3 := Nat.lt_of_lt_of_le hbl2 BB.size
   have HSR3 : Hid (∀ i, i < ss.length → (wr.alloc (.cells #[.int .i64 f0, .int .i64 f1, .int .i64 f2, .int .i64 f3, .string f4] 106)).cell? ⟨b, off + i * 5, none⟩ = some (.int .i64 (ss.getD i default).id)) := Hd (fun i hi => (BB.cell (p := ⟨b, off + i * 5, none⟩) hbl2).trans (uh HSR i hi).1)
   clear BB HB hbw HSR
   go_wp2_with fail
   clear s0 s1 s2 s3 s4 d5
   generalize wr.alloc (.cells #[.int .i64 f0, .int .i64 f1, .int .i64 f2, .int .i64 f3, .string f4] 106) = w3 at *
   generalize wr.heap.size = xb at *
   have r5 := Wb.cell e5 hz5
   have t0 := Wb.cell ((uh Y0).cell 0 rfl) (uh Y0).1
   have t1 := Wb.cell ((uh Y0).cell 1 rfl) (uh Y0).1
   have t2 := Wb.cell ((uh Y0).cell 2 rfl) (uh Y0).1
   have t3 := Wb.cell ((uh Y0).cell 3 rfl) (uh Y0).1
   have t4 := Wb.cell ((uh Y0).cell 4 rfl) (uh Y0).1
   have hfz2 : f4.size ≤ 9223372036854775807 := by omega
   clear e5 Y0
   rcases Bool.eq_false_or_eq_true (inB f0 0 65535) with g0 | g0
   case inr =>
    have HD := Hd (ses_bad hlt (by rw [uh HEB]; have : inB f0 ls 65535 = false := (by rcases inB_no g0 with h | h <;> (have := uh HLO; simp [inB]; omega)); rw [this]; simp))
    refine wp_region_wb (by kernel_rfl) (by kernel_rfl) ?_
    repeat (go_big_quiet_step ((go_at_call 58; exact wb_same (l01In_any _ _ _ _))))
    refine wpQuiet_nil ?_
    intro _ hw'
    obtain ⟨⟨w1, hb1⟩, rfl⟩ := hw'
    have HB1 := hbt HB3 hb1
    clear hb1 r5 t0 t1 t2 t3 t4
    go_wp2_with fail
    go_ret
    exact ⟨ret_bool (uh HD).symm, (uh K2).trans ((uh HB1).mono (uh K2).size)⟩
   have g0b := inB_iff.1 g0
   rcases Bool.eq_false_or_eq_true (inB f1 0 65535) with g1 | g1
   case inr =>
    have HD := Hd (ses_bad hlt (by rw [uh HEB]; rw [g1]; simp))
    refine wp_region_wb (by kernel_rfl) (by kernel_rfl) ?_
    repeat (go_big_quiet_step ((go_at_call 58; exact wb_same (l01In_any _ _ _ _))))
    refine wpQuiet_nil ?_
    intro _ hw'
    obtain ⟨⟨w1, hb1⟩, rfl⟩ := hw'
    have HB1 := hbt HB3 hb1
    clear hb1 r5 t0 t1 t2 t3 t4
    go_wp2_with fail
    go_ret
    exact ⟨ret_bool (uh HD).symm, (uh K2).trans ((uh HB1).mono (uh K2).size)⟩
   rcases Nat.eq_zero_or_pos j with hk00 | hkp
   ·have p0d : decide (0 < j) = false := by rw [decide_eq_false_iff_not]; omega
    have HK0 := Hd (uh HL0 hk00)
    clear hk00
    rcases Bool.eq_false_or_eq_true (inB f2 0 6) with g2 | g2
    case inr =>
     have HD := Hd (ses_bad hlt (by rw [uh HEB]; unfold repB; rw [g2]; simp))
     refine wp_region_wb (by kernel_rfl) (by kernel_rfl) ?_
     repeat (go_big_quiet_step ((go_at_call 58; exact wb_same (l01In_any _ _ _ _))))
     refine wpQuiet_nil ?_
     intro _ hw'
     obtain ⟨⟨w1, hb1⟩, rfl⟩ := hw'
     have HB1 := hbt HB3 hb1
     clear hb1 r5 t0 t1 t2 t3 t4
     go_wp2_with fail
     go_ret
     exact ⟨ret_bool (uh HD).symm, (uh K2).trans ((uh HB1).mono (uh K2).size)⟩
    rcases Bool.eq_false_or_eq_true (inB f3 0 50) with g3 | g3
    case inr =>
     have HD := Hd (ses_bad hlt (by rw [uh HEB]; unfold repB; rw [g3]; simp))
     refine wp_region_wb (by kernel_rfl) (by kernel_rfl) ?_
     repeat (go_big_quiet_step ((go_at_call 58; exact wb_same (l01In_any _ _ _ _))))
     refine wpQuiet_nil ?_
     intro _ hw'
     obtain ⟨⟨w1, hb1⟩, rfl⟩ := hw'
     have HB1 := hbt HB3 hb1
     clear hb1 r5 t0 t1 t2 t3 t4
     go_wp2_with fail
     go_ret
     exact ⟨ret_bool (uh HD).symm, (uh K2).trans ((uh HB1).mono (uh K2).size)⟩
    by_cases g4 : f4.size ≤ 60
    case neg =>
     have g4d : decide ((60 : Int) < (f4.size : Int)) = true := by rw [decide_eq_true_iff]; omega
     have g4e : (60 : Int) < (f4.size : Int) := by omega
     have g4f : decide (60 < f4.size) = true := by rw [decide_eq_true_iff]; omega
     have HD := Hd (ses_bad hlt (by rw [uh HEB]; unfold repB; rw [decide_eq_false g4]; simp))
     refine wp_region_wb (by kernel_rfl) (by kernel_rfl) ?_
     repeat (go_big_quiet_step ((go_at_call 58; exact wb_same (l01In_any _ _ _ _))))
     refine wpQuiet_nil ?_
     intro _ hw'
     obtain ⟨⟨w1, hb1⟩, rfl⟩ := hw'
     have HB1 := hbt HB3 hb1
     clear hb1 r5 t0 t1 t2 t3 t4
     go_wp2_with fail
     go_ret
     exact ⟨ret_bool (uh HD).symm, (uh K2).trans ((uh HB1).mono (uh K2).size)⟩
    have g4d : decide ((60 : Int) < (f4.size : Int)) = false := by rw [decide_eq_false_iff_not]; omega
    have g4f : decide (60 < f4.size) = false := by rw [decide_eq_false_iff_not]; omega
    have HN := Hd ((uh HGo).next (by rw [uh HEB]; unfold repB; rw [g1, g2, g3, decide_eq_true g4]; rw [uh HK0, g0]; rfl))
    refine wp_region_wb (by kernel_rfl) (by kernel_rfl) ?_
    repeat (go_big_quiet_step ((go_at_call 58; exact wb_same (l01In_any _ _ _ _))))
    refine wpQuiet_nil ?_
    intro _ hw'
    obtain ⟨⟨w1, hb1⟩, rfl⟩ := hw'
    have HB1 := hbt HB3 hb1
    clear hb1 r5 t0 t1 t2 t3 t4
    go_wp2_with fail
    refine ⟨⟨j + 1, by omega, by go_num, uh HN, uh HB1⟩, ?_⟩
    simp [intOf]; omega
   ·obtain ⟨q, hq⟩ : ∃ q : Nat, (j : Int) - 1 = (q : Int) := ⟨j - 1, by omega⟩
    have x0 := uh HSR3 q (by omega)
    have HLQ := Hd (uh HLS q (by omega))
    have hpr := uh HPR q (by omega)
    generalize (ss.getD q default).id = pt at *
    have t9 := Wb.cell x0 hbl3
    have p1d : decide (0 < j) = true := by simpa using hkp
    have p2 : IntKind.i64.wrap (q : Int) = (q : Int) := wrapSes _ (by omega) (by omega)
    have p3 : (0 : Int) ≤ (q : Int) := by omega
    have p4 : (q : Int) < (ss.length : Int) := by omega
    clear x0
    by_cases hpt : f0 ≤ pt
    ·have hptd : decide (f0 ≤ pt) = true := by rw [decide_eq_true_iff]; exact hpt
     have HD := Hd (ses_bad hlt (by rw [uh HEB]; have : inB f0 ls 65535 = false := (by rw [uh HLQ]; simp [inB]; omega); rw [this]; simp))
     refine wp_region_wb (by kernel_rfl) (by kernel_rfl) ?_
     repeat (go_big_quiet_step ((go_at_call 58; exact wb_same (l01In_any _ _ _ _))))
     refine wpQuiet_nil ?_
     intro _ hw'
     obtain ⟨⟨w1, hb1⟩, rfl⟩ := hw'
     have HB1 := hbt HB3 hb1
     clear hb1 r5 t0 t1 t2 t3 t4 t9
     go_wp2_with fail
     go_ret
     exact ⟨ret_bool (uh HD).symm, (uh K2).trans ((uh HB1).mono (uh K2).size)⟩
    ·have hptd : decide (f0 ≤ pt) = false := by rw [decide_eq_false_iff_not]; exact hpt
     rcases Bool.eq_false_or_eq_true (inB f2 0 6) with g2 | g2
     case inr =>
      have HD := Hd (ses_bad hlt (by rw [uh HEB]; unfold repB; rw [g2]; simp))
      refine wp_region_wb (by kernel_rfl) (by kernel_rfl) ?_
      repeat (go_big_quiet_step ((go_at_call 58; exact wb_same (l01In_any _ _ _ _))))
      refine wpQuiet_nil ?_
      intro _ hw'
      obtain ⟨⟨w1, hb1⟩, rfl⟩ := hw'
      have HB1 := hbt HB3 hb1
      clear hb1 r5 t0 t1 t2 t3 t4 t9
      go_wp2_with fail
      go_ret
      exact ⟨ret_bool (uh HD).symm, (uh K2).trans ((uh HB1).mono (uh K2).size)⟩
     rcases Bool.eq_false_or_eq_true (inB f3 0 50) with g3 | g3
     case inr =>
      have HD := Hd (ses_bad hlt (by rw [uh HEB]; unfold repB; rw [g3]; simp))
      refine wp_region_wb (by kernel_rfl) (by kernel_rfl) ?_
      repeat (go_big_quiet_step ((go_at_call 58; exact wb_same (l01In_any _ _ _ _))))
      refine wpQuiet_nil ?_
      intro _ hw'
      obtain ⟨⟨w1, hb1⟩, rfl⟩ := hw'
      have HB1 := hbt HB3 hb1
      clear hb1 r5 t0 t1 t2 t3 t4 t9
      go_wp2_with fail
      go_ret
      exact ⟨ret_bool (uh HD).symm, (uh K2).trans ((uh HB1).mono (uh K2).size)⟩
     by_cases g4 : f4.size ≤ 60
     case neg =>
      have g4d : decide ((60 : Int) < (f4.size : Int)) = true := by rw [decide_eq_true_iff]; omega
      have g4e : (60 : Int) < (f4.size : Int) := by omega
      have g4f : decide (60 < f4.size) = true := by rw [decide_eq_true_iff]; omega
      have HD := Hd (ses_bad hlt (by rw [uh HEB]; unfold repB; rw [decide_eq_false g4]; simp))
      refine wp_region_wb (by kernel_rfl) (by kernel_rfl) ?_
      repeat (go_big_quiet_step ((go_at_call 58; exact wb_same (l01In_any _ _ _ _))))
      refine wpQuiet_nil ?_
      intro _ hw'
      obtain ⟨⟨w1, hb1⟩, rfl⟩ := hw'
      have HB1 := hbt HB3 hb1
      clear hb1 r5 t0 t1 t2 t3 t4 t9
      go_wp2_with fail
      go_ret
      exact ⟨ret_bool (uh HD).symm, (uh K2).trans ((uh HB1).mono (uh K2).size)⟩
     have g4d : decide ((60 : Int) < (f4.size : Int)) = false := by rw [decide_eq_false_iff_not]; omega
     have g4f : decide (60 < f4.size) = false := by rw [decide_eq_false_iff_not]; omega
     have HN := Hd ((uh HGo).next (by rw [uh HEB]; unfold repB; rw [g1, g2, g3, decide_eq_true g4]; have : inB f0 ls 65535 = true := (by rw [uh HLQ, inB_iff]; omega); rw [this]; rfl))
     refine wp_region_wb (by kernel_rfl) (by kernel_rfl) ?_
     repeat (go_big_quiet_step ((go_at_call 58; exact wb_same (l01In_any _ _ _ _))))
     refine wpQuiet_nil ?_
     intro _ hw'
     obtain ⟨⟨w1, hb1⟩, rfl⟩ := hw'
     have HB1 := hbt HB3 hb1
     clear hb1 r5 t0 t1 t2 t3 t4 t9
     go_wp2_with fail
     refine ⟨⟨j + 1, by omega, by go_num, uh HN, uh HB1⟩, ?_⟩
     simp [intOf]; omega
  ·obtain rfl : j = ss.length := by omega
   have HD := Hd (ses_all h4 hgo)
   clear hb hgo
   go_wp2_with fail
   go_ret
   exact ⟨ret_bool (uh HD).symm, uh hbw⟩
end Go.Proofs.YtnhhnjmjodmacaaGreatDoor.Sha
