/- What the proof of the claim needs (joined by program): Csl. -/
import Derived.Test.YtnhhnjmjodmacaaGreatDoorQaa04
import Derived.Test.YtnhhnjmjodmacaaGreatDoorQaa23
import Derived.Test.YtnhhnjmjodmacaaGreatDoorQaa01
import Derived.Test.YtnhhnjmjodmacaaGreatDoorQaa00
import Derived.Deep.Fields
import Derived.Deep.Slices
import Derived.Deep.RegionHeld3
namespace Go.Proofs.YtnhhnjmjodmacaaGreatDoor
set_option maxRecDepth 100000
set_option maxHeartbeats 8000000
open Go.ChangeShapes Go.WideShapes Go.ChangeAt Go.RowKit Go.Deep
set_option linter.unusedVariables false
set_option linter.unusedSimpArgs false
def kcwF (f : Cm) : Int := (f.ky.size : Int) + (f.vl.size : Int)
theorem kcwF_nn (f : Cm) : 0 ≤ kcwF f := by unfold kcwF; omega
def kcwTo (l : List Cm) : Nat → Int
 | 0 => 0
 | k + 1 => kcwTo l k + kcwF (l.getD k default)
theorem kcw_mono (l : List Cm) (i j : Nat) (h : i ≤ j) : kcwTo l i ≤ kcwTo l j := by
 induction j with
 | zero => obtain rfl : i = 0 := by omega
           exact Int.le_refl _
 | succ j ih =>
  by_cases e : i = j + 1
  ·subst e; exact Int.le_refl _
  ·have := ih (by omega)
   have := kcwF_nn (l.getD j default)
   show _ ≤ kcwTo l j + _
   omega
def kcszR (L : Int) (l : List Cm) : Int := if (l.length : Int) + kcwTo l l.length ≤ L then L - (l.length : Int) - kcwTo l l.length else -1
def kcszF (f : Cm) (left : Int) : Int := if left - kcwF f < 0 then -1 else left - kcwF f
theorem kcszR_cases (L : Int) (l : List Cm) : kcszR L l = -1 ∨ (0 ≤ kcszR L l ∧ kcszR L l ≤ L) := by
 have hw0 := kcw_mono l 0 l.length (Nat.zero_le _)
 have hw00 : kcwTo l 0 = 0 := rfl
 unfold kcszR; split
 ·right; omega
 ·left; rfl
theorem kcsmall_of (L : Int) (hL : L ≤ 1048576) (l : List Cm) (h : 0 ≤ kcszR L l) : l.length ≤ 1048576 ∧ ∀ i, (l.getD i default).ky.size ≤ 1048576 ∧ (l.getD i default).vl.size ≤ 1048576 := by
 have h1 : (l.length : Int) + kcwTo l l.length ≤ L := by
  unfold kcszR at h
  split at h
  ·assumption
  ·omega
 have hw0 := kcw_mono l 0 l.length (Nat.zero_le _)
 have hw00 : kcwTo l 0 = 0 := rfl
 refine ⟨by omega, fun i => ?_⟩
 by_cases hi : i < l.length
 ·have e2 : kcwTo l (i + 1) = kcwTo l i + kcwF (l.getD i default) := rfl
  have := kcw_mono l (i + 1) l.length (by omega)
  have := kcw_mono l 0 i (Nat.zero_le _)
  unfold kcwF at e2
  refine ⟨by omega, by omega⟩
 ·rw [List.getD_eq_getElem?_getD, List.getElem?_eq_none (by omega)]
  simp only [Option.getD_none]
  have e3 : (default : Cm).ky.size = 0 := rfl
  have e4 : (default : Cm).vl.size = 0 := rfl
  refine ⟨by omega, by omega⟩
theorem szCm_any (f : Cm) (left : Int) (w : World) (h0 : 0 ≤ left) (h1 : left ≤ 1048576) (hd3 : f.ky.size ≤ maxLen) (hd4 : f.vl.size ≤ maxLen) :
  Calls Tryz.prog 7 #[.agg #[.int .i64 f.kd, .int .i64 f.ss, .int .i64 f.sq, .string f.ky, .string f.vl], .int .i64 left] w fun e w' => e = .returned (.int .i64 (kcszF f left)) ∧ Below w.heap.size w w' := by
 obtain ⟨f0, f1, f2, f3, f4⟩ := f
 dsimp only at hd3 hd4 ⊢
 have E : Hid (∀ r : Int, ((left - ((f3.size : Int) + (f4.size : Int)) < 0 → r = -1) ∧ (¬ left - ((f3.size : Int) + (f4.size : Int)) < 0 → r = left - ((f3.size : Int) + (f4.size : Int)))) → r = kcszF ⟨f0, f1, f2, f3, f4⟩ left) := Hd (fun r hr => by unfold kcszF kcwF; dsimp only; split <;> omega)
 have B0 := Hd (bal w (.cells #[.int .i64 f0, .int .i64 f1, .int .i64 f2, .string f3, .string f4] 30))
 have A0 := Hd (Blk.new w #[.int .i64 f0, .int .i64 f1, .int .i64 f2, .string f3, .string f4] 30 w.heap.size rfl)
 unfold maxLen at hd3 hd4
 by_cases r0 : left - (f3.size : Int) < 0
 ·have E1 := Hd (uh E (-1) ⟨fun _ => rfl, fun h => by omega⟩)
  clear E
  go_enter Tryz.func7, Tryz.ntmps7
  go_wp2_with fail
  go_ret
  exact ⟨ret_int (uh E1), uh B0⟩
 by_cases r1 : left - (f3.size : Int) - (f4.size : Int) < 0
 ·have E1 := Hd (uh E (-1) ⟨fun _ => rfl, fun h => by omega⟩)
  clear E
  go_enter Tryz.func7, Tryz.ntmps7
  go_wp2_with fail
  go_ret
  exact ⟨ret_int (uh E1), uh B0⟩
 have E1 := Hd (uh E (left - (f3.size : Int) - (f4.size : Int)) ⟨fun h => by omega, fun h => by omega⟩)
 clear E
 go_enter Tryz.func7, Tryz.ntmps7
 go_wp2_with fail
 go_ret
 exact ⟨ret_int (uh E1), uh B0⟩
theorem szCommandS_any (L : Int) (hL0 : 0 ≤ L) (hL1 : L ≤ 1048576) (v : Value) (l : List Cm) (w : World) (h : Css w v l) (hz : ∀ i, i < l.length → (l.getD i default).ky.size ≤ maxLen ∧ (l.getD i default).vl.size ≤ maxLen) :
  Calls Tryz.prog 16 #[v, .int .i64 L] w fun e w' => e = .returned (.int .i64 (kcszR L l)) ∧ Below w.heap.size w w' := by
 obtain ⟨a, cap, rfl, hn, hm, hc⟩ := h
 have HC := Hd hc
 have HZ := Hd hz
 have hlm : l.length ≤ 9223372036854775807 := by unfold maxLen at hm; omega
 clear hc hz hm hn
 have hw0 := kcw_mono l 0 l.length (Nat.zero_le _)
 have hw00 : kcwTo l 0 = 0 := rfl
 by_cases hl : L < l.length
 ·have E : Hid (kcszR L l = -1) := Hd (by unfold kcszR; rw [if_neg (by omega)])
  have hl2 : L - (l.length : Int) < 0 := by omega
  go_enter Tryz.func16, Tryz.ntmps16
  go_wp2_with fail
  go_ret
  exact ⟨ret_int (uh E).symm, Below.refl _ _⟩
 ·have hl2 : ¬ L - (l.length : Int) < 0 := by omega
  go_enter Tryz.func16, Tryz.ntmps16
  go_wp2_with fail
  go_loopw [1, 5] (fun lf i wr => ∃ (k : Nat) (x : Int), k ≤ l.length ∧ i = .int .i64 k ∧ lf = .int .i64 x ∧ x = L - (l.length : Int) - kcwTo l k ∧ 0 ≤ x ∧ Below w.heap.size w wr) (fun _ i _ => l.length - (intOf i).toNat)
  case atStart => exact ⟨0, _, Nat.zero_le _, rfl, rfl, by rw [hw00]; omega, by omega, Below.refl _ _⟩
  case round =>
   obtain ⟨k, x, hk, rfl, rfl, hx, hx0, hb⟩ := hrel
   by_cases hlt : k < l.length
   ·obtain ⟨b, off, rfl, hbl, hsrc⟩ : ∃ b off, a = some ⟨b, off, none⟩ ∧ b < w.heap.size ∧ ∀ i, i < l.length → w.cell? ⟨b, off + i * 5, none⟩ = some (.int .i64 (l.getD i default).kd) ∧ w.cell? ⟨b, off + i * 5 + 1, none⟩ = some (.int .i64 (l.getD i default).ss) ∧ w.cell? ⟨b, off + i * 5 + 2, none⟩ = some (.int .i64 (l.getD i default).sq) ∧ w.cell? ⟨b, off + i * 5 + 3, none⟩ = some (.string (l.getD i default).ky) ∧ w.cell? ⟨b, off + i * 5 + 4, none⟩ = some (.string (l.getD i default).vl) := by
     rcases uh HC with h0 | h1
     ·omega
     ·exact h1
    obtain ⟨s0, s1, s2, s3, s4⟩ := hsrc k hlt
    have c0 := (hb.cell (p := ⟨b, off + k * 5, none⟩) hbl).trans s0
    have c1 := (hb.cell (p := ⟨b, off + k * 5 + 1, none⟩) hbl).trans s1
    have c2 := (hb.cell (p := ⟨b, off + k * 5 + 2, none⟩) hbl).trans s2
    have c3 := (hb.cell (p := ⟨b, off + k * 5 + 3, none⟩) hbl).trans s3
    have c4 := (hb.cell (p := ⟨b, off + k * 5 + 4, none⟩) hbl).trans s4
    have hk0 : (0 : Int) ≤ (k : Int) := by omega
    have hk1 : (k : Int) < (l.length : Int) := by omega
    have hwk := kcw_mono l 0 k (Nat.zero_le _)
    have hwl := kcw_mono l (k + 1) l.length (by omega)
    have hws : kcwTo l (k + 1) = kcwTo l k + kcwF (l.getD k default) := rfl
    have hz := uh HZ k hlt
    have hx1 : x ≤ 1048576 := by omega
    have hbs := hb.size
    have HB := Hd hb
    clear hsrc s0 s1 s2 s3 s4 hb
    generalize l.getD k default = f at *
    have HSZ := Hd (fun wx => szCm_any f x wx hx0 hx1 (hz.1) (hz.2))
    have HSF : Hid (kcszF f x = if x - kcwF f < 0 then -1 else x - kcwF f) := rfl
    obtain ⟨r, hr⟩ : ∃ r, r = kcszF f x := ⟨_, rfl⟩
    rw [← hr] at HSZ HSF
    have HW := Hd (And.intro hwl (And.intro hws hx))
    clear hr hwl hws hx hwk hw0 hw00 hz
    generalize kcwF f = wf at *
    obtain ⟨f0, f1, f2, f3, f4⟩ := f
    dsimp only at c0 c1 c2 c3 c4 HSZ
    go_wp2_with fail
    refine (uh HSZ wr).mono ?_
    rintro e w2 ⟨rfl, hb2⟩
    have HB2 := Hd ((uh HB).trans (hb2.mono hbs))
    clear hb2 HB HSZ
    by_cases hr0 : r < 0
    ·have E : Hid (kcszR L l = -1) := Hd (by
      obtain ⟨h1, h2, h3⟩ := uh HW
      have h4 := uh HSF
      unfold kcszR; rw [if_neg]
      split at h4 <;> omega)
     go_wp2_with fail
     go_ret
     exact ⟨ret_int (uh E).symm, uh HB2⟩
    ·go_wp2_with fail
     refine ⟨⟨k + 1, r, by omega, by go_num, rfl, ?_, by omega, uh HB2⟩, ?_⟩
     ·obtain ⟨h1, h2, h3⟩ := uh HW
      have h4 := uh HSF
      split at h4 <;> omega
     ·simp [intOf]; omega
   ·obtain rfl : k = l.length := by omega
    have E : Hid (kcszR L l = x) := Hd (by unfold kcszR; rw [if_pos (by omega)]; omega)
    have R := Hd hb
    clear hb hx
    go_wp2_with fail
    go_ret
    exact ⟨ret_int (uh E).symm, uh R⟩
theorem toCm_any (f : Cm) (w : World) :
  Calls Tryz.prog 10 #[.agg #[.int .i64 f.kd, .int .i64 f.ss, .int .i64 f.sq, .string f.ky, .string f.vl]] w fun e w' => e = .returned (.agg #[.int .i64 f.kd, .int .i64 f.ss, .int .i64 f.sq, .string f.ky, .string f.vl]) ∧ Below w.heap.size w w' := by
 obtain ⟨f0, f1, f2, f3, f4⟩ := f
 dsimp only
 go_enter Tryz.func10, Tryz.ntmps10
 go_wp2_with fail
 refine bodyPost_ret (v := .agg #[.int .i64 f0, .int .i64 f1, .int .i64 f2, .string f3, .string f4]) (by simp [results, Tryz.results10, go_sem]) rfl ⟨rfl, ?_⟩
 exact (((Below.refl _ _).alloc (Nat.le_refl _) _).alloc (by simp) _).alloc (by simp; omega) _
def zeroCm : Cm := ⟨0, 0, 0, ⟨#[]⟩, ⟨#[]⟩⟩
def fillCm (l : List Cm) (k : Nat) : List Cm := (List.range l.length).map fun j => if j < k then l.getD j default else zeroCm
theorem fillCm_len (l : List Cm) (k : Nat) : (fillCm l k).length = l.length := by simp [fillCm]
theorem fillCm_all (l : List Cm) : fillCm l l.length = l := by
 apply List.ext_getElem?
 intro j
 by_cases hj : j < l.length
 ·simp [fillCm, hj, List.getD_eq_getElem?_getD]
 ·simp [fillCm, hj]
theorem fillCm_set (l : List Cm) (k : Nat) (hk : k < l.length) : (fillCm l k).set k (l.getD k default) = fillCm l (k + 1) := by
 apply List.ext_getElem?
 intro j
 rw [List.getElem?_set]
 simp only [fillCm_len]
 by_cases e : k = j
 ·subst e
  rw [if_pos rfl, if_pos hk]
  simp [fillCm, hk]
 ·rw [if_neg e]
  by_cases hj : j < l.length
  ·by_cases h1 : j < k
   ·simp [fillCm, hj, h1, show j < k + 1 by omega]
   ·simp [fillCm, hj, h1, show ¬ j < k + 1 by omega]
  ·simp [fillCm, hj]
theorem madeCm_at (x0 x1 x2 x3 x4 : Value) (n j : Nat) (hj : j < n) : (madeCells #[x0, x1, x2, x3, x4] n).toList[j]? = some (if j % 5 = 0 then x0 else if j % 5 = 1 then x1 else if j % 5 = 2 then x2 else if j % 5 = 3 then x3 else x4) := by
 have h3 : (#[x0, x1, x2, x3, x4] : Array Value).size = 5 := rfl
 unfold madeCells
 rw [h3, Array.getElem?_toList, Array.getElem?_map]
 have hr : (Array.range n)[j]? = some j := by simp [hj]
 rw [hr, Option.map_some]
 rcases (show j % 5 = 0 ∨ j % 5 = 1 ∨ j % 5 = 2 ∨ j % 5 = 3 ∨ j % 5 = 4 by omega) with e | e | e | e | e
 ·rw [e]; rfl
 ·rw [e]; rfl
 ·rw [e]; rfl
 ·rw [e]; rfl
 ·rw [e]; rfl
theorem madeCm (l : List Cm) : (madeCells (Value.agg #[.int .i64 0, .int .i64 0, .int .i64 0, .string ⟨#[]⟩, .string ⟨#[]⟩]).cells (l.length * 5)).toList = csC (fillCm l 0) := by
 have hcs : (Value.agg #[.int .i64 0, .int .i64 0, .int .i64 0, .string ⟨#[]⟩, .string ⟨#[]⟩]).cells = #[Value.int .i64 0, Value.int .i64 0, Value.int .i64 0, Value.string ⟨#[]⟩, Value.string ⟨#[]⟩] := rfl
 rw [hcs]
 apply List.ext_getElem?
 intro j
 by_cases hj : j < l.length * 5
 ·have hq : j / 5 < (fillCm l 0).length := by rw [fillCm_len]; omega
  obtain ⟨g0, g1, g2, g3, g4⟩ := csC_get (fillCm l 0) (j / 5) hq
  have hz : (fillCm l 0).getD (j / 5) default = zeroCm := by
   rw [fillCm_len] at hq
   rw [List.getD_eq_getElem?_getD]
   simp [fillCm, hq]
  rw [hz] at g0 g1 g2 g3 g4
  rw [madeCm_at _ _ _ _ _ _ _ hj]
  rcases (show j % 5 = 0 ∨ j % 5 = 1 ∨ j % 5 = 2 ∨ j % 5 = 3 ∨ j % 5 = 4 by omega) with e | e | e | e | e
  ·rw [show j / 5 * 5 = j by omega] at g0; rw [g0, e]; rfl
  ·rw [show j / 5 * 5 + 1 = j by omega] at g1; rw [g1, e]; rfl
  ·rw [show j / 5 * 5 + 2 = j by omega] at g2; rw [g2, e]; rfl
  ·rw [show j / 5 * 5 + 3 = j by omega] at g3; rw [g3, e]; rfl
  ·rw [show j / 5 * 5 + 4 = j by omega] at g4; rw [g4, e]; rfl
 ·have e1 : (madeCells #[Value.int .i64 0, Value.int .i64 0, Value.int .i64 0, Value.string ⟨#[]⟩, Value.string ⟨#[]⟩] (l.length * 5)).toList[j]? = none := List.getElem?_eq_none (by rw [Array.length_toList, size_madeCells]; omega)
  have e2 : (csC (fillCm l 0))[j]? = none := List.getElem?_eq_none (by rw [csC_len, fillCm_len]; omega)
  rw [e1, e2]
theorem toCommandS_any (v : Value) (l : List Cm) (w : World) (h : Css w v l) (hs : l.length ≤ 1048576) :
  Calls Tryz.prog 18 #[v] w fun e w' => e = .returned (.slice (some ⟨w.heap.size, 0, none⟩) l.length l.length) ∧ OwnC w.heap.size w' (.slice (some ⟨w.heap.size, 0, none⟩) l.length l.length) l ∧ w.heap.size < w'.heap.size ∧ Below w.heap.size w w' := by
 obtain ⟨i0, hi, hz0, hz1, hz2⟩ := info_parts infoCm
 obtain ⟨a, cap, rfl, hn, hm, hc⟩ := h
 have HC := Hd hc
 clear hc hm hn
 go_enter Tryz.func18, Tryz.ntmps18
 go_wp2_with (at_make; refine wpList_make_full _ rfl _ _ 55 rfl w.heap.size 44 i0 _ 5 Tryz.underlying55 hi hz0 hz1 .i64 .i64 _ _ l.length rfl rfl rfl rfl (by rw [hz2]; omega) (by unfold maxLen; omega) (Nat.le_refl _) ?_; intro w1 hown1 hg1)
 rw [madeCm] at hown1
 have HZ := Hd (And.intro hown1 ((Below.refl w.heap.size w).grown hg1 (Nat.le_refl _) (fun k h => by cases h)))
 clear hown1 hg1
 go_loopw [4] (fun i wr => ∃ k : Nat, k ≤ l.length ∧ i = .int .i64 k ∧ wr.ownsRow w.heap.size 44 5 (.slice (some ⟨w.heap.size, 0, none⟩) l.length l.length) l.length (csC (fillCm l k)) ∧ Below w.heap.size w wr) (fun i _ => l.length - (intOf i).toNat)
 case atStart => exact ⟨0, Nat.zero_le _, rfl, (uh HZ).1, (uh HZ).2⟩
 case round =>
  obtain ⟨k, hk, rfl, hL, hbel⟩ := hrel
  by_cases hlt : k < l.length
  ·obtain ⟨b, off, rfl, hbl, hsrc⟩ : ∃ b off, a = some ⟨b, off, none⟩ ∧ b < w.heap.size ∧ ∀ i, i < l.length → w.cell? ⟨b, off + i * 5, none⟩ = some (.int .i64 (l.getD i default).kd) ∧ w.cell? ⟨b, off + i * 5 + 1, none⟩ = some (.int .i64 (l.getD i default).ss) ∧ w.cell? ⟨b, off + i * 5 + 2, none⟩ = some (.int .i64 (l.getD i default).sq) ∧ w.cell? ⟨b, off + i * 5 + 3, none⟩ = some (.string (l.getD i default).ky) ∧ w.cell? ⟨b, off + i * 5 + 4, none⟩ = some (.string (l.getD i default).vl) := by
    rcases uh HC with h0 | h1
    ·omega
    ·exact h1
   obtain ⟨s0, s1, s2, s3, s4⟩ := hsrc k hlt
   have c0 := (hbel.cell (p := ⟨b, off + k * 5, none⟩) hbl).trans s0
   have c1 := (hbel.cell (p := ⟨b, off + k * 5 + 1, none⟩) hbl).trans s1
   have c2 := (hbel.cell (p := ⟨b, off + k * 5 + 2, none⟩) hbl).trans s2
   have c3 := (hbel.cell (p := ⟨b, off + k * 5 + 3, none⟩) hbl).trans s3
   have c4 := (hbel.cell (p := ⟨b, off + k * 5 + 4, none⟩) hbl).trans s4
   have hk0 : (0 : Int) ≤ (k : Int) := by omega
   have hk1 : (k : Int) < (l.length : Int) := by omega
   have hbs := hbel.size
   have HL := Hd hL
   have HB := Hd hbel
   clear hsrc s0 s1 s2 s3 s4 hL hbel
   obtain ⟨f, hf⟩ : ∃ f, f = l.getD k default := ⟨_, rfl⟩
   rw [← hf] at c0 c1 c2 c3 c4
   have HFe := Hd hf
   clear hf
   have HT := Hd (fun wx => toCm_any f wx)
   obtain ⟨f0, f1, f2, f3, f4⟩ := f
   dsimp only at c0 c1 c2 c3 c4 HT
   go_wp2_with fail
   refine (uh HT wr).mono ?_
   rintro e w2 ⟨rfl, hb2⟩
   have hO : w2.ownsRow w.heap.size 44 5 (.slice (some ⟨w.heap.size, 0, none⟩) l.length l.length) l.length (csC (fillCm l k)) := own_kept (T := fun _ => False) (uh HL) (Touch.ofBelow hb2) (fun _ _ h => h)
   have hB2 := (uh HB).trans (hb2.mono hbs)
   obtain ⟨d0, d1, d2, d3, d4⟩ := OwnC.cells hO k (by rw [fillCm_len]; exact hlt) (fillCm_len l k).symm
   have g0 := hO.frozenAt (k * 5)
   have g1 := hO.frozenAt (k * 5 + 1)
   have g2 := hO.frozenAt (k * 5 + 2)
   have g3 := hO.frozenAt (k * 5 + 3)
   have g4 := hO.frozenAt (k * 5 + 4)
   have q0 := (hO.stored (k * 5) (.int .i64 f0)).1
   have q1 := (q0.stored (k * 5 + 1) (.int .i64 f1)).1
   have q2 := (q1.stored (k * 5 + 2) (.int .i64 f2)).1
   have q3 := (q2.stored (k * 5 + 3) (.string f3)).1
   have q4 := (q3.stored (k * 5 + 4) (.string f4)).1
   have hset : ((((((csC (fillCm l k)).set (k * 5) (.int .i64 f0)).set (k * 5 + 1) (.int .i64 f1)).set (k * 5 + 2) (.int .i64 f2)).set (k * 5 + 3) (.string f3)).set (k * 5 + 4) (.string f4)) = csC (fillCm l (k + 1)) := by
    have h1 := csC_set (fillCm l k) k ⟨f0, f1, f2, f3, f4⟩ (by rw [fillCm_len]; exact hlt)
    dsimp only at h1
    rw [h1, ← fillCm_set l k hlt, ← uh HFe]
   rw [hset] at q4
   have R := Hd (And.intro q4 (((((hB2.setCell (p := ⟨w.heap.size, k * 5, none⟩) (Nat.le_refl _) (.int .i64 f0)).setCell (p := ⟨w.heap.size, k * 5 + 1, none⟩) (Nat.le_refl _) (.int .i64 f1)).setCell (p := ⟨w.heap.size, k * 5 + 2, none⟩) (Nat.le_refl _) (.int .i64 f2)).setCell (p := ⟨w.heap.size, k * 5 + 3, none⟩) (Nat.le_refl _) (.string f3)).setCell (p := ⟨w.heap.size, k * 5 + 4, none⟩) (Nat.le_refl _) (.string f4)))
   clear q0 q1 q2 q3 q4 hset hO hB2 hb2 HT HL HB
   go_wp2_with fail
   refine ⟨⟨k + 1, by omega, by go_num, (uh R).1, (uh R).2⟩, ?_⟩
   simp [intOf]; omega
  ·obtain rfl : k = l.length := by omega
   rw [fillCm_all] at hL
   have hlt9 := (hL.lt w.heap.size rfl).2
   have R := Hd (And.intro hL hbel)
   clear hL hbel
   go_wp2_with fail
   go_ret
   exact ⟨rfl, (uh R).1, hlt9, (uh R).2⟩
theorem open_commands {H : Type} {enc : TypeId × Value → H} {W : World} {base b0 : Nat} {r : Reach} {sp : Nat → Bool} {held : Bool} {v : Value} {d : DataW H} {p : List MemPlace}
  (hv : Value.okWide Tryz.prog W r b0 50 v) (ht : DataW.Trod enc Tryz.prog W base sp held 50 v d p) :
  ∃ l : List Cm, Css W v l ∧ ∀ i, i < l.length → (Lit.int .i64 (l.getD i default).kd).wf = true ∧ (Lit.int .i64 (l.getD i default).ss).wf = true ∧ (Lit.int .i64 (l.getD i default).sq).wf = true ∧ (l.getD i default).ky.size ≤ maxLen ∧ (l.getD i default).vl.size ≤ maxLen := by
 obtain ⟨fuel, h0⟩ := ht
 obtain ⟨a0, len0, cap0, rfl⟩ := okWide_slice Tryz.underlying50 hv
 have h : DataW.trod enc Tryz.prog W base sp held fuel 50 [.slice a0 len0 cap0] = some (d, p) := h0
 have i3 : Tryz.prog.cellsOf 3 = 1 := by kernel_rfl
 have i4 : Tryz.prog.cellsOf 4 = 1 := by kernel_rfl
 have i9 : Tryz.prog.cellsOf 9 = 1 := by kernel_rfl
 have iF : Tryz.prog.cellsOf 30 = 5 := by kernel_rfl

 rcases open_slice Tryz.underlying50 h with ⟨hc, _⟩ | ⟨a, len, cap, m, n, D, Pl, hc, hb, hl, hm, hmm, _, hx⟩
 ·simp only [List.cons.injEq, and_true, Value.slice.injEq] at hc
  obtain ⟨rfl, rfl, rfl⟩ := hc
  exact ⟨[], ⟨none, 0, rfl, Nat.le_refl _, by unfold maxLen; omega, .inl rfl⟩, fun i hi => by simp at hi⟩
 ·simp only [List.cons.injEq, and_true, Value.slice.injEq] at hc
  obtain ⟨rfl, rfl, rfl⟩ := hc
  have hlm : len0 ≤ m := by rw [hmm]; split <;> omega
  rw [iF] at hx
  have each : ∀ i, i < len0 → ∃ f : Cm, W.cell? (a.add (i * 5)) = some (.int .i64 f.kd) ∧ W.cell? (a.add (i * 5 + 1)) = some (.int .i64 f.ss) ∧ W.cell? (a.add (i * 5 + 2)) = some (.int .i64 f.sq) ∧ W.cell? (a.add (i * 5 + 3)) = some (.string f.ky) ∧ W.cell? (a.add (i * 5 + 4)) = some (.string f.vl) ∧ (Lit.int .i64 f.kd).wf = true ∧ (Lit.int .i64 f.ss).wf = true ∧ (Lit.int .i64 f.sq).wf = true ∧ f.ky.size ≤ maxLen ∧ f.vl.size ≤ maxLen := by
   intro i hi
   obtain ⟨cs', h1, h2⟩ := hx i (by omega)
   obtain ⟨_, hlen, hcell⟩ := World.cells?_some h1
   obtain ⟨xs, k, hk, hxy, _, hxl, hf⟩ := DataW.trod_struct Tryz.underlying30 h2
   match cs', hlen with
   | [v0, v1, v2, v3, v4], _ =>
    obtain ⟨y0, e0⟩ := get_some hxl (show 0 < 5 by omega)
    obtain ⟨y1, e1⟩ := get_some hxl (show 1 < 5 by omega)
    obtain ⟨y2, e2⟩ := get_some hxl (show 2 < 5 by omega)
    obtain ⟨y3, e3⟩ := get_some hxl (show 3 < 5 by omega)
    obtain ⟨y4, e4⟩ := get_some hxl (show 4 < 5 by omega)
    have g0 : DataW.trod enc Tryz.prog W base sp held k 3 [v0] = some y0 := by simpa [Value.cells, i3, i4, i9] using (hf 0 _ rfl).trans e0
    have g1 : DataW.trod enc Tryz.prog W base sp held k 3 [v1] = some y1 := by simpa [Value.cells, i3, i4, i9] using (hf 1 _ rfl).trans e1
    have g2 : DataW.trod enc Tryz.prog W base sp held k 3 [v2] = some y2 := by simpa [Value.cells, i3, i4, i9] using (hf 2 _ rfl).trans e2
    have g3 : DataW.trod enc Tryz.prog W base sp held k 9 [v3] = some y3 := by simpa [Value.cells, i3, i4, i9] using (hf 3 _ rfl).trans e3
    have g4 : DataW.trod enc Tryz.prog W base sp held k 9 [v4] = some y4 := by simpa [Value.cells, i3, i4, i9] using (hf 4 _ rfl).trans e4
    obtain ⟨a0, f0, _, q0⟩ := DataW.trod_int Tryz.underlying3 g0
    obtain ⟨a1, f1, _, q1⟩ := DataW.trod_int Tryz.underlying3 g1
    obtain ⟨a2, f2, _, q2⟩ := DataW.trod_int Tryz.underlying3 g2
    obtain ⟨a3, f3, _, q3⟩ := DataW.trod_string Tryz.underlying9 g3
    obtain ⟨a4, f4, _, q4⟩ := DataW.trod_string Tryz.underlying9 g4
    simp only [List.cons.injEq, and_true] at f0 f1 f2 f3 f4
    subst f0 f1 f2 f3 f4
    have c0 := hcell 0 (by omega)
    have c1 := hcell 1 (by omega)
    have c2 := hcell 2 (by omega)
    have c3 := hcell 3 (by omega)
    have c4 := hcell 4 (by omega)
    rw [add_add] at c0 c1 c2 c3 c4
    exact ⟨⟨a0, a1, a2, a3, a4⟩, by simpa using c0, by simpa using c1, by simpa using c2, by simpa using c3, by simpa using c4, q0, q1, q2, q3, q4⟩
  obtain ⟨F, hF⟩ := choose_lt each
  have hlen : ((List.range len0).map F).length = len0 := by simp
  have hget : ∀ i, i < len0 → ((List.range len0).map F).getD i default = F i := fun i hi => by simp [List.getD_eq_getElem?_getD, hi]
  refine ⟨(List.range len0).map F, ⟨some a, cap0, by rw [hlen], by rw [hlen]; exact hl, hm, ?_⟩, fun i hi => ?_⟩
  ·by_cases h0 : len0 = 0
   ·exact .inl (by rw [hlen]; exact h0)
   ·obtain ⟨b, off, spot⟩ := a
    have hc := (hF 0 (by omega)).1
    have hspot : spot = none := by simpa [Addr.add] using World.cell?_spot hc
    subst hspot
    have hblk := World.block_lt_of_cell? W _ hc
    have e0 : ∀ i, (⟨b, off, none⟩ : Addr).add i = ⟨b, off + i, none⟩ := fun i => by unfold Addr.add; split <;> simp_all
    rw [e0] at hblk
    refine .inr ⟨b, off, rfl, hblk, fun i hi => ?_⟩
    rw [hlen] at hi
    rw [hget i hi]
    have h9 := hF i hi
    simp only [e0] at h9
    obtain ⟨u0, u1, u2, u3, u4, _⟩ := h9
    exact ⟨by first | exact u0 | simpa [Nat.add_assoc] using u0, by first | exact u1 | simpa [Nat.add_assoc] using u1, by first | exact u2 | simpa [Nat.add_assoc] using u2, by first | exact u3 | simpa [Nat.add_assoc] using u3, by first | exact u4 | simpa [Nat.add_assoc] using u4⟩
  ·rw [hlen] at hi
   rw [hget i hi]
   exact (hF i hi).2.2.2.2.2
end Go.Proofs.YtnhhnjmjodmacaaGreatDoor
