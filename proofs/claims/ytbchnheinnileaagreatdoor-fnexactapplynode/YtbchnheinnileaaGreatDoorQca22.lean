/- What the proof of the claim needs (joined by program): StL OpenS CopI MarkI Nod NodO NodQ. -/
import Derived.Test.YtbchnheinnileaaGreatDoorQca20
import Derived.Test.YtbchnheinnileaaGreatDoorQca00
import Derived.Test.YtbchnheinnileaaGreatDoorQca21
import Derived.Deep.RegionHeld3
import Derived.Deep.Fields
import Derived.Deep.Slices
namespace Go.Proofs.YtbchnheinnileaaGreatDoor
set_option maxRecDepth 100000
set_option maxHeartbeats 8000000
open Go.ChangeShapes Go.WideShapes Go.ChangeAt Go.RowKit
set_option linter.unusedVariables false
def ewTo (l : List En) : Nat → Int
 | 0 => 0
 | k + 1 => ewTo l k + ((l.getD k default).d.size : Int)
theorem ew_mono (l : List En) (i j : Nat) (h : i ≤ j) : ewTo l i ≤ ewTo l j := by
 induction j with
 | zero => obtain rfl : i = 0 := by omega
           exact Int.le_refl _
 | succ j ih =>
  by_cases e : i = j + 1
  ·subst e; exact Int.le_refl _
  ·have := ih (by omega)
   show _ ≤ ewTo l j + _
   omega
def eszR (L : Int) (l : List En) : Int := if (l.length : Int) + ewTo l l.length ≤ L then L - (l.length : Int) - ewTo l l.length else -1
def eszF (f : En) (left : Int) : Int := if left - (f.d.size : Int) < 0 then -1 else left - (f.d.size : Int)

theorem szEntryL_any (f : En) (left : Int) (w : World) (h0 : 0 ≤ left) (h1 : left ≤ 1048576) (hd : f.d.size ≤ maxLen) :
  Calls Tryz.prog 36 #[.agg #[.int .i64 f.t, .int .i64 f.k, .string f.d], .int .i64 left] w fun e w' => e = .returned (.int .i64 (eszF f left)) ∧ Below w.heap.size w w' := by
 obtain ⟨ft, fk, fd⟩ := f
 dsimp only at hd ⊢
 unfold maxLen at hd
 by_cases q1 : left - (fd.size : Int) < 0
 ·have E : Hid (eszF ⟨ft, fk, fd⟩ left = -1) := Hd (by unfold eszF; dsimp only; rw [if_pos (by omega)])
  go_enter Tryz.func36, Tryz.ntmps36
  go_wp2_with fail
  go_ret
  exact ⟨ret_int (uh E).symm, (Below.refl _ _).alloc (Nat.le_refl _) _⟩
 ·have E : Hid (eszF ⟨ft, fk, fd⟩ left = left - (fd.size : Int)) := Hd (by unfold eszF; dsimp only; rw [if_neg (by omega)])
  go_enter Tryz.func36, Tryz.ntmps36
  go_wp2_with fail
  go_ret
  exact ⟨ret_int (uh E).symm, (Below.refl _ _).alloc (Nat.le_refl _) _⟩

theorem szEntryS_any (L : Int) (hL0 : 0 ≤ L) (hL1 : L ≤ 1048576) (v : Value) (l : List En) (w : World) (h : Ens w v l) (hz : ∀ i, i < l.length → (l.getD i default).d.size ≤ maxLen) :
  Calls Tryz.prog 13 #[v, .int .i64 L] w fun e w' => e = .returned (.int .i64 (eszR L l)) ∧ Below w.heap.size w w' := by
 obtain ⟨a, cap, rfl, hn, hm, hc⟩ := h
 have HC := Hd hc
 have HZ := Hd hz
 have hlm : l.length ≤ 9223372036854775807 := by unfold maxLen at hm; omega
 clear hc hz hm hn
 have hw0 := ew_mono l 0 l.length (Nat.zero_le _)
 have hw00 : ewTo l 0 = 0 := rfl
 by_cases hl : L < l.length
 ·have E : Hid (eszR L l = -1) := Hd (by unfold eszR; rw [if_neg (by omega)])
  have hl2 : L - (l.length : Int) < 0 := by omega
  go_enter Tryz.func13, Tryz.ntmps13
  go_wp2_with fail
  go_ret
  exact ⟨ret_int (uh E).symm, Below.refl _ _⟩
 ·have hl2 : ¬ L - (l.length : Int) < 0 := by omega
  go_enter Tryz.func13, Tryz.ntmps13
  go_wp2_with fail
  go_loopw [1, 5] (fun lf i wr => ∃ (k : Nat) (x : Int), k ≤ l.length ∧ i = .int .i64 k ∧ lf = .int .i64 x ∧ x = L - (l.length : Int) - ewTo l k ∧ 0 ≤ x ∧ Below w.heap.size w wr) (fun _ i _ => l.length - (intOf i).toNat)
  case atStart => exact ⟨0, _, Nat.zero_le _, rfl, rfl, by rw [hw00]; omega, by omega, Below.refl _ _⟩
  case round =>
   obtain ⟨k, x, hk, rfl, rfl, hx, hx0, hb⟩ := hrel
   by_cases hlt : k < l.length
   ·obtain ⟨b, off, rfl, hbl, hsrc⟩ : ∃ b off, a = some ⟨b, off, none⟩ ∧ b < w.heap.size ∧ ∀ i, i < l.length → w.cell? ⟨b, off + i * 3, none⟩ = some (.int .i64 (l.getD i default).t) ∧ w.cell? ⟨b, off + i * 3 + 1, none⟩ = some (.int .i64 (l.getD i default).k) ∧ w.cell? ⟨b, off + i * 3 + 2, none⟩ = some (.string (l.getD i default).d) := by
     rcases uh HC with h0 | h1
     ·omega
     ·exact h1
    obtain ⟨s0, s1, s2⟩ := hsrc k hlt
    have c0 := (hb.cell (p := ⟨b, off + k * 3, none⟩) hbl).trans s0
    have c1 := (hb.cell (p := ⟨b, off + k * 3 + 1, none⟩) hbl).trans s1
    have c2 := (hb.cell (p := ⟨b, off + k * 3 + 2, none⟩) hbl).trans s2
    have hk0 : (0 : Int) ≤ (k : Int) := by omega
    have hk1 : (k : Int) < (l.length : Int) := by omega
    have hwk := ew_mono l 0 k (Nat.zero_le _)
    have hwl := ew_mono l (k + 1) l.length (by omega)
    have hws : ewTo l (k + 1) = ewTo l k + ((l.getD k default).d.size : Int) := rfl
    have hz := uh HZ k hlt
    have hx1 : x ≤ 1048576 := by omega
    have hbs := hb.size
    have HB := Hd hb
    clear hsrc s0 s1 s2 hb
    generalize l.getD k default = f at *
    have HSZ := Hd (fun wx => szEntryL_any f x wx hx0 hx1 hz)
    have HSF : Hid (eszF f x = if x - (f.d.size : Int) < 0 then -1 else x - (f.d.size : Int)) := rfl
    obtain ⟨r, hr⟩ : ∃ r, r = eszF f x := ⟨_, rfl⟩
    rw [← hr] at HSZ HSF
    have HW := Hd (And.intro hwl (And.intro hws hx))
    clear hr hwl hws hx hwk hw0 hw00 hz
    obtain ⟨ft, fk, fd⟩ := f
    dsimp only at c0 c1 c2 HSZ HSF HW
    go_wp2_with fail
    refine (uh HSZ wr).mono ?_
    rintro e w2 ⟨rfl, hb2⟩
    have HB2 := Hd ((uh HB).trans (hb2.mono hbs))
    clear hb2 HB HSZ
    by_cases hr0 : r < 0
    ·have E : Hid (eszR L l = -1) := Hd (by
      obtain ⟨h1, h2, h3⟩ := uh HW
      have h4 := uh HSF
      unfold eszR; rw [if_neg]
      split at h4 <;> omega)
     go_wp2_with fail
     go_ret
     exact ⟨ret_int (uh E).symm, uh HB2⟩
    ·go_wp2_with fail
     refine ⟨⟨k + 1, r, by omega, by go_num, rfl, ?_, by omega, uh HB2⟩, ?_⟩
     ·obtain ⟨h1, h2, h3⟩ := uh HW
      have h4 := uh HSF
      split at h4 <;> omega
     ·simp [intOf]; omega
   ·obtain rfl : k = l.length := by omega
    have E : Hid (eszR L l = x) := Hd (by unfold eszR; rw [if_pos (by omega)]; omega)
    have R := Hd hb
    clear hb hx
    go_wp2_with fail
    go_ret
    exact ⟨ret_int (uh E).symm, uh R⟩

theorem toEntryE_any (f : En) (w : World) :
  Calls Tryz.prog 43 #[.agg #[.int .i64 f.t, .int .i64 f.k, .string f.d]] w fun e w' => e = .returned (.agg #[.int .i64 f.t, .int .i64 f.k, .string f.d]) ∧ Below w.heap.size w w' := by
 obtain ⟨ft, fk, fd⟩ := f
 dsimp only
 go_enter Tryz.func43, Tryz.ntmps43
 go_wp2_with fail
 refine bodyPost_ret (v := .agg #[.int .i64 ft, .int .i64 fk, .string fd]) (by simp [results, Tryz.results43, go_sem]) rfl ⟨rfl, ?_⟩
 exact (((Below.refl _ _).alloc (Nat.le_refl _) _).alloc (by simp) _).alloc (by simp; omega) _

theorem ensC_len (l : List En) : (ensC l).length = l.length * 3 := by
 induction l with
 | nil => rfl
 | cons f r ih => simp only [ensC, List.flatMap_cons, List.length_append, List.length_cons] at ih ⊢; rw [ih]; simp [enC]; omega
theorem ensC_get : ∀ (l : List En) (i : Nat), i < l.length → (ensC l)[i * 3]? = some (.int .i64 (l.getD i default).t) ∧ (ensC l)[i * 3 + 1]? = some (.int .i64 (l.getD i default).k) ∧ (ensC l)[i * 3 + 2]? = some (.string (l.getD i default).d)
 | [], i, h => by simp at h
 | f :: r, 0, h => ⟨rfl, rfl, rfl⟩
 | f :: r, i + 1, h => by
  have ih := ensC_get r i (by simpa using h)
  have e : ensC (f :: r) = .int .i64 f.t :: .int .i64 f.k :: .string f.d :: ensC r := rfl
  rw [e, show (i + 1) * 3 = i * 3 + 1 + 1 + 1 by omega, show i * 3 + 1 + 1 + 1 + 1 = (i * 3 + 1) + 1 + 1 + 1 by omega, show i * 3 + 1 + 1 + 1 + 2 = (i * 3 + 2) + 1 + 1 + 1 by omega]
  simp only [List.getElem?_cons_succ, List.getD_cons_succ]
  exact ih
theorem ensC_set : ∀ (l : List En) (k : Nat) (f : En), k < l.length → (((ensC l).set (k * 3) (.int .i64 f.t)).set (k * 3 + 1) (.int .i64 f.k)).set (k * 3 + 2) (.string f.d) = ensC (l.set k f)
 | [], k, f, h => by simp at h
 | g :: r, 0, f, h => rfl
 | g :: r, k + 1, f, h => by
  have ih := ensC_set r k f (by simpa using h)
  have e : ∀ (g : En) (r : List En), ensC (g :: r) = .int .i64 g.t :: .int .i64 g.k :: .string g.d :: ensC r := fun _ _ => rfl
  rw [List.set_cons_succ, e, e, ← ih, show (k + 1) * 3 = k * 3 + 1 + 1 + 1 by omega, show k * 3 + 1 + 1 + 1 + 1 = (k * 3 + 1) + 1 + 1 + 1 by omega, show k * 3 + 1 + 1 + 1 + 2 = (k * 3 + 2) + 1 + 1 + 1 by omega]
  simp only [List.set_cons_succ]
theorem World.ownsRow_monoE {w : World} {base base' : Nat} {e : TypeId} {size : Nat} {v : Value} {n : Nat} {xs : List Value} (h : w.ownsRow base e size v n xs) (hb : base' ≤ base) : w.ownsRow base' e size v n xs := by
 obtain ⟨hl, hc⟩ := h
 refine ⟨hl, ?_⟩
 rcases hc with h0 | ⟨g, cap, cur, hv, hg, rest⟩
 ·exact .inl h0
 ·exact .inr ⟨g, cap, cur, hv, by omega, rest⟩
def OwnE (B : Nat) (w : World) (v : Value) (l : List En) : Prop := w.ownsRow B 75 3 v l.length (ensC l)
theorem OwnE.cells {B : Nat} {w : World} {g cap n : Nat} {l : List En} (h : w.ownsRow B 75 3 (.slice (some ⟨g, 0, none⟩) n cap) n (ensC l)) (i : Nat) (hi : i < l.length) (hn : n = l.length) :
  w.cell? ⟨g, i * 3, none⟩ = some (.int .i64 (l.getD i default).t) ∧ w.cell? ⟨g, i * 3 + 1, none⟩ = some (.int .i64 (l.getD i default).k) ∧ w.cell? ⟨g, i * 3 + 2, none⟩ = some (.string (l.getD i default).d) := by
 obtain ⟨e0, e1, e2⟩ := ensC_get l i hi
 exact ⟨(h.cellAt _ (by omega)).trans e0, (h.cellAt _ (by omega)).trans e1, (h.cellAt _ (by omega)).trans e2⟩
theorem OwnE.ens {B : Nat} {w : World} {v : Value} {l : List En} (h : OwnE B w v l) : Ens w v l := by
 rcases h.2 with ⟨rfl, h0⟩ | ⟨g, cap, cur, rfl, hb, hg, hn, hm, _⟩
 ·obtain rfl := List.eq_nil_of_length_eq_zero h0
  exact ⟨none, 0, rfl, Nat.le_refl _, by unfold maxLen; omega, .inl rfl⟩
 ·refine ⟨_, _, rfl, hn, hm, .inr ⟨g, 0, rfl, (Array.getElem?_eq_some_iff.1 hg).1, fun i hi => ?_⟩⟩
  have := OwnE.cells h i hi rfl
  simpa using this
theorem OwnE.kept {T : Nat → Prop} {B : Nat} {w w' : World} {v : Value} {l : List En} (h : OwnE B w v l) (ht : Touch T w w') (hn : ∀ k, v.ownBlock = some k → ¬ T k) : OwnE B w' v l := by
 obtain ⟨hl, hc⟩ := h
 refine ⟨hl, ?_⟩
 rcases hc with h0 | ⟨g, cap, cur, rfl, hb, hgg, rest⟩
 ·exact .inl h0
 ·exact .inr ⟨g, cap, cur, rfl, hb, (ht.block g (Array.getElem?_eq_some_iff.1 hgg).1 (hn g rfl)).trans hgg, rest⟩
theorem OwnE.below {B : Nat} {w w' : World} {v : Value} {l : List En} (h : OwnE B w v l) (hb : Below w.heap.size w w') : OwnE B w' v l := h.kept (T := fun _ => False) (Touch.ofBelow hb) (fun _ _ h => h)
theorem OwnE.drewN {B : Nat} {w : World} {v : Value} {l : List En} (h : OwnE B w v l) (n : Nat) : OwnE B (w.drewN n) v l := h.kept (T := fun _ => False) ((Touch.refl _ _).drewN n) (fun _ _ h => h)
theorem infoEn : (Tryz.prog.info? 75).map (fun i => (i.zero, i.size, i.bytes)) = some (some (.agg #[.int .i64 0, .int .i64 0, .string ⟨#[]⟩]), 3, 32) := by kernel_rfl

def zeroEn : En := ⟨0, 0, ⟨#[]⟩⟩
def fillE (l : List En) (k : Nat) : List En := (List.range l.length).map fun j => if j < k then l.getD j default else zeroEn
theorem fillE_len (l : List En) (k : Nat) : (fillE l k).length = l.length := by simp [fillE]
theorem fillE_all (l : List En) : fillE l l.length = l := by
 apply List.ext_getElem?
 intro j
 by_cases hj : j < l.length
 ·simp [fillE, hj, List.getD_eq_getElem?_getD]
 ·simp [fillE, hj]
theorem fillE_set (l : List En) (k : Nat) (hk : k < l.length) : (fillE l k).set k (l.getD k default) = fillE l (k + 1) := by
 apply List.ext_getElem?
 intro j
 rw [List.getElem?_set]
 simp only [fillE_len]
 by_cases e : k = j
 ·subst e
  rw [if_pos rfl, if_pos hk]
  simp [fillE, hk]
 ·rw [if_neg e]
  by_cases hj : j < l.length
  ·by_cases h1 : j < k
   ·simp [fillE, hj, h1, show j < k + 1 by omega]
   ·simp [fillE, hj, h1, show ¬ j < k + 1 by omega]
  ·simp [fillE, hj]
theorem made3e (a b c : Value) (n j : Nat) (hj : j < n) : (madeCells #[a, b, c] n).toList[j]? = some (if j % 3 = 0 then a else if j % 3 = 1 then b else c) := by
 have h3 : (#[a, b, c] : Array Value).size = 3 := rfl
 unfold madeCells
 rw [h3, Array.getElem?_toList, Array.getElem?_map]
 have hr : (Array.range n)[j]? = some j := by simp [hj]
 rw [hr, Option.map_some]
 rcases (show j % 3 = 0 ∨ j % 3 = 1 ∨ j % 3 = 2 by omega) with e | e | e
 ·rw [e]; rfl
 ·rw [e]; rfl
 ·rw [e]; rfl
theorem made_en (l : List En) : (madeCells (Value.agg #[.int .i64 0, .int .i64 0, .string ⟨#[]⟩]).cells (l.length * 3)).toList = ensC (fillE l 0) := by
 have hcs : (Value.agg #[.int .i64 0, .int .i64 0, .string ⟨#[]⟩]).cells = #[Value.int .i64 0, .int .i64 0, .string ⟨#[]⟩] := rfl
 rw [hcs]
 apply List.ext_getElem?
 intro j
 by_cases hj : j < l.length * 3
 ·have hq : j / 3 < (fillE l 0).length := by rw [fillE_len]; omega
  obtain ⟨g0, g1, g2⟩ := ensC_get (fillE l 0) (j / 3) hq
  have hz : (fillE l 0).getD (j / 3) default = zeroEn := by
   rw [fillE_len] at hq
   rw [List.getD_eq_getElem?_getD]
   simp [fillE, hq]
  rw [hz] at g0 g1 g2
  rw [made3e _ _ _ _ _ hj]
  rcases (show j % 3 = 0 ∨ j % 3 = 1 ∨ j % 3 = 2 by omega) with e | e | e
  ·rw [show j / 3 * 3 = j by omega] at g0; rw [g0, e]; rfl
  ·rw [show j / 3 * 3 + 1 = j by omega] at g1; rw [g1, e]; rfl
  ·rw [show j / 3 * 3 + 2 = j by omega] at g2; rw [g2, e]; rfl
 ·have e1 : (madeCells #[Value.int .i64 0, .int .i64 0, .string ⟨#[]⟩] (l.length * 3)).toList[j]? = none := List.getElem?_eq_none (by rw [Array.length_toList, size_madeCells]; omega)
  have e2 : (ensC (fillE l 0))[j]? = none := List.getElem?_eq_none (by rw [ensC_len, fillE_len]; omega)
  rw [e1, e2]

theorem toEntryS_any (v : Value) (l : List En) (w : World) (h : Ens w v l) (hs : l.length ≤ 1048576) :
  Calls Tryz.prog 18 #[v] w fun e w' => e = .returned (.slice (some ⟨w.heap.size, 0, none⟩) l.length l.length) ∧ OwnE w.heap.size w' (.slice (some ⟨w.heap.size, 0, none⟩) l.length l.length) l ∧ Below w.heap.size w w' := by
 obtain ⟨i0, hi, hz0, hz1, hz2⟩ := info_parts infoEn
 obtain ⟨a, cap, rfl, hn, hm, hc⟩ := h
 have HC := Hd hc
 clear hc hm hn
 go_enter Tryz.func18, Tryz.ntmps18
 go_wp2_with (at_make; refine wpList_make_full _ rfl _ _ 36 rfl w.heap.size 75 i0 _ 3 Tryz.underlying36 hi hz0 hz1 .i64 .i64 _ _ l.length rfl rfl rfl rfl (by rw [hz2]; omega) (by unfold maxLen; omega) (Nat.le_refl _) ?_; intro w1 hown1 hg1)
 rw [made_en] at hown1
 have HZ := Hd (And.intro hown1 ((Below.refl w.heap.size w).grown hg1 (Nat.le_refl _) (fun k h => by cases h)))
 clear hown1 hg1
 go_loopw [4] (fun i wr => ∃ k : Nat, k ≤ l.length ∧ i = .int .i64 k ∧ wr.ownsRow w.heap.size 75 3 (.slice (some ⟨w.heap.size, 0, none⟩) l.length l.length) l.length (ensC (fillE l k)) ∧ Below w.heap.size w wr) (fun i _ => l.length - (intOf i).toNat)
 case atStart => exact ⟨0, Nat.zero_le _, rfl, (uh HZ).1, (uh HZ).2⟩
 case round =>
  obtain ⟨k, hk, rfl, hL, hbel⟩ := hrel
  by_cases hlt : k < l.length
  ·obtain ⟨b, off, rfl, hbl, hsrc⟩ : ∃ b off, a = some ⟨b, off, none⟩ ∧ b < w.heap.size ∧ ∀ i, i < l.length → w.cell? ⟨b, off + i * 3, none⟩ = some (.int .i64 (l.getD i default).t) ∧ w.cell? ⟨b, off + i * 3 + 1, none⟩ = some (.int .i64 (l.getD i default).k) ∧ w.cell? ⟨b, off + i * 3 + 2, none⟩ = some (.string (l.getD i default).d) := by
    rcases uh HC with h0 | h1
    ·omega
    ·exact h1
   obtain ⟨s0, s1, s2⟩ := hsrc k hlt
   have c0 := (hbel.cell (p := ⟨b, off + k * 3, none⟩) hbl).trans s0
   have c1 := (hbel.cell (p := ⟨b, off + k * 3 + 1, none⟩) hbl).trans s1
   have c2 := (hbel.cell (p := ⟨b, off + k * 3 + 2, none⟩) hbl).trans s2
   have hk0 : (0 : Int) ≤ (k : Int) := by omega
   have hk1 : (k : Int) < (l.length : Int) := by omega
   have hbs := hbel.size
   have HL := Hd hL
   have HB := Hd hbel
   clear hsrc s0 s1 s2 hL hbel
   obtain ⟨f, hf⟩ : ∃ f, f = l.getD k default := ⟨_, rfl⟩
   rw [← hf] at c0 c1 c2
   have HFe := Hd hf
   clear hf
   have HT := Hd (fun wx => toEntryE_any f wx)
   obtain ⟨ft, fk, fd⟩ := f
   dsimp only at c0 c1 c2 HT
   go_wp2_with fail
   refine (uh HT wr).mono ?_
   rintro e w2 ⟨rfl, hb2⟩
   have hO : w2.ownsRow w.heap.size 75 3 (.slice (some ⟨w.heap.size, 0, none⟩) l.length l.length) l.length (ensC (fillE l k)) := by
    obtain ⟨hl, hc⟩ := uh HL
    refine ⟨hl, ?_⟩
    rcases hc with h0 | ⟨g, cap, cur, hv, hb, hgg, rest⟩
    ·exact .inl h0
    ·exact .inr ⟨g, cap, cur, hv, hb, (hb2.block g (Array.getElem?_eq_some_iff.1 hgg).1).trans hgg, rest⟩
   have hB2 := (uh HB).trans (hb2.mono hbs)
   obtain ⟨d0, d1, d2⟩ := OwnE.cells hO k (by rw [fillE_len]; exact hlt) (fillE_len l k).symm
   have f0 := hO.frozenAt (k * 3)
   have f1 := hO.frozenAt (k * 3 + 1)
   have f2 := hO.frozenAt (k * 3 + 2)
   have q0 := (hO.stored (k * 3) (.int .i64 ft)).1
   have q1 := (q0.stored (k * 3 + 1) (.int .i64 fk)).1
   have q2 := (q1.stored (k * 3 + 2) (.string fd)).1
   have hset : (((ensC (fillE l k)).set (k * 3) (.int .i64 ft)).set (k * 3 + 1) (.int .i64 fk)).set (k * 3 + 2) (.string fd) = ensC (fillE l (k + 1)) := by
    have h1 := ensC_set (fillE l k) k ⟨ft, fk, fd⟩ (by rw [fillE_len]; exact hlt)
    dsimp only at h1
    rw [h1, ← fillE_set l k hlt, ← uh HFe]
   rw [hset] at q2
   have R := Hd (And.intro q2 (((hB2.setCell (p := ⟨w.heap.size, k * 3, none⟩) (Nat.le_refl _) (.int .i64 ft)).setCell (p := ⟨w.heap.size, k * 3 + 1, none⟩) (Nat.le_refl _) (.int .i64 fk)).setCell (p := ⟨w.heap.size, k * 3 + 2, none⟩) (Nat.le_refl _) (.string fd)))
   clear q0 q1 q2 hset hO hB2 hb2 HT HL HB
   go_wp2_with fail
   refine ⟨⟨k + 1, by omega, by go_num, (uh R).1, (uh R).2⟩, ?_⟩
   simp [intOf]; omega
  ·obtain rfl : k = l.length := by omega
   rw [fillE_all] at hL
   have R := Hd (And.intro hL hbel)
   clear hL hbel
   go_wp2_with fail
   go_ret
   exact ⟨rfl, (uh R).1, (uh R).2⟩

theorem eqEntry_any (f : En) (w : World) :
  Calls Tryz.prog 55 #[.agg #[.int .i64 f.t, .int .i64 f.k, .string f.d], .agg #[.int .i64 f.t, .int .i64 f.k, .string f.d]] w fun e w' => e = .returned (.bool true) ∧ Below w.heap.size w w' := by
 obtain ⟨ft, fk, fd⟩ := f
 dsimp only
 go_enter Tryz.func55, Tryz.ntmps55
 go_wp2_with fail
 go_ret
 exact ⟨rfl, ((Below.refl _ _).alloc (Nat.le_refl _) _).alloc (by simp) _⟩

theorem eqEntryS_any (v v2 : Value) (l : List En) (w : World) (h : Ens w v l) (h2 : Ens w v2 l) (hs : l.length ≤ 1048576) :
  Calls Tryz.prog 26 #[v, v2] w fun e w' => e = .returned (.bool true) ∧ Below w.heap.size w w' := by
 obtain ⟨a, cap, rfl, hn, hm, hc⟩ := h
 obtain ⟨a2, cap2, rfl, hn2, hm2, hc2⟩ := h2
 have HC := Hd hc
 have HC2 := Hd hc2
 clear hc hm hc2 hm2 hn hn2
 go_enter Tryz.func26, Tryz.ntmps26
 go_wp2_with fail
 go_loopw [5] (fun i wr => ∃ k : Nat, k ≤ l.length ∧ i = .int .i64 k ∧ Below w.heap.size w wr) (fun i _ => l.length - (intOf i).toNat)
 case atStart => exact ⟨0, Nat.zero_le _, rfl, Below.refl _ _⟩
 case round =>
  obtain ⟨k, hk, rfl, hb⟩ := hrel
  by_cases hlt : k < l.length
  ·obtain ⟨b, off, rfl, hbl, hsrc⟩ : ∃ b off, a = some ⟨b, off, none⟩ ∧ b < w.heap.size ∧ ∀ i, i < l.length → w.cell? ⟨b, off + i * 3, none⟩ = some (.int .i64 (l.getD i default).t) ∧ w.cell? ⟨b, off + i * 3 + 1, none⟩ = some (.int .i64 (l.getD i default).k) ∧ w.cell? ⟨b, off + i * 3 + 2, none⟩ = some (.string (l.getD i default).d) := by
    rcases uh HC with h0 | h1
    ·omega
    ·exact h1
   obtain ⟨b2, off2, rfl, hbl2, hsrc2⟩ : ∃ b off, a2 = some ⟨b, off, none⟩ ∧ b < w.heap.size ∧ ∀ i, i < l.length → w.cell? ⟨b, off + i * 3, none⟩ = some (.int .i64 (l.getD i default).t) ∧ w.cell? ⟨b, off + i * 3 + 1, none⟩ = some (.int .i64 (l.getD i default).k) ∧ w.cell? ⟨b, off + i * 3 + 2, none⟩ = some (.string (l.getD i default).d) := by
    rcases uh HC2 with h0 | h1
    ·omega
    ·exact h1
   obtain ⟨s0, s1, s2⟩ := hsrc k hlt
   obtain ⟨t0, t1, t2⟩ := hsrc2 k hlt
   have c0 := (hb.cell (p := ⟨b, off + k * 3, none⟩) hbl).trans s0
   have c1 := (hb.cell (p := ⟨b, off + k * 3 + 1, none⟩) hbl).trans s1
   have c2 := (hb.cell (p := ⟨b, off + k * 3 + 2, none⟩) hbl).trans s2
   have d0 := (hb.cell (p := ⟨b2, off2 + k * 3, none⟩) hbl2).trans t0
   have d1 := (hb.cell (p := ⟨b2, off2 + k * 3 + 1, none⟩) hbl2).trans t1
   have d2 := (hb.cell (p := ⟨b2, off2 + k * 3 + 2, none⟩) hbl2).trans t2
   have hk0 : (0 : Int) ≤ (k : Int) := by omega
   have hk1 : (k : Int) < (l.length : Int) := by omega
   have hbs := hb.size
   have HB := Hd hb
   clear hsrc hsrc2 s0 s1 s2 t0 t1 t2 hb
   generalize l.getD k default = f at *
   have HT := Hd (fun wx => eqEntry_any f wx)
   obtain ⟨ft, fk, fd⟩ := f
   dsimp only at c0 c1 c2 d0 d1 d2 HT
   go_wp2_with fail
   go_region_held3 (fun wx => wx.cell? ⟨b, off + k * 3, none⟩ = some (.int .i64 ft) ∧ wx.cell? ⟨b, off + k * 3 + 1, none⟩ = some (.int .i64 fk) ∧ wx.cell? ⟨b, off + k * 3 + 2, none⟩ = some (.string fd) ∧ wx.cell? ⟨b2, off2 + k * 3, none⟩ = some (.int .i64 ft) ∧ wx.cell? ⟨b2, off2 + k * 3 + 1, none⟩ = some (.int .i64 fk) ∧ wx.cell? ⟨b2, off2 + k * 3 + 2, none⟩ = some (.string fd))
    (first | go_keep | exact ⟨(hb2.cell (p := ⟨b, off + k * 3, none⟩) (by simp; omega)).trans c0, (hb2.cell (p := ⟨b, off + k * 3 + 1, none⟩) (by simp; omega)).trans c1, (hb2.cell (p := ⟨b, off + k * 3 + 2, none⟩) (by simp; omega)).trans c2, (hb2.cell (p := ⟨b2, off2 + k * 3, none⟩) (by simp; omega)).trans d0, (hb2.cell (p := ⟨b2, off2 + k * 3 + 1, none⟩) (by simp; omega)).trans d1, (hb2.cell (p := ⟨b2, off2 + k * 3 + 2, none⟩) (by simp; omega)).trans d2⟩)
    ((go_at_call 55; refine (uh HT _).mono ?_; rintro e w2 ⟨rfl, hb2⟩))
   all_goals
    have HBZ := Hd ((uh HB).trans (show Below w.heap.size wr w2 from (below_drewN (Below.refl _ wr) 1).trans (hb2.mono (by simpa using hbs))))
    clear hb2 HB
    go_wp2_with fail
    refine ⟨⟨k + 1, by omega, by go_num, uh HBZ⟩, ?_⟩
    simp [intOf]; omega
  ·have HB := Hd hb
   clear hb
   go_wp2_with fail
   go_ret
   exact ⟨rfl, uh HB⟩

end Go.Proofs.YtbchnheinnileaaGreatDoor
namespace Go.Proofs.YtbchnheinnileaaGreatDoor
set_option maxRecDepth 100000
set_option maxHeartbeats 8000000
open Go.ChangeShapes Go.WideShapes Go.ChangeAt Go.RowKit Go.Deep
set_option linter.unusedVariables false
theorem open_entries {H : Type} {enc : TypeId × Value → H} {W : World} {base : Nat} {sp : Nat → Bool} {held : Bool} {fuel : Nat} {c : Value} {x : DataW H × List MemPlace}
  (h : DataW.trod enc Tryz.prog W base sp held fuel 22 [c] = some x) :
  ∃ l : List En, Ens W c l ∧ ∀ i, i < l.length → (l.getD i default).d.size ≤ maxLen := by
 have i3 : Tryz.prog.cellsOf 3 = 1 := by kernel_rfl
 have i9 : Tryz.prog.cellsOf 9 = 1 := by kernel_rfl
 have iF : Tryz.prog.cellsOf 68 = 3 := by kernel_rfl
 rcases open_slice Tryz.underlying22 h with ⟨hc, _⟩ | ⟨a, len, cap, m, n, D, Pl, hc, hb, hl, hm, hmm, _, hx⟩
 ·simp only [List.cons.injEq, and_true] at hc
  subst hc
  exact ⟨[], ⟨none, 0, rfl, Nat.le_refl _, by unfold maxLen; omega, .inl rfl⟩, fun i hi => by simp at hi⟩
 ·simp only [List.cons.injEq, and_true] at hc
  subst hc
  have hlm : len ≤ m := by rw [hmm]; split <;> omega
  rw [iF] at hx
  have each : ∀ i, i < len → ∃ f : En, W.cell? (a.add (i * 3)) = some (.int .i64 f.t) ∧ W.cell? (a.add (i * 3 + 1)) = some (.int .i64 f.k) ∧ W.cell? (a.add (i * 3 + 2)) = some (.string f.d) ∧ f.d.size ≤ maxLen := by
   intro i hi
   obtain ⟨cs', h1, h2⟩ := hx i (by omega)
   obtain ⟨_, hlen, hcell⟩ := World.cells?_some h1
   obtain ⟨xs, k, hk, hxy, _, hxl, hf⟩ := DataW.trod_struct Tryz.underlying68 h2
   match cs', hlen with
   | [v0, v1, v2], _ =>
    obtain ⟨y0, e0⟩ := get_some hxl (show 0 < 3 by omega)
    obtain ⟨y1, e1⟩ := get_some hxl (show 1 < 3 by omega)
    obtain ⟨y2, e2⟩ := get_some hxl (show 2 < 3 by omega)
    have g0 : DataW.trod enc Tryz.prog W base sp held k 3 [v0] = some y0 := by simpa [Value.cells, i3] using (hf 0 _ rfl).trans e0
    have g1 : DataW.trod enc Tryz.prog W base sp held k 3 [v1] = some y1 := by simpa [Value.cells, i3] using (hf 1 _ rfl).trans e1
    have g2 : DataW.trod enc Tryz.prog W base sp held k 9 [v2] = some y2 := by simpa [Value.cells, i9] using (hf 2 _ rfl).trans e2
    obtain ⟨a0, f0, _, q0⟩ := DataW.trod_int Tryz.underlying3 g0
    obtain ⟨a1, f1, _, q1⟩ := DataW.trod_int Tryz.underlying3 g1
    obtain ⟨a2, f2, _, q2⟩ := DataW.trod_string Tryz.underlying9 g2
    simp only [List.cons.injEq, and_true] at f0 f1 f2
    subst f0 f1 f2
    have c0 := hcell 0 (by omega)
    have c1 := hcell 1 (by omega)
    have c2 := hcell 2 (by omega)
    rw [add_add] at c0 c1 c2
    exact ⟨⟨a0, a1, a2⟩, by simpa using c0, by simpa using c1, by simpa using c2, q2⟩
  obtain ⟨F, hF⟩ := choose_lt each
  have hlen : ((List.range len).map F).length = len := by simp
  have hget : ∀ i, i < len → ((List.range len).map F).getD i default = F i := fun i hi => by simp [List.getD_eq_getElem?_getD, hi]
  refine ⟨(List.range len).map F, ⟨some a, cap, by rw [hlen], by rw [hlen]; exact hl, hm, ?_⟩, fun i hi => ?_⟩
  ·by_cases h0 : len = 0
   ·exact .inl (by rw [hlen]; exact h0)
   ·obtain ⟨b, off, spot⟩ := a
    have hc := (hF 0 (by omega)).1
    have hspot : spot = none := by simpa [Addr.add] using World.cell?_spot hc
    subst hspot
    have hblk := World.block_lt_of_cell? W _ hc
    have e0 : ∀ i, (⟨b, off, none⟩ : Addr).add i = ⟨b, off + i, none⟩ := fun i => by unfold Addr.add; split <;> simp_all
    rw [e0] at hblk
    refine .inr ⟨b, off, rfl, hblk, fun i hi => ?_⟩
    rw [hlen] at hi
    obtain ⟨k0, k1, k2, _⟩ := hF i hi
    rw [e0] at k0 k1 k2
    rw [hget i hi]
    exact ⟨k0, by rw [Nat.add_assoc]; exact k1, by rw [Nat.add_assoc]; exact k2⟩
  ·rw [hlen] at hi
   rw [hget i hi]
   exact (hF i hi).2.2.2
theorem esmall_of (L : Int) (hL : L ≤ 1048576) (l : List En) (h : 0 ≤ eszR L l) : l.length ≤ 1048576 ∧ ∀ i, (l.getD i default).d.size ≤ 1048576 := by
 have h1 : (l.length : Int) + ewTo l l.length ≤ L := by
  unfold eszR at h
  split at h
  ·assumption
  ·omega
 have hw0 := ew_mono l 0 l.length (Nat.zero_le _)
 have hw00 : ewTo l 0 = 0 := rfl
 refine ⟨by omega, fun i => ?_⟩
 by_cases hi : i < l.length
 ·have e2 : ewTo l (i + 1) = ewTo l i + ((l.getD i default).d.size : Int) := rfl
  have := ew_mono l (i + 1) l.length (by omega)
  have := ew_mono l 0 i (Nat.zero_le _)
  omega
 ·rw [List.getD_eq_getElem?_getD, List.getElem?_eq_none (by omega)]
  have e : (default : En).d.size = 0 := rfl
  simp only [Option.getD_none]
  omega
theorem eszR_cases (L : Int) (l : List En) : eszR L l = -1 ∨ (0 ≤ eszR L l ∧ eszR L l ≤ L) := by
 have hw0 := ew_mono l 0 l.length (Nat.zero_le _)
 have hw00 : ewTo l 0 = 0 := rfl
 unfold eszR; split
 ·right; omega
 ·left; rfl
end Go.Proofs.YtbchnheinnileaaGreatDoor
namespace Go.Proofs.YtbchnheinnileaaGreatDoor
set_option maxRecDepth 100000
set_option maxHeartbeats 8000000
open Go.ChangeShapes Go.WideShapes Go.ChangeAt Go.RowKit
set_option linter.unusedVariables false
def copyF (l : List Int) (k j : Nat) : Int := if j < k then l.getD j 0 else 0
theorem toIntS_at (v : Value) (l : List Int) (w : World) (h : Ints w v l) (hs : l.length ≤ 1048576) :
  Calls Tryz.prog 19 #[v] w fun e w' => e = .returned (.slice (some ⟨w.heap.size, 0, none⟩) l.length l.length) ∧ OwnI w.heap.size w' (.slice (some ⟨w.heap.size, 0, none⟩) l.length l.length) l ∧ Below w.heap.size w w' := by
 obtain ⟨i0, hi, hz0, hz1, hz2⟩ := info_parts info3
 obtain ⟨a, cap, rfl, hm, hc⟩ := h
 have HC := Hd hc
 clear hc hm
 go_enter Tryz.func19, Tryz.ntmps19
 go_wp2_with (at_make; refine wpList_make_full _ rfl _ _ 23 rfl w.heap.size 3 i0 _ 1 Tryz.underlying23 hi hz0 hz1 .i64 .i64 _ _ l.length rfl rfl rfl rfl (by rw [hz2]; omega) (by unfold maxLen; omega) (Nat.le_refl _) ?_; intro w1 hown1 hg1)
 have hz : LaidI w1 w.heap.size l.length (copyF l 0) l.length := by
  obtain ⟨hl1, hc1⟩ := hown1
  rcases hc1 with ⟨hv, _⟩ | ⟨g', cap', cur, hv, hb, hg, hn, hm, hs1, ht⟩
  ·cases hv
  ·cases hv
   refine ⟨cur, hg, by simpa using hs1, hn, fun j hj => ?_⟩
   have e := congrArg (fun z : List Value => z[j]?) ht
   have e3 : (Value.int IntKind.i64 0).cells = #[Value.int IntKind.i64 0] := rfl
   rw [e3, Nat.mul_one, toList_madeCells_one] at e
   simp only [List.getElem?_take, if_pos hj, Array.getElem?_toList] at e
   rw [e]; simp [hj, copyF]
 have HZ := Hd (And.intro hz ((Below.refl w.heap.size w).grown hg1 (Nat.le_refl _) (fun k h => by cases h)))
 clear hown1 hg1 hz
 go_loopw [4] (fun i wr => ∃ k : Nat, k ≤ l.length ∧ i = .int .i64 k ∧ LaidI wr w.heap.size l.length (copyF l k) l.length ∧ Below w.heap.size w wr) (fun i _ => l.length - (intOf i).toNat)
 case atStart => exact ⟨0, Nat.zero_le _, rfl, (uh HZ).1, (uh HZ).2⟩
 case round =>
  obtain ⟨k, hk, rfl, hL, hbel⟩ := hrel
  by_cases hlt : k < l.length
  ·obtain ⟨b, off, rfl, hbl, hsrc⟩ : ∃ b off, a = some ⟨b, off, none⟩ ∧ b < w.heap.size ∧ ∀ i, i < l.length → w.cell? ⟨b, off + i, none⟩ = some (.int .i64 (l.getD i 0)) := by
    rcases uh HC with h0 | h1
    ·omega
    ·exact h1
   have hs1 : wr.cell? ⟨b, off + k, none⟩ = some (.int .i64 (l.getD k 0)) := (hbel.cell (p := ⟨b, off + k, none⟩) hbl).trans (hsrc k hlt)
   have hk0 : (0 : Int) ≤ (k : Int) := by omega
   have hk1 : (k : Int) < (l.length : Int) := by omega
   obtain ⟨d1, d2⟩ := hL.cell k hlt
   have R := Hd (And.intro (hL.set (f' := copyF l (k + 1)) k (l.getD k 0) hlt (by unfold copyF; rw [if_pos (by omega)]) (fun j hj => by
    unfold copyF
    by_cases h1 : j < k
    ·rw [if_pos h1, if_pos (by omega)]
    ·rw [if_neg h1, if_neg (by omega)])) (hbel.setCell (p := ⟨w.heap.size, k, none⟩) (Nat.le_refl _) (.int .i64 (l.getD k 0))))
   clear hL hbel hsrc
   generalize l.getD k 0 = x at *
   go_wp2_with fail
   refine ⟨⟨k + 1, by omega, by go_num, (uh R).1, (uh R).2⟩, ?_⟩
   simp [intOf]; omega
  ·obtain rfl : k = l.length := by omega
   have R := Hd (And.intro (LaidI.own (B := w.heap.size) hL (fun j hj => by unfold copyF; rw [if_pos hj]) (Nat.le_refl _) (by unfold maxLen; omega)) hbel)
   clear hL hbel
   go_wp2_with fail
   go_ret
   exact ⟨rfl, (uh R).1, (uh R).2⟩
theorem eqIntS_any (v v2 : Value) (l : List Int) (w : World) (h : Ints w v l) (h2 : Ints w v2 l) (hs : l.length ≤ 1048576) :
  Calls Tryz.prog 27 #[v, v2] w fun e w' => e = .returned (.bool true) ∧ ∃ n, w' = w.drewN n := by
 obtain ⟨a, cap, rfl, hm, hc⟩ := h
 obtain ⟨a2, cap2, rfl, hm2, hc2⟩ := h2
 have HC := Hd hc
 have HC2 := Hd hc2
 clear hc hm hc2 hm2
 go_enter Tryz.func27, Tryz.ntmps27
 go_wp2_with fail
 go_loopw [5] (fun i wr => ∃ k n : Nat, k ≤ l.length ∧ i = .int .i64 k ∧ wr = w.drewN n) (fun i _ => l.length - (intOf i).toNat)
 case atStart => exact ⟨0, 0, Nat.zero_le _, rfl, rfl⟩
 case round =>
  obtain ⟨k, n, hk, rfl, rfl⟩ := hrel
  by_cases hlt : k < l.length
  ·obtain ⟨b, off, rfl, hbl, hsrc⟩ : ∃ b off, a = some ⟨b, off, none⟩ ∧ b < w.heap.size ∧ ∀ i, i < l.length → w.cell? ⟨b, off + i, none⟩ = some (.int .i64 (l.getD i 0)) := by
    rcases uh HC with h0 | h1
    ·omega
    ·exact h1
   obtain ⟨b2, off2, rfl, hbl2, hsrc2⟩ : ∃ b off, a2 = some ⟨b, off, none⟩ ∧ b < w.heap.size ∧ ∀ i, i < l.length → w.cell? ⟨b, off + i, none⟩ = some (.int .i64 (l.getD i 0)) := by
    rcases uh HC2 with h0 | h1
    ·omega
    ·exact h1
   have hs1 : w.cell? ⟨b, off + k, none⟩ = some (.int .i64 (l.getD k 0)) := hsrc k hlt
   have hs2 : w.cell? ⟨b2, off2 + k, none⟩ = some (.int .i64 (l.getD k 0)) := hsrc2 k hlt
   have hk0 : (0 : Int) ≤ (k : Int) := by omega
   have hk1 : (k : Int) < (l.length : Int) := by omega
   clear hsrc hsrc2
   generalize l.getD k 0 = x at *
   go_wp2_with fail
   go_quiet (fail)
   go_wp2_with fail
   refine ⟨⟨k + 1, n + nq, by omega, by go_num, rfl⟩, ?_⟩
   simp [intOf]; omega
  ·go_wp2_with fail
   go_ret
   exact ⟨rfl, n, rfl⟩
end Go.Proofs.YtbchnheinnileaaGreatDoor
namespace Go.Proofs.YtbchnheinnileaaGreatDoor
set_option maxRecDepth 100000
set_option maxHeartbeats 8000000
open Go.ChangeShapes Go.WideShapes Go.ChangeAt Go.RowKit Go.Deep
set_option linter.unusedVariables false
structure NoR (w : World) (lv sv vv nv mv : Value) (lg : List En) (st vs nx mt : List Int) : Prop where
 lg : Ens w lv lg
 st : Ints w sv st
 vs : Ints w vv vs
 nx : Ints w nv nx
 mt : Ints w mv mt
theorem NoR.below {w w' : World} {lv sv vv nv mv : Value} {lg : List En} {st vs nx mt : List Int} (h : NoR w lv sv vv nv mv lg st vs nx mt) (hb : Below w.heap.size w w') : NoR w' lv sv vv nv mv lg st vs nx mt :=
 ⟨h.lg.below hb, h.st.below hb, h.vs.below hb, h.nx.below hb, h.mt.below hb⟩
theorem Ints.shape {w : World} {v : Value} {l : List Int} (h : Ints w v l) : ∃ a c, v = .slice a l.length c := by
 obtain ⟨a, c, h1, _⟩ := h
 exact ⟨a, c, h1⟩
theorem Ens.shape {w : World} {v : Value} {l : List En} (h : Ens w v l) : ∃ a c, v = .slice a l.length c := by
 obtain ⟨a, c, h1, _⟩ := h
 exact ⟨a, c, h1⟩
abbrev Apart (a b : Value) : Prop := ∀ k, a.ownBlock = some k → b.ownBlock ≠ some k
structure NoO (B : Nat) (w : World) (lv sv vv nv mv : Value) (lg : List En) (st vs nx mt : List Int) : Prop where
 lg : OwnE B w lv lg
 st : OwnI B w sv st
 vs : OwnI B w vv vs
 nx : OwnI B w nv nx
 mt : OwnI B w mv mt
 ap : [lv, sv, vv, nv, mv].Pairwise Apart
theorem NoO.read {B : Nat} {w : World} {lv sv vv nv mv : Value} {lg : List En} {st vs nx mt : List Int} (h : NoO B w lv sv vv nv mv lg st vs nx mt) : NoR w lv sv vv nv mv lg st vs nx mt :=
 ⟨h.lg.ens, h.st.ints, h.vs.ints, h.nx.ints, h.mt.ints⟩
theorem NoO.kept {T : Nat → Prop} {B : Nat} {w w' : World} {lv sv vv nv mv : Value} {lg : List En} {st vs nx mt : List Int} (h : NoO B w lv sv vv nv mv lg st vs nx mt) (ht : Touch T w w') (hn : ∀ k, T k → k < w.heap.size → k < B) : NoO B w' lv sv vv nv mv lg st vs nx mt :=
 ⟨h.lg.kept ht (fun k hk e => by have := World.ownsRow.lt h.lg k hk; have := hn k e this.2; omega), h.st.kept ht (fun k hk e => by have := h.st.lt k hk; have := hn k e this.2; omega), h.vs.kept ht (fun k hk e => by have := h.vs.lt k hk; have := hn k e this.2; omega), h.nx.kept ht (fun k hk e => by have := h.nx.lt k hk; have := hn k e this.2; omega), h.mt.kept ht (fun k hk e => by have := h.mt.lt k hk; have := hn k e this.2; omega), h.ap⟩
theorem NoO.below {B : Nat} {w w' : World} {lv sv vv nv mv : Value} {lg : List En} {st vs nx mt : List Int} (h : NoO B w lv sv vv nv mv lg st vs nx mt) (hb : Below w.heap.size w w') : NoO B w' lv sv vv nv mv lg st vs nx mt :=
 ⟨h.lg.below hb, h.st.below hb, h.vs.below hb, h.nx.below hb, h.mt.below hb, h.ap⟩
theorem NoO.drewN {B : Nat} {w : World} {lv sv vv nv mv : Value} {lg : List En} {st vs nx mt : List Int} (h : NoO B w lv sv vv nv mv lg st vs nx mt) (n : Nat) : NoO B (w.drewN n) lv sv vv nv mv lg st vs nx mt :=
 ⟨h.lg.drewN n, h.st.drewN n, h.vs.drewN n, h.nx.drewN n, h.mt.drewN n, h.ap⟩
def iszR (L : Int) (n : Nat) : Int := if L - (n : Int) < 0 then -1 else L - (n : Int)
theorem iszR_cases (L : Int) (n : Nat) : iszR L n = -1 ∨ (0 ≤ iszR L n ∧ iszR L n = L - (n : Int)) := by
 unfold iszR; split
 ·left; rfl
 ·right; omega
theorem szIntS_any (L : Int) (hL0 : 0 ≤ L) (hL1 : L ≤ 1048576) (a : Option Addr) (n cap : Nat) (w : World) (hn : n ≤ maxLen) :
  Calls Tryz.prog 14 #[.slice a n cap, .int .i64 L] w fun e w' => e = .returned (.int .i64 (iszR L n)) ∧ w' = w := by
 unfold maxLen at hn
 by_cases q : L - (n : Int) < 0
 ·have E : Hid (iszR L n = -1) := Hd (by unfold iszR; rw [if_pos q])
  go_enter Tryz.func14, Tryz.ntmps14
  go_wp2_with fail
  go_ret
  exact ⟨ret_int (uh E).symm, rfl⟩
 ·have E : Hid (iszR L n = L - (n : Int)) := Hd (by unfold iszR; rw [if_neg q])
  go_enter Tryz.func14, Tryz.ntmps14
  go_wp2_with fail
  go_ret
  exact ⟨ret_int (uh E).symm, rfl⟩
def noszR (L : Int) (lg : List En) (a b c d : Nat) : Int :=
 if eszR L lg < 0 then -1 else if iszR (eszR L lg) a < 0 then -1 else if iszR (iszR (eszR L lg) a) b < 0 then -1 else if iszR (iszR (iszR (eszR L lg) a) b) c < 0 then -1 else iszR (iszR (iszR (iszR (eszR L lg) a) b) c) d
structure NoS (lg : List En) (st vs nx mt : List Int) : Prop where
 l0 : lg.length ≤ 1048576
 dt : ∀ i, (lg.getD i default).d.size ≤ 1048576
 l1 : st.length ≤ 1048576
 l2 : vs.length ≤ 1048576
 l3 : nx.length ≤ 1048576
 l4 : mt.length ≤ 1048576
theorem noszR_cases (L : Int) (hL : L ≤ 1048576) (lg : List En) (st vs nx mt : List Int) : noszR L lg st.length vs.length nx.length mt.length = -1 ∨ (0 ≤ noszR L lg st.length vs.length nx.length mt.length ∧ noszR L lg st.length vs.length nx.length mt.length ≤ L ∧ NoS lg st vs nx mt) := by
 unfold noszR
 rcases eszR_cases L lg with h | ⟨h, hl⟩
 ·left; rw [h]; rfl
 have hs := esmall_of L hL lg h
 rw [if_neg (by omega)]
 generalize eszR L lg = r0 at *
 rcases iszR_cases r0 st.length with h1 | ⟨h1, e1⟩
 ·left; rw [h1]; rfl
 rw [if_neg (by omega)]
 generalize iszR r0 st.length = r1 at *
 rcases iszR_cases r1 vs.length with h2 | ⟨h2, e2⟩
 ·left; rw [h2]; rfl
 rw [if_neg (by omega)]
 generalize iszR r1 vs.length = r2 at *
 rcases iszR_cases r2 nx.length with h3 | ⟨h3, e3⟩
 ·left; rw [h3]; rfl
 rw [if_neg (by omega)]
 generalize iszR r2 nx.length = r3 at *
 rcases iszR_cases r3 mt.length with h4 | ⟨h4, e4⟩
 ·left; exact h4
 ·exact .inr ⟨h4, by omega, ⟨hs.1, hs.2, by omega, by omega, by omega, by omega⟩⟩
def risB (l : List Int) : Bool := decide (l.length = 0 ∨ mFault l = 0)
def toldI (nx mt : List Int) (e : Int) (i : Nat) : Bool := inB (nx.getD i 0) 1 (e + 1) && inB (mt.getD i 0) 0 (nx.getD i 0 - 1)
def toldB (nx mt : List Int) (e : Int) : Bool := decide (nx.length = 7) && decide (mt.length = 7) && (List.range 7).all (toldI nx mt e)
def nodeB (id tm vo ro cm el wt : Int) (up : Bool) (lg : List En) (st vs nx mt : List Int) : Bool :=
 inB id 0 6 && (stateB tm vo lg && (decide (mFault st = 0) && (inB ro 0 2 && (risB vs && (toldB nx mt lg.length && (inB cm 0 lg.length && (inB el 0 1000 && (inB wt 5 100 && (up || decide (ro = 0))))))))))
theorem told_bad {nx mt : List Int} {e : Int} {k : Nat} (hk : k < 7) (h : toldI nx mt e k = false) : toldB nx mt e = false := by
 have : (List.range 7).all (toldI nx mt e) = false := by
  rw [List.all_eq_false]; exact ⟨k, by simpa using hk, by simp [h]⟩
 unfold toldB; rw [this]; simp
theorem told_all {nx mt : List Int} {e : Int} (h1 : nx.length = 7) (h2 : mt.length = 7) (h : ∀ i, i < 7 → toldI nx mt e i = true) : toldB nx mt e = true := by
 have : (List.range 7).all (toldI nx mt e) = true := by
  rw [List.all_eq_true]; exact fun i hi => h i (by simpa using hi)
 unfold toldB; rw [this, h1, h2]; rfl
theorem risingNumbers_any (v : Value) (l : List Int) (w : World) (h : Ints w v l) (hs : l.length ≤ 1048576) :
  Calls Tryz.prog 47 #[v] w fun e w' => e = .returned (.bool (risB l)) ∧ ∃ n, w' = w.drewN n := by
 have HI := Hd h
 obtain ⟨a, c, rfl⟩ := h.shape
 by_cases h0 : l.length = 0
 ·have E : Hid (risB l = true) := Hd (by unfold risB; simp [h0])
  have hb0 : ((l.length : Int) == 0) = true := by rw [h0]; rfl
  clear h
  go_enter Tryz.func47, Tryz.ntmps47
  go_wp2_with fail
  go_ret
  exact ⟨ret_bool (uh E).symm, 0, rfl⟩
 ·have hb0 : ((l.length : Int) == 0) = false := by rw [beq_eq_false_iff_ne]; omega
  have E : Hid (risB l = (mFault l == 0)) := Hd (by unfold risB; rw [Bool.eq_iff_iff]; simp [h0])
  clear h
  go_enter Tryz.func47, Tryz.ntmps47
  go_wp2_with fail
  refine (membersFault_any _ l w (uh HI) hs).mono ?_
  rintro e w1 ⟨rfl, n, rfl⟩
  generalize mFault l = m at *
  go_wp2_with fail
  go_ret
  exact ⟨ret_bool (uh E).symm, n, rfl⟩
theorem toldOK_any (v u : Value) (nx mt : List Int) (e : Nat) (w : World) (h : Ints w v nx) (h' : Ints w u mt) (hs : nx.length ≤ 1048576) (hs' : mt.length ≤ 1048576) (he : e ≤ 1048576) :
  Calls Tryz.prog 48 #[v, u, .int .i64 (e : Int)] w fun x w' => x = .returned (.bool (toldB nx mt e)) ∧ ∃ n, w' = w.drewN n := by
 obtain ⟨a, c, rfl, hm, hc⟩ := h
 obtain ⟨a', c', rfl, hm', hc'⟩ := h'
 have HC := Hd hc
 have HC' := Hd hc'
 clear hc hc' hm hm'
 by_cases h1 : nx.length = 7
 case neg =>
  have E : Hid (toldB nx mt e = false) := Hd (by unfold toldB; simp [h1])
  have hb1 : ((nx.length : Int) == 7) = false := by rw [beq_eq_false_iff_ne]; omega
  go_enter Tryz.func48, Tryz.ntmps48
  go_wp2_with fail
  go_ret
  exact ⟨ret_bool (uh E).symm, 0, rfl⟩
 by_cases h2 : mt.length = 7
 case neg =>
  have E : Hid (toldB nx mt e = false) := Hd (by unfold toldB; simp [h2])
  have hb1 : ((nx.length : Int) == 7) = true := by rw [h1]; rfl
  have hb2 : ((mt.length : Int) == 7) = false := by rw [beq_eq_false_iff_ne]; omega
  go_enter Tryz.func48, Tryz.ntmps48
  go_wp2_with fail
  go_ret
  exact ⟨ret_bool (uh E).symm, 0, rfl⟩
 have HA := Hd (told_all (e := e) h1 h2)
 rw [h1] at HC ⊢
 rw [h2] at HC' ⊢
 obtain ⟨b, off, rfl, hbl, hsrc⟩ : ∃ b off, a = some ⟨b, off, none⟩ ∧ b < w.heap.size ∧ ∀ i, i < 7 → w.cell? ⟨b, off + i, none⟩ = some (.int .i64 (nx.getD i 0)) := by
  rcases uh HC with h0 | h1
  ·omega
  ·exact h1
 obtain ⟨b', off', rfl, hbl', hsrc'⟩ : ∃ b off, a' = some ⟨b, off, none⟩ ∧ b < w.heap.size ∧ ∀ i, i < 7 → w.cell? ⟨b, off + i, none⟩ = some (.int .i64 (mt.getD i 0)) := by
  rcases uh HC' with h0 | h1
  ·omega
  ·exact h1
 have HS := Hd hsrc
 have HS' := Hd hsrc'
 clear hsrc hsrc' HC HC' h1 h2 hs hs'
 have we : IntKind.i64.wrap ((e : Int) + 1) = (e : Int) + 1 := by
  simp only [IntKind.wrap, IntKind.bits, IntKind.signed]
  simp
  omega
 go_enter Tryz.func48, Tryz.ntmps48
 go_wp2_with fail
 go_loopw [7, 18] (fun _ i wr => ∃ k n : Nat, k ≤ 7 ∧ i = .int .i64 k ∧ Hid (∀ i, i < k → toldI nx mt e i = true) ∧ wr = w.drewN n) (fun _ i _ => 7 - (intOf i).toNat)
 case atStart => exact ⟨0, 0, Nat.zero_le _, rfl, fun i hi => absurd hi (Nat.not_lt_zero _), rfl⟩
 case round =>
  obtain ⟨k, n, hk, rfl, hA, hwr⟩ := hrel
  by_cases hlt : k < 7
  ·have s1 : wr.cell? ⟨b, off + k, none⟩ = some (.int .i64 (nx.getD k 0)) := by subst hwr; simpa using uh HS k hlt
   have s2 : wr.cell? ⟨b', off' + k, none⟩ = some (.int .i64 (mt.getD k 0)) := by subst hwr; simpa using uh HS' k hlt
   have HWR := Hd hwr
   clear hwr
   have hk0 : (0 : Int) ≤ (k : Int) := by omega
   have hk1 : (k : Int) < 7 := by omega
   have HT : Hid (toldI nx mt e k = (inB (nx.getD k 0) 1 ((e : Int) + 1) && inB (mt.getD k 0) 0 (nx.getD k 0 - 1))) := Hd rfl
   have HB := Hd (fun h => told_bad (nx := nx) (mt := mt) (e := e) hlt h)
   have HN := Hd (fun h => show ∀ i, i < k + 1 → toldI nx mt e i = true from fun i hi => by
     by_cases e : i = k
     ·subst e; exact h
     ·exact uh hA i (by omega))
   clear hA
   generalize nx.getD k 0 = x at *
   generalize mt.getD k 0 = y at *
   rcases Bool.eq_false_or_eq_true (inB x 1 ((e : Int) + 1)) with hin | hin
   case inr =>
    have E := Hd (uh HB (by rw [uh HT, hin]; rfl))
    clear HB HN HT
    go_wp2_with fail
    go_quiet ((go_at_call 44; exact Calls.quiet_of_same (within_any _ _ _ _)))
    go_wp2_with fail
    go_ret
    exact ⟨ret_bool (uh E).symm, n + nq, by rw [uh HWR]; exact drewN_two _ _ _⟩
   have hx := inB_iff.1 hin
   have wx : IntKind.i64.wrap (x - 1) = x - 1 := by
    simp only [IntKind.wrap, IntKind.bits, IntKind.signed]
    simp
    omega
   rcases Bool.eq_false_or_eq_true (inB y 0 (x - 1)) with hin2 | hin2
   case inr =>
    have E := Hd (uh HB (by rw [uh HT, hin, hin2]; rfl))
    clear HB HN HT hx
    go_wp2_with fail
    go_quiet ((go_at_call 44; exact Calls.quiet_of_same (within_any _ _ _ _)))
    go_wp2_with fail
    go_ret
    exact ⟨ret_bool (uh E).symm, n + nq, by rw [uh HWR]; exact drewN_two _ _ _⟩
   have E := Hd (uh HN (by rw [uh HT, hin, hin2]; rfl))
   clear HB HN HT hx
   go_wp2_with fail
   go_quiet ((go_at_call 44; exact Calls.quiet_of_same (within_any _ _ _ _)))
   go_wp2_with fail
   refine ⟨⟨k + 1, n + nq, by omega, by go_num, uh E, by rw [uh HWR]; exact drewN_two _ _ _⟩, ?_⟩
   simp [intOf]; omega
  ·obtain rfl : k = 7 := by omega
   have E := Hd (uh HA (uh hA))
   clear hA
   go_wp2_with fail
   go_ret
   exact ⟨ret_bool (uh E).symm, n, rfl⟩
theorem implNodeOK_any (id tm vo ro cm el wt : Int) (up : Bool) (lg : List En) (st vs nx mt : List Int) (la : Option Addr) (lc : Nat) (sa : Option Addr) (sc : Nat) (va : Option Addr) (vc : Nat) (na : Option Addr) (nc : Nat) (ma : Option Addr) (mc : Nat) (w : World) (h : NoR w (.slice la lg.length lc) (.slice sa st.length sc) (.slice va vs.length vc) (.slice na nx.length nc) (.slice ma mt.length mc) lg st vs nx mt) (hs : NoS lg st vs nx mt) :
  Calls Tryz.prog 20 #[.agg #[.int .i64 id, .int .i64 tm, .int .i64 vo, .slice la lg.length lc, .slice sa st.length sc, .int .i64 ro, .slice va vs.length vc, .slice na nx.length nc, .slice ma mt.length mc, .int .i64 cm, .int .i64 el, .int .i64 wt, .bool up]] w fun e w' => e = .returned (.bool (nodeB id tm vo ro cm el wt up lg st vs nx mt)) ∧ Below w.heap.size w w' := by
 have B0 := Hd (bal w (.cells #[.int .i64 id, .int .i64 tm, .int .i64 vo, .slice la lg.length lc, .slice sa st.length sc, .int .i64 ro, .slice va vs.length vc, .slice na nx.length nc, .slice ma mt.length mc, .int .i64 cm, .int .i64 el, .int .i64 wt, .bool up] 38))
 have X0 := Hd (Blk.new w #[.int .i64 id, .int .i64 tm, .int .i64 vo, .slice la lg.length lc, .slice sa st.length sc, .int .i64 ro, .slice va vs.length vc, .slice na nx.length nc, .slice ma mt.length mc, .int .i64 cm, .int .i64 el, .int .i64 wt, .bool up] 38 w.heap.size rfl)
 have HSt := Hd (fun wx (hx : Below w.heap.size w wx) => implStateOK_any tm vo _ lg wx (h.lg.below hx) hs.dt)
 have HMe := Hd (fun wx (hx : Below w.heap.size w wx) => membersFault_any _ st wx (h.st.below hx) hs.l1)
 have HRi := Hd (fun wx (hx : Below w.heap.size w wx) => risingNumbers_any _ vs wx (h.vs.below hx) hs.l2)
 have HTo := Hd (fun wx (hx : Below w.heap.size w wx) => toldOK_any _ _ nx mt lg.length wx (h.nx.below hx) (h.mt.below hx) hs.l3 hs.l4 hs.l0)
 have HN : Hid (nodeB id tm vo ro cm el wt up lg st vs nx mt = (inB id 0 6 && (stateB tm vo lg && (decide (mFault st = 0) && (inB ro 0 2 && (risB vs && (toldB nx mt lg.length && (inB cm 0 lg.length && (inB el 0 1000 && (inB wt 5 100 && (up || decide (ro = 0)))))))))))) := Hd rfl
 generalize nodeB id tm vo ro cm el wt up lg st vs nx mt = R at *
 generalize stateB tm vo lg = b1 at *
 generalize mFault st = m2 at *
 generalize risB vs = b4 at *
 generalize toldB nx mt lg.length = b5 at *
 clear h hs
 go_enter Tryz.func20, Tryz.ntmps20
 dsimp only [List.append]
 go_wp2_with fail
 generalize w.alloc (.cells #[.int .i64 id, .int .i64 tm, .int .i64 vo, .slice la lg.length lc, .slice sa st.length sc, .int .i64 ro, .slice va vs.length vc, .slice na nx.length nc, .slice ma mt.length mc, .int .i64 cm, .int .i64 el, .int .i64 wt, .bool up] 38) = w0 at *
 have x1 := (uh X0).cell 1 rfl
 have x2 := (uh X0).cell 2 rfl
 have x3 := (uh X0).cell 3 rfl
 have x5 := (uh X0).cell 5 rfl
 have x12 := (uh X0).cell 12 rfl
 refine (within_any _ _ _ _).mono ?_
 rintro e w' ⟨rfl, hw'⟩
 have hw2 := hw'.symm
 clear hw'
 subst hw2
 generalize inB id 0 6 = bb at *
 cases bb
 case false =>
  have E : Hid (R = false) := Hd (by rw [uh HN]; simp)
  go_wp2_with fail
  all_goals
   go_ret
   exact ⟨ret_bool (uh E).symm, uh B0⟩
 replace HN := Hd ((uh HN).trans (Bool.true_and _))
 go_wp2_with fail
 refine (uh HSt w0 (uh B0)).mono ?_
 rintro e w1 ⟨rfl, hb⟩
 have K1 := hbt B0 hb
 have XX := (uh X0).below hb
 clear x1 x2 x3 x5 x12
 have x4 := XX.cell 4 rfl
 have x5 := XX.cell 5 rfl
 have x12 := XX.cell 12 rfl
 have X1 := Hd XX
 clear hb XX X0 B0
 clear HSt
 cases b1
 case false =>
  have E : Hid (R = false) := Hd (by rw [uh HN]; simp)
  go_wp2_with fail
  all_goals
   go_ret
   exact ⟨ret_bool (uh E).symm, uh K1⟩
 replace HN := Hd ((uh HN).trans (Bool.true_and _))
 go_wp2_with fail
 refine (uh HMe w1 (uh K1)).mono ?_
 rintro e w2 ⟨rfl, n2, hn⟩
 have hb : Below w1.heap.size w1 w2 := by rw [hn]; exact below_drewN (Below.refl _ _) n2
 clear hn HMe
 have K2 := hbt K1 hb
 have XX := (uh X1).below hb
 clear x4 x5 x12
 have x5 := XX.cell 5 rfl
 have x12 := XX.cell 12 rfl
 have x6 := XX.cell 6 rfl
 have X2 := Hd XX
 clear hb XX X1 K1
 by_cases hm : m2 = 0
 case neg =>
  have hm2 : (m2 == 0) = false := by rw [beq_eq_false_iff_ne]; exact hm
  have E : Hid (R = false) := Hd (by rw [uh HN]; simp [hm])
  go_wp2_with fail
  all_goals
   go_ret
   exact ⟨ret_bool (uh E).symm, uh K2⟩
 subst hm
 replace HN := Hd ((uh HN).trans (by simp : _ = (inB ro 0 2 && (b4 && (b5 && (inB cm 0 lg.length && (inB el 0 1000 && (inB wt 5 100 && (up || decide (ro = 0)))))))) ))
 go_wp2_with fail
 refine (within_any _ _ _ _).mono ?_
 rintro e w' ⟨rfl, hw'⟩
 have hw2 := hw'.symm
 clear hw'
 subst hw2
 generalize inB ro 0 2 = bb at *
 cases bb
 case false =>
  have E : Hid (R = false) := Hd (by rw [uh HN]; simp)
  go_wp2_with fail
  all_goals
   go_ret
   exact ⟨ret_bool (uh E).symm, uh K2⟩
 replace HN := Hd ((uh HN).trans (Bool.true_and _))
 go_wp2_with fail
 refine (uh HRi w2 (uh K2)).mono ?_
 rintro e w3 ⟨rfl, n3, hn⟩
 have hb : Below w2.heap.size w2 w3 := by rw [hn]; exact below_drewN (Below.refl _ _) n3
 clear hn HRi
 have K3 := hbt K2 hb
 have XX := (uh X2).below hb
 clear x5 x6 x12
 have x7 := XX.cell 7 rfl
 have x8 := XX.cell 8 rfl
 have x3 := XX.cell 3 rfl
 have x5 := XX.cell 5 rfl
 have x12 := XX.cell 12 rfl
 have X3 := Hd XX
 clear hb XX X2 K2
 cases b4
 case false =>
  have E : Hid (R = false) := Hd (by rw [uh HN]; simp)
  go_wp2_with fail
  all_goals
   go_ret
   exact ⟨ret_bool (uh E).symm, uh K3⟩
 replace HN := Hd ((uh HN).trans (Bool.true_and _))
 go_wp2_with fail
 refine (uh HTo w3 (uh K3)).mono ?_
 rintro e w4 ⟨rfl, n4, hn⟩
 have hb : Below w3.heap.size w3 w4 := by rw [hn]; exact below_drewN (Below.refl _ _) n4
 clear hn HTo
 have K4 := hbt K3 hb
 have XX := (uh X3).below hb
 clear x7 x8 x3 x5 x12
 have x3 := XX.cell 3 rfl
 have x5 := XX.cell 5 rfl
 have x9 := XX.cell 9 rfl
 have x10 := XX.cell 10 rfl
 have x11 := XX.cell 11 rfl
 have x12 := XX.cell 12 rfl
 have X4 := Hd XX
 clear hb XX X3 K3
 cases b5
 case false =>
  have E : Hid (R = false) := Hd (by rw [uh HN]; simp)
  go_wp2_with fail
  all_goals
   go_ret
   exact ⟨ret_bool (uh E).symm, uh K4⟩
 replace HN := Hd ((uh HN).trans (Bool.true_and _))
 go_wp2_with fail
 refine (within_any _ _ _ _).mono ?_
 rintro e w' ⟨rfl, hw'⟩
 have hw2 := hw'.symm
 clear hw'
 subst hw2
 generalize inB cm 0 ↑lg.length = bb at *
 cases bb
 case false =>
  have E : Hid (R = false) := Hd (by rw [uh HN]; simp)
  go_wp2_with fail
  all_goals
   go_ret
   exact ⟨ret_bool (uh E).symm, uh K4⟩
 replace HN := Hd ((uh HN).trans (Bool.true_and _))
 go_wp2_with fail
 refine (within_any _ _ _ _).mono ?_
 rintro e w' ⟨rfl, hw'⟩
 have hw2 := hw'.symm
 clear hw'
 subst hw2
 generalize inB el 0 1000 = bb at *
 cases bb
 case false =>
  have E : Hid (R = false) := Hd (by rw [uh HN]; simp)
  go_wp2_with fail
  all_goals
   go_ret
   exact ⟨ret_bool (uh E).symm, uh K4⟩
 replace HN := Hd ((uh HN).trans (Bool.true_and _))
 go_wp2_with fail
 refine (within_any _ _ _ _).mono ?_
 rintro e w' ⟨rfl, hw'⟩
 have hw2 := hw'.symm
 clear hw'
 subst hw2
 generalize inB wt 5 100 = bb at *
 cases bb
 case false =>
  have E : Hid (R = false) := Hd (by rw [uh HN]; simp)
  go_wp2_with fail
  all_goals
   go_ret
   exact ⟨ret_bool (uh E).symm, uh K4⟩
 replace HN := Hd ((uh HN).trans (Bool.true_and _))
 cases up
 case true =>
  have E : Hid (R = true) := Hd (by rw [uh HN]; rfl)
  go_wp2_with fail
  go_ret
  exact ⟨ret_bool (uh E).symm, uh K4⟩
 have E : Hid (R = (ro == 0)) := Hd (by rw [uh HN, Bool.eq_iff_iff]; simp)
 go_wp2_with fail
 go_ret
 exact ⟨ret_bool (uh E).symm, uh K4⟩
end Go.Proofs.YtbchnheinnileaaGreatDoor
