/- What the proof of the claim needs (joined by program): WrN WrB WrT CmdB. -/
import Derived.Test.YtnhhnjmjodmacaaGreatDoorQaa00
import Derived.Test.YtnhhnjmjodmacaaGreatDoorQaa09
import Derived.Test.YtnhhnjmjodmacaaGreatDoorQaa23
import Derived.Deep.RegionLaw
import Derived.WalkSpells
namespace Go.Proofs.YtnhhnjmjodmacaaGreatDoor
set_option maxRecDepth 100000
set_option maxHeartbeats 8000000
open Go.ChangeShapes Go.WideShapes Go.ChangeAt Go.RowKit
set_option linter.unusedVariables false
def encN (n : Int) : Nat → List Int
 | 0 => []
 | m + 1 => (n / 256 ^ m % 256) :: encN n m
def encAll (m : Nat) : List Int → List Int
 | [] => []
 | n :: r => encN n m ++ encAll m r
theorem encN_len (n : Int) (m : Nat) : (encN n m).length = m := by
 induction m with
 | zero => rfl
 | succ m ih => simp [encN, ih]
theorem encAll_len (m : Nat) (l : List Int) : (encAll m l).length = m * l.length := by
 induction l with
 | nil => rfl
 | cons n r ih => simp [encAll, encN_len, ih, Nat.mul_add]; omega

theorem encAll_drop (m : Nat) (l : List Int) (k : Nat) (h : k < l.length) : encAll m (l.drop k) = encN (l.getD k 0) m ++ encAll m (l.drop (k + 1)) := by
 rw [List.drop_eq_getElem_cons h, List.getD_eq_getElem?_getD, List.getElem?_eq_getElem h]; rfl
theorem gather_len {m k : Nat} {xs ys ns : List Int} (h : ys ++ encAll m (ns.drop k) = xs ++ encAll m ns) (hm : m ≤ 4) (hx : xs.length ≤ 70000) (hn : ns.length ≤ 4096) : ys.length ≤ 86400 := by
 have e := congrArg List.length h
 rw [List.length_append, List.length_append, encAll_len m ns] at e
 have : m * ns.length ≤ 4 * 4096 := Nat.mul_le_mul hm hn
 omega
theorem gather_len2 {m j : Nat} {n : Int} {zs ys : List Int} (h : zs ++ encN n j = ys ++ encN n m) (hm : m ≤ 4) (hy : ys.length ≤ 86400) : zs.length ≤ 86404 := by
 have e := congrArg List.length h
 rw [List.length_append, List.length_append, encN_len, encN_len] at e
 omega
theorem wrapI (n : Int) (h0 : 0 ≤ n) (h1 : n < 9223372036854775808) : IntKind.i64.wrap n = n := by
 simp only [IntKind.wrap, IntKind.bits, IntKind.signed]
 simp
 omega
theorem wrapB (n : Int) (q : Nat) : IntKind.u8.wrap (n / 2 ^ (8 * (q : Int)).toNat) = n / 256 ^ q % 256 := by
 have e : (2 : Int) ^ (8 * (q : Int)).toNat = 256 ^ q := by
  rw [show (8 * (q : Int)).toNat = 8 * q by omega, Int.pow_mul]; rfl
 rw [e]; simp [IntKind.wrap, IntKind.bits, IntKind.signed]
theorem numbers_any (b m : Nat) (v : Value) (xs ns : List Int) (L off cap : Nat) (w : World) (h : Wr w b v xs) (hm : m ≤ 4) (hL : L < w.heap.size) (hLb : L ≠ b) (hLv : v.ownBlock ≠ some L)
  (hc : ∀ i, i < ns.length → w.cell? ⟨L, off + i, none⟩ = some (.int .i64 (ns.getD i 0))) (hr : ∀ i, 0 ≤ ns.getD i 0 ∧ ns.getD i 0 < 4294967296) (hlen : ns.length ≤ 4096) (hxl : xs.length ≤ 70000) :
  Calls Tryz.prog 148 #[.pointer (some ⟨b, 0, none⟩), .int .i64 m, .slice (some ⟨L, off, none⟩) ns.length cap] w fun e w' => e = .returned (.tuple #[]) ∧ ∃ v', Wr w' b v' (xs ++ encAll m ns) ∧ Touch (WT b v) w w' ∧ Lies v v' w.heap.size := by
 obtain ⟨i0, hi, hz0, hz1, hz2⟩ := info_parts info5
 have HW := Hd h
 have HC := Hd hc
 have HR := Hd hr
 clear h hc hr
 go_enter Tryz.func148, Tryz.ntmps148
 go_wp2_with fail
 go_loopw [7, 8, 11] (fun _ _ i wr => ∃ (k : Nat) (u : Value) (ys : List Int), k ≤ ns.length ∧ i = .int .i64 k ∧ Wr wr b u ys ∧ ys ++ encAll m (ns.drop k) = xs ++ encAll m ns ∧ Touch (WT b v) w wr ∧ Lies v u w.heap.size) (fun _ _ i _ => ns.length - (intOf i).toNat)
 case atStart => exact ⟨0, v, xs, Nat.zero_le _, rfl, uh HW, rfl, Touch.refl _ _, Lies.refl _ _⟩
 case round =>
  obtain ⟨k, u, ys, hk, rfl, hW, hE, hT, hLi⟩ := hrel
  by_cases hlt : k < ns.length
  ·have hs1 : wr.cell? ⟨L, off + k, none⟩ = some (.int .i64 (ns.getD k 0)) := by
    rw [hT.cell (p := ⟨L, off + k, none⟩) hL (fun hx => by rcases hx with h1 | h1; exact hLb h1; exact hLv h1)]
    exact uh HC k hlt
   have hr1 := uh HR k
   have hk0 : (0 : Int) ≤ (k : Int) := by omega
   have hk1 : (k : Int) < (ns.length : Int) := by omega
   have HR2 := Hd (And.intro hW (And.intro hE (And.intro hT hLi)))
   have hyl := gather_len hE hm hxl hlen
   have HD := Hd (encAll_drop m ns k hlt)
   clear hW hE hT hLi
   generalize ns.getD k 0 = n at *
   go_wp2_with fail
   obtain ⟨wo, rfl⟩ : ∃ wo : World, wo = wr := ⟨_, rfl⟩
   go_loopw [8] (fun i wr => ∃ (j : Nat) (u' : Value) (zs : List Int), j ≤ m ∧ (∃ x : Int, x = (j : Int) - 1 ∧ i = .int .i64 x) ∧ Wr wr b u' zs ∧ zs ++ encN n j = ys ++ encN n m ∧ Touch (WT b v) w wr ∧ Lies v u' w.heap.size) (fun i _ => ((intOf i) + 1).toNat)
   case atStart => 
    obtain ⟨hW, hE, hT, hLi⟩ := uh HR2
    exact ⟨m, u, ys, Nat.le_refl _, ⟨_, rfl, rfl⟩, hW, rfl, hT, hLi⟩
   case round =>
    obtain ⟨j, u', zs, hj, ⟨x, hx, rfl⟩, hW', hE', hT', hLi'⟩ := hrel
    have hzl := gather_len2 hE' hm hyl
    by_cases hj0 : 0 < j
    ·obtain ⟨q, rfl⟩ : ∃ q, j = q + 1 := ⟨j - 1, by omega⟩
     obtain rfl : x = (q : Int) := by omega
     have hq : q ≤ 3 := by omega
     clear hx
     have hcell := hW'.1
     have hfr := hW'.2.1
     have hbl := hW'.2.2.1
     have HW2 := Hd hW'
     have HE2 := Hd hE'
     have HT2 := Hd hT'
     have HL2 := Hd hLi'
     have hne : some b ≠ u'.ownBlock := fun e => by have := (hW'.row b e.symm).1; omega
     have HN := Hd hne
     clear hW' hE' hT' hLi' hne
     have m1 : IntKind.i64.wrap (8 * (q : Int)) = 8 * (q : Int) := wrapI _ (by omega) (by omega)
     have m2 := wrapB n q
     have p0 : 0 ≤ 8 * (q : Int) := by omega
     have p1 : 8 * (q : Int) ≤ 64 := by omega
     go_wp2_with fail
     go_region_law (refine step_append_lies _ (by rfl) _ _ _ (by rfl) (b + 1) 5 i0 _ 1 1 Tryz.underlying127 hi hz0 hz1 hz2 rfl (by omega) u' zs.length (zs.map (Value.int .u8)) (by rfl) (((uh HW2).alloc _).drew).2.2.2.1 ⟨wr.heap.size, 0, none⟩ 1 1 [_] (by rfl) (by rfl) (World.news_of_block (cs := #[_]) (t := 5) (fr := (0, 0)) (heap_alloc_new wr _)) (by simp [Value.oneCell']) (by omega) (by unfold maxLen; omega) (by omega) (by simp; omega) (wr.heap.size + 1) (by simp) ?_; intro gg capg w1 hown1 hgrow hat hlt1; have hc1 : w1.cell? ⟨b, 0, none⟩ = some u' := (hgrow.cell_far ⟨b, 0, none⟩ (by simp; omega) (uh HN)).trans (((uh HW2).alloc _).drew).1; have hf1 : w1.frozen? ⟨b, 0, none⟩ = false := (hgrow.frozen_far ⟨b, 0, none⟩ (by simp; omega) (uh HN)).trans (((uh HW2).alloc _).drew).2.1)
     all_goals
      have hx0 : 0 ≤ n / 256 ^ q % 256 := by omega
      have hx1 : n / 256 ^ q % 256 ≤ 255 := by omega
      have R := Hd ((uh HW2).pushed hown1 hgrow hat hx0 hx1)
      have hE2 : Hid ((zs ++ [n / 256 ^ q % 256]) ++ encN n q = ys ++ encN n m) := Hd (by rw [List.append_assoc]; exact uh HE2)
      clear hown1 hgrow hat hlt1 hc1 hf1 m2
      generalize n / 256 ^ q % 256 = y at *
      go_wp2_with fail
      go_roundw
      case rel => exact ⟨q, _, _, by omega, ⟨_, rfl, rfl⟩, (uh R).1, uh hE2, (uh HT2).wr (uh HL2) (uh R).2.1, (uh HL2).trans (uh R).2.2 (uh HT2).size⟩
      case measure => simp [intOf]
    ·obtain rfl : j = 0 := by omega
     obtain rfl : x = -1 := by omega
     have hE3 := Hd (by have := hE'; simp only [encN, List.append_nil] at this; exact this)
     have R := Hd (And.intro hW' (And.intro hT' hLi'))
     clear hW' hE' hT' hLi' hx
     go_wp2_with fail
     go_roundw
     case rel => exact ⟨k + 1, u', zs, by omega, by go_num, (uh R).1, by rw [uh hE3, List.append_assoc, ← uh HD]; exact (uh HR2).2.1, (uh R).2.1, (uh R).2.2⟩
     case measure => simp [intOf]; omega
  ·obtain rfl : k = ns.length := by omega
   have R := Hd (And.intro hW (And.intro hE (And.intro hT hLi)))
   clear hW hE hT hLi
   go_wp2_with fail
   go_end0
   refine ⟨rfl, u, ?_, (uh R).2.2.1, (uh R).2.2.2⟩
   have e := (uh R).2.1
   rw [List.drop_length] at e
   simp only [encAll, List.append_nil] at e
   rw [← e]; exact (uh R).1
def textsL : List ByteArray → List Int
 | [] => []
 | s :: r => (s.size : Int) :: (bytesI s ++ textsL r)
def sizes : List ByteArray → Nat
 | [] => 0
 | s :: r => s.size + 1 + sizes r
theorem textsL_len (l : List ByteArray) : (textsL l).length = sizes l := by
 induction l with
 | nil => rfl
 | cons s r ih => simp [textsL, sizes, bytesI_len, ih]; omega
theorem textsL_drop (l : List ByteArray) (k : Nat) (h : k < l.length) : textsL (l.drop k) = ((l.getD k ByteArray.empty).size : Int) :: (bytesI (l.getD k ByteArray.empty) ++ textsL (l.drop (k + 1))) := by
 rw [List.drop_eq_getElem_cons h, List.getD_eq_getElem?_getD, List.getElem?_eq_getElem h]; rfl

theorem numbers_new1 (b m : Nat) (mi : Int) (hmi : mi = (m : Int)) (v : Value) (xs : List Int) (n : Int) (w : World) (h : Wr w b v xs) (Lb : Nat) (hLb : w.heap.size = Lb) (hm : m ≤ 4) (h0 : 0 ≤ n) (h1 : n < 4294967296) (hxl : xs.length ≤ 70000) :
  Calls Tryz.prog 148 #[.pointer (some ⟨b, 0, none⟩), .int .i64 mi, .slice (some ⟨Lb, 0, none⟩) 1 1] (w.alloc (.cells #[.int .i64 n] 3)) fun e w' => e = .returned (.tuple #[]) ∧ ∃ v', Wr w' b v' (xs ++ encN n m) ∧ Touch (WT b v) w w' ∧ Lies v v' w.heap.size := by
 subst hmi hLb
 refine (numbers_any b m v xs [n] w.heap.size 0 1 _ (h.alloc _) hm (by simp) (by have := h.lt; omega) (fun e => by have := (h.row _ e).2; omega) (fun i hi => ?_) (fun i => ?_) (by simp) hxl).mono ?_
 ·have hi0 : i = 0 := by simpa using hi
  subst hi0
  rw [World.cell?_alloc_at _ _ _ _ rfl]; rfl
 ·cases i with
  | zero => simp; omega
  | succ i => simp
 ·rintro e w' ⟨rfl, v', hW, hT, hL⟩
  refine ⟨rfl, v', by simpa [encAll] using hW, ((Touch.refl (WT b v) w).alloc _).trans hT (fun _ _ h => h), fun k hk => ?_⟩
  rcases hL k hk with e | e
  ·exact .inl e
  ·right; simp at e; omega
theorem numbers_new2 (b m : Nat) (mi : Int) (hmi : mi = (m : Int)) (v : Value) (xs : List Int) (n n2 : Int) (w : World) (h : Wr w b v xs) (Lb : Nat) (hLb : w.heap.size = Lb) (hm : m ≤ 4) (h0 : 0 ≤ n) (h1 : n < 4294967296) (h02 : 0 ≤ n2) (h12 : n2 < 4294967296) (hxl : xs.length ≤ 70000) :
  Calls Tryz.prog 148 #[.pointer (some ⟨b, 0, none⟩), .int .i64 mi, .slice (some ⟨Lb, 0, none⟩) 2 2] (w.alloc (.cells #[.int .i64 n, .int .i64 n2] 3)) fun e w' => e = .returned (.tuple #[]) ∧ ∃ v', Wr w' b v' (xs ++ (encN n m ++ encN n2 m)) ∧ Touch (WT b v) w w' ∧ Lies v v' w.heap.size := by
 subst hmi hLb
 refine (numbers_any b m v xs [n, n2] w.heap.size 0 2 _ (h.alloc _) hm (by simp) (by have := h.lt; omega) (fun e => by have := (h.row _ e).2; omega) (fun i hi => ?_) (fun i => ?_) (by simp) hxl).mono ?_
 ·rcases (show i = 0 ∨ i = 1 by simp at hi; omega) with rfl | rfl
  ·rw [World.cell?_alloc_at _ _ _ _ rfl]; rfl
  ·rw [World.cell?_alloc_at _ _ _ _ rfl]; rfl
 ·cases i with
  | zero => simp; omega
  | succ i => cases i with
   | zero => simp; omega
   | succ i => simp
 ·rintro e w' ⟨rfl, v', hW, hT, hL⟩
  refine ⟨rfl, v', by simpa [encAll] using hW, ((Touch.refl (WT b v) w).alloc _).trans hT (fun _ _ h => h), fun k hk => ?_⟩
  rcases hL k hk with e | e
  ·exact .inl e
  ·right; simp at e; omega

theorem Wr.new (w : World) (b : Nat) (hb : w.heap.size = b) (t : TypeId) : Wr (w.alloc (.cells #[.slice none 0 0] t)) b (.slice none 0 0) [] := by
 subst hb
 refine ⟨by rw [World.cell?_alloc_at _ _ _ _ rfl]; rfl, by simp, by simp, World.ownsRow_nil _ _ _ _, fun i => by simp⟩
theorem texts_any (b : Nat) (v : Value) (xs : List Int) (ss : List ByteArray) (L off cap : Nat) (w : World) (h : Wr w b v xs) (hL : L < w.heap.size) (hLb : L ≠ b) (hLv : v.ownBlock ≠ some L)
  (hc : ∀ i, i < ss.length → w.cell? ⟨L, off + i, none⟩ = some (.string (ss.getD i ByteArray.empty))) (hr : ∀ i, (ss.getD i ByteArray.empty).size ≤ 255) (hlen : sizes ss ≤ 60000) (hxl : xs.length ≤ 10000) (hsl : ss.length ≤ 4096) :
  Calls Tryz.prog 149 #[.pointer (some ⟨b, 0, none⟩), .slice (some ⟨L, off, none⟩) ss.length cap] w fun e w' => e = .returned (.tuple #[]) ∧ ∃ v', Wr w' b v' (xs ++ textsL ss) ∧ Touch (WT b v) w w' ∧ Lies v v' w.heap.size := by
 obtain ⟨i0, hi, hz0, hz1, hz2⟩ := info_parts info5
 have HW := Hd h
 have HC := Hd hc
 have HR := Hd hr
 clear h hc hr
 go_enter Tryz.func149, Tryz.ntmps149
 go_wp2_with fail
 go_loopw [5, 8] (fun _ i wr => ∃ (k : Nat) (u : Value) (ys : List Int), k ≤ ss.length ∧ i = .int .i64 k ∧ Wr wr b u ys ∧ ys ++ textsL (ss.drop k) = xs ++ textsL ss ∧ Touch (WT b v) w wr ∧ Lies v u w.heap.size) (fun _ i _ => ss.length - (intOf i).toNat)
 case atStart => exact ⟨0, v, xs, Nat.zero_le _, rfl, uh HW, rfl, Touch.refl _ _, Lies.refl _ _⟩
 case round =>
  obtain ⟨k, u, ys, hk, rfl, hW, hE, hT, hLi⟩ := hrel
  by_cases hlt : k < ss.length
  ·have hs1 : wr.cell? ⟨L, off + k, none⟩ = some (.string (ss.getD k ByteArray.empty)) := by
    rw [hT.cell (p := ⟨L, off + k, none⟩) hL (fun hx => by rcases hx with h1 | h1; exact hLb h1; exact hLv h1)]
    exact uh HC k hlt
   have hr1 := uh HR k
   have hk0 : (0 : Int) ≤ (k : Int) := by omega
   have hk1 : (k : Int) < (ss.length : Int) := by omega
   have hyl : ys.length ≤ 70000 := by
    have e := congrArg List.length hE
    rw [List.length_append, List.length_append, textsL_len ss] at e
    omega
   have HD := Hd (textsL_drop ss k hlt)
   have HR2 := Hd (And.intro hW (And.intro hE (And.intro hT hLi)))
   have hbl := hW.lt
   clear hW hE hT hLi
   generalize ss.getD k ByteArray.empty = s at *
   go_wp2_with fail
   refine (numbers_new1 b 1 1 rfl u ys s.size wr (uh HR2).1 _ rfl (by omega) (by omega) (by omega) hyl).mono ?_
   rintro e w2 ⟨rfl, v2, hW2, hT2, hL2⟩
   obtain ⟨y2, hy2⟩ : ∃ y2, y2 = ys ++ encN (s.size : Int) 1 := ⟨_, rfl⟩
   rw [← hy2] at hW2
   have hcell := hW2.1
   have hfr := hW2.2.1
   have hb2 := hW2.2.2.1
   have hne : some b ≠ v2.ownBlock := fun e => by have := (hW2.row b e.symm).1; omega
   have HW2 := Hd hW2
   have HN := Hd hne
   have hl2 : y2.length ≤ 70001 := by rw [hy2, List.length_append, encN_len]; omega
   have hl3 : 0 < y2.length := by rw [hy2, List.length_append, encN_len]; omega
   have HT2 := Hd ((uh HR2).2.2.1.wr (uh HR2).2.2.2 hT2)
   have HL2 := Hd ((uh HR2).2.2.2.trans hL2 (uh HR2).2.2.1.size)
   have he : encN (s.size : Int) 1 = [(s.size : Int)] := by simp [encN]; omega
   have HE2 := Hd he
   have HY := Hd hy2
   clear hW2 hT2 hL2 hne he hy2
   go_wp2_with (at_builtin; refine wpList_append_str _ rfl _ _ _ _ rfl (b + 1) 5 i0 Tryz.underlying127 Tryz.underlying9 hi hz0 hz1 hz2 v2 _ _ rfl (uh HW2).2.2.2.1 s rfl (by omega) (by omega) (by omega) ?_; intro gg capg w3 hown3 hgrow hat; have HAT := Hd hat; clear hat; have hc3 : w3.cell? ⟨b, 0, none⟩ = some v2 := (hgrow.cell_far ⟨b, 0, none⟩ hb2 (uh HN)).trans hcell; have hf3 : w3.frozen? ⟨b, 0, none⟩ = false := (hgrow.frozen_far ⟨b, 0, none⟩ hb2 (uh HN)).trans hfr)
   have R := Hd ((uh HW2).appended (ys := bytesI s) (by rw [List.map_append, ← strCells_eq]; exact hown3) hgrow (by
    rcases uh HAT with e | e
    ·left; rw [e]; rfl
    ·right; rw [e]; rfl) (bytesI_range s))
   clear hown3 hgrow HAT hc3 hf3
   go_roundw
   case rel =>
    refine ⟨k + 1, _, _, by omega, by go_num, (uh R).1, ?_, (uh HT2).wr (uh HL2) (uh R).2.1, (uh HL2).trans (uh R).2.2 (uh HT2).size⟩
    rw [← (uh HR2).2.1, uh HD, uh HY, uh HE2]; simp
   case measure => simp [intOf]; omega
  ·obtain rfl : k = ss.length := by omega
   have R := Hd (And.intro hW (And.intro hE (And.intro hT hLi)))
   clear hW hE hT hLi
   go_wp2_with fail
   go_end0
   refine ⟨rfl, u, ?_, (uh R).2.2.1, (uh R).2.2.2⟩
   have e := (uh R).2.1
   rw [List.drop_length] at e
   simp only [textsL, List.append_nil] at e
   rw [← e]; exact (uh R).1
theorem texts_new2 (b : Nat) (v : Value) (xs : List Int) (s s2 : ByteArray) (w : World) (h : Wr w b v xs) (Lb : Nat) (hLb : w.heap.size = Lb) (h1 : s.size ≤ 255) (h2 : s2.size ≤ 255) (hxl : xs.length ≤ 10000) :
  Calls Tryz.prog 149 #[.pointer (some ⟨b, 0, none⟩), .slice (some ⟨Lb, 0, none⟩) 2 2] (w.alloc (.cells #[.string s, .string s2] 9)) fun e w' => e = .returned (.tuple #[]) ∧ ∃ v', Wr w' b v' (xs ++ textsL [s, s2]) ∧ Touch (WT b v) w w' ∧ Lies v v' w.heap.size := by
 subst hLb
 refine (texts_any b v xs [s, s2] w.heap.size 0 2 _ (h.alloc _) (by simp) (by have := h.lt; omega) (fun e => by have := (h.row _ e).2; omega) (fun i hi => ?_) (fun i => ?_) (by simp [sizes]; omega) hxl (by simp)).mono ?_
 ·rcases (show i = 0 ∨ i = 1 by simp at hi; omega) with rfl | rfl
  ·rw [World.cell?_alloc_at _ _ _ _ rfl]; rfl
  ·rw [World.cell?_alloc_at _ _ _ _ rfl]; rfl
 ·cases i with
  | zero => simpa using h1
  | succ i => cases i with
   | zero => simpa using h2
   | succ i => simp
 ·rintro e w' ⟨rfl, v', hW, hT, hL⟩
  refine ⟨rfl, v', hW, ((Touch.refl (WT b v) w).alloc _).trans hT (fun _ _ h => h), fun k hk => ?_⟩
  rcases hL k hk with e | e
  ·exact .inl e
  ·right; simp at e; omega
def cmdBytes (k s q : Int) (key val : ByteArray) : List Int := encN k 1 ++ (encN s 2 ++ encN q 2) ++ textsL [key, val]
theorem cmdOK_bounds {k s q : Int} {key val : ByteArray} (h : cmdOK k s q key val = true) : 1 ≤ k ∧ k ≤ 5 ∧ 0 ≤ s ∧ s ≤ 65535 ∧ 0 ≤ q ∧ q ≤ 65535 ∧ key.size ≤ 24 ∧ val.size ≤ 60 := by
 unfold cmdOK at h
 split at h
 ·rename_i h1
  simp only [Bool.and_eq_true, decide_eq_true_eq, inB_iff] at h1
  have hk : 1 ≤ k ∧ k ≤ 5 ∧ key.size ≤ 24 := by
   split at h
   ·rw [inB_iff] at h; omega
   ·split at h
    ·simp only [Bool.and_eq_true, inB_iff] at h; omega
    ·split at h
     ·simp only [Bool.and_eq_true, emptyB_iff] at h; omega
     ·cases h
  omega
 ·cases h
def cmdOut (k s q : Int) (key val : ByteArray) : List Int × Int := if cmdOK k s q key val then (cmdBytes k s q key val, 0) else ([], 1)

theorem implCommandBytes_any (k s q : Int) (key val : ByteArray) (w : World) (hk : key.size ≤ maxLen) (hv : val.size ≤ maxLen) :
  Calls Tryz.prog 136 #[.agg #[.int .i64 k, .int .i64 s, .int .i64 q, .string key, .string val]] w fun e w' => ∃ v', e = .returned (.tuple #[v', .int .i64 (cmdOut k s q key val).2]) ∧ OwnB w.heap.size w' v' (cmdOut k s q key val).1 ∧ Below w.heap.size w w' := by
 rcases Bool.eq_false_or_eq_true (cmdOK k s q key val) with h1 | h1
 case inr =>
  have E := Hd (show cmdOut k s q key val = ([], 1) by simp [cmdOut, h1])
  go_enter Tryz.func136, Tryz.ntmps136
  go_wp2_with fail
  refine (implCommandOK_any k s q key val _ hk hv).mono ?_
  rintro e w1 ⟨rfl, hb1⟩
  have HB := Hd ((bal w (.cells #[.int .i64 k, .int .i64 s, .int .i64 q, .string key, .string val] 44)).trans (hb1.mono (by simp)))
  clear hb1
  go_wp2_with fail
  go_ret2
  exact ⟨.slice none 0 0, ret_two (by rw [uh E]), by rw [uh E]; exact OwnB.nil _ _, uh HB⟩
 case inl =>
  have E := Hd (show cmdOut k s q key val = (cmdBytes k s q key val, 0) by simp [cmdOut, h1])
  obtain ⟨b1, b2, b3, b4, b5, b6, b7, b8⟩ := cmdOK_bounds h1
  go_enter Tryz.func136, Tryz.ntmps136
  go_wp2_with fail
  refine (implCommandOK_any k s q key val _ hk hv).mono ?_
  rintro e w1 ⟨rfl, hb1⟩
  have hb1' : Below (w.heap.size + 1) (w.alloc (.cells #[.int .i64 k, .int .i64 s, .int .i64 q, .string key, .string val] 44)) w1 := hb1.mono (by simp)
  have HB1 := Hd hb1'
  obtain ⟨c0, c1, c2, c3, c4⟩ := five_cell rfl hb1'
  have hsz : w.heap.size < w1.heap.size := by have := hb1'.size; simp at this; omega
  clear hb1 hb1'
  go_wp2_with fail
  have W0 := Hd (Wr.new w1 w1.heap.size rfl 197)
  have HS0 : Hid ((w1.alloc (.cells #[.slice none 0 0] 197)).heap.size = w1.heap.size + 1) := Hd (by simp)
  have HB0 := Hd ((uh HB1).alloc (by omega) (.cells #[.slice none 0 0] 197))
  generalize w1.alloc (.cells #[.slice none 0 0] 197) = w2 at *
  refine (numbers_new1 w1.heap.size 1 1 rfl _ [] k w2 (uh W0) _ (uh HS0) (by omega) (by omega) (by omega) (by simp)).mono ?_
  rintro e w3 ⟨rfl, v3, hW3, hT3, hL3⟩
  have HB3 := Hd ((uh HB0).trans ((uh W0).below hT3 hsz))
  have W3 := Hd hW3
  obtain ⟨c0, c1, c2, c3, c4⟩ := five_cell rfl (uh HB3)
  clear hW3 hT3 hL3
  go_wp2_with fail
  refine (numbers_new2 w1.heap.size 2 2 rfl v3 _ s q w3 (uh W3) _ rfl (by omega) (by omega) (by omega) (by omega) (by omega) (by simp [encN])).mono ?_
  rintro e w4 ⟨rfl, v4, hW4, hT4, hL4⟩
  have HB4 := Hd ((uh HB3).trans ((uh W3).below hT4 hsz))
  have W4 := Hd hW4
  obtain ⟨c0, c1, c2, c3, c4⟩ := five_cell rfl (uh HB4)
  clear hW4 hT4 hL4
  go_wp2_with fail
  refine (texts_new2 w1.heap.size v4 _ key val w4 (uh W4) _ rfl (by omega) (by omega) (by simp [encN])).mono ?_
  rintro e w5 ⟨rfl, v5, hW5, hT5, hL5⟩
  have HB5 := Hd ((uh HB4).trans ((uh W4).below hT5 hsz))
  have W5 := Hd hW5
  have hcell := hW5.1
  clear hW5 hT5 hL5
  go_wp2_with fail
  go_ret2
  refine ⟨v5, ret_two (by rw [uh E]), ?_, ((Below.refl w.heap.size w).alloc (Nat.le_refl _) _).trans ((uh HB5).mono (by omega))⟩
  rw [uh E]
  exact OwnB.mono (B := w1.heap.size + 1) ⟨by have h := (uh W5).2.2.2.1; simpa [cmdBytes] using h, by have h := (uh W5).2.2.2.2; simpa [cmdBytes] using h⟩ (by omega)
end Go.Proofs.YtnhhnjmjodmacaaGreatDoor
