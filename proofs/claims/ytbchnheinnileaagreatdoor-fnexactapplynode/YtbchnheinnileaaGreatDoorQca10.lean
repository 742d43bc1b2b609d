/- What the proof of the claim needs (joined by program): WrB WrT CmdB ApP SpT SpB BrE Led ClS LeI Tk. -/
import Derived.Test.YtbchnheinnileaaGreatDoorQca09
import Derived.Test.YtbchnheinnileaaGreatDoorQca04
import Derived.Test.YtbchnheinnileaaGreatDoorQca01
import Derived.Test.YtbchnheinnileaaGreatDoorQca06
import Derived.Test.YtbchnheinnileaaGreatDoorQca05
import Derived.Test.YtbchnheinnileaaGreatDoorQca00
import Derived.Test.YtbchnheinnileaaGreatDoorQca08
import Derived.Deep.RegionHeld3
import Derived.Deep.Fields
import Derived.Deep.Slices
import Derived.SliceStrings
import Derived.Deep.RegionLaw
import Derived.Deep.DeepCutAuto
import Derived.Lib.BitFns
namespace Go.Proofs.YtbchnheinnileaaGreatDoor
set_option maxRecDepth 100000
set_option maxHeartbeats 8000000
open Go.ChangeShapes Go.WideShapes Go.ChangeAt Go.RowKit
set_option linter.unusedVariables false
def textsL : List ByteArray → List Int
 | [] => []
 | s :: r => (s.size : Int) :: (bytesI s ++ textsL r)
def sizes : List ByteArray → Nat
 | [] => 0
 | s :: r => s.size + 1 + sizes r
theorem textsL_len (l : List ByteArray) : (textsL l).length = sizes l := by
 induction l with
 | nil => rfl
 | cons s r ih => simp [textsL, sizes, bytesI_len, ih]; omega
theorem textsL_drop (l : List ByteArray) (k : Nat) (h : k < l.length) : textsL (l.drop k) = ((l.getD k ByteArray.empty).size : Int) :: (bytesI (l.getD k ByteArray.empty) ++ textsL (l.drop (k + 1))) := by
 rw [List.drop_eq_getElem_cons h, List.getD_eq_getElem?_getD, List.getElem?_eq_getElem h]; rfl

theorem numbers_new1 (b m : Nat) (mi : Int) (hmi : mi = (m : Int)) (v : Value) (xs : List Int) (n : Int) (w : World) (h : Wr w b v xs) (Lb : Nat) (hLb : w.heap.size = Lb) (hm : m ≤ 4) (h0 : 0 ≤ n) (h1 : n < 4294967296) (hxl : xs.length ≤ 70000) :
  Calls Tryz.prog 135 #[.pointer (some ⟨b, 0, none⟩), .int .i64 mi, .slice (some ⟨Lb, 0, none⟩) 1 1] (w.alloc (.cells #[.int .i64 n] 3)) fun e w' => e = .returned (.tuple #[]) ∧ ∃ v', Wr w' b v' (xs ++ encN n m) ∧ Touch (WT b v) w w' ∧ Lies v v' w.heap.size := by
 subst hmi hLb
 refine (numbers_any b m v xs [n] w.heap.size 0 1 _ (h.alloc _) hm (by simp) (by have := h.lt; omega) (fun e => by have := (h.row _ e).2; omega) (fun i hi => ?_) (fun i => ?_) (by simp) hxl).mono ?_
 ·have hi0 : i = 0 := by simpa using hi
  subst hi0
  rw [World.cell?_alloc_at _ _ _ _ rfl]; rfl
 ·cases i with
  | zero => simp; omega
  | succ i => simp
 ·rintro e w' ⟨rfl, v', hW, hT, hL⟩
  refine ⟨rfl, v', by simpa [encAll] using hW, ((Touch.refl (WT b v) w).alloc _).trans hT (fun _ _ h => h), fun k hk => ?_⟩
  rcases hL k hk with e | e
  ·exact .inl e
  ·right; simp at e; omega
theorem numbers_new2 (b m : Nat) (mi : Int) (hmi : mi = (m : Int)) (v : Value) (xs : List Int) (n n2 : Int) (w : World) (h : Wr w b v xs) (Lb : Nat) (hLb : w.heap.size = Lb) (hm : m ≤ 4) (h0 : 0 ≤ n) (h1 : n < 4294967296) (h02 : 0 ≤ n2) (h12 : n2 < 4294967296) (hxl : xs.length ≤ 70000) :
  Calls Tryz.prog 135 #[.pointer (some ⟨b, 0, none⟩), .int .i64 mi, .slice (some ⟨Lb, 0, none⟩) 2 2] (w.alloc (.cells #[.int .i64 n, .int .i64 n2] 3)) fun e w' => e = .returned (.tuple #[]) ∧ ∃ v', Wr w' b v' (xs ++ (encN n m ++ encN n2 m)) ∧ Touch (WT b v) w w' ∧ Lies v v' w.heap.size := by
 subst hmi hLb
 refine (numbers_any b m v xs [n, n2] w.heap.size 0 2 _ (h.alloc _) hm (by simp) (by have := h.lt; omega) (fun e => by have := (h.row _ e).2; omega) (fun i hi => ?_) (fun i => ?_) (by simp) hxl).mono ?_
 ·rcases (show i = 0 ∨ i = 1 by simp at hi; omega) with rfl | rfl
  ·rw [World.cell?_alloc_at _ _ _ _ rfl]; rfl
  ·rw [World.cell?_alloc_at _ _ _ _ rfl]; rfl
 ·cases i with
  | zero => simp; omega
  | succ i => cases i with
   | zero => simp; omega
   | succ i => simp
 ·rintro e w' ⟨rfl, v', hW, hT, hL⟩
  refine ⟨rfl, v', by simpa [encAll] using hW, ((Touch.refl (WT b v) w).alloc _).trans hT (fun _ _ h => h), fun k hk => ?_⟩
  rcases hL k hk with e | e
  ·exact .inl e
  ·right; simp at e; omega

theorem Wr.new (w : World) (b : Nat) (hb : w.heap.size = b) (t : TypeId) : Wr (w.alloc (.cells #[.slice none 0 0] t)) b (.slice none 0 0) [] := by
 subst hb
 refine ⟨by rw [World.cell?_alloc_at _ _ _ _ rfl]; rfl, by simp, by simp, World.ownsRow_nil _ _ _ _, fun i => by simp⟩
theorem texts_any (b : Nat) (v : Value) (xs : List Int) (ss : List ByteArray) (L off cap : Nat) (w : World) (h : Wr w b v xs) (hL : L < w.heap.size) (hLb : L ≠ b) (hLv : v.ownBlock ≠ some L)
  (hc : ∀ i, i < ss.length → w.cell? ⟨L, off + i, none⟩ = some (.string (ss.getD i ByteArray.empty))) (hr : ∀ i, (ss.getD i ByteArray.empty).size ≤ 255) (hlen : sizes ss ≤ 60000) (hxl : xs.length ≤ 10000) (hsl : ss.length ≤ 4096) :
  Calls Tryz.prog 136 #[.pointer (some ⟨b, 0, none⟩), .slice (some ⟨L, off, none⟩) ss.length cap] w fun e w' => e = .returned (.tuple #[]) ∧ ∃ v', Wr w' b v' (xs ++ textsL ss) ∧ Touch (WT b v) w w' ∧ Lies v v' w.heap.size := by
 obtain ⟨i0, hi, hz0, hz1, hz2⟩ := info_parts info5
 have HW := Hd h
 have HC := Hd hc
 have HR := Hd hr
 clear h hc hr
 go_enter Tryz.func136, Tryz.ntmps136
 go_wp2_with fail
 go_loopw [5, 8] (fun _ i wr => ∃ (k : Nat) (u : Value) (ys : List Int), k ≤ ss.length ∧ i = .int .i64 k ∧ Wr wr b u ys ∧ ys ++ textsL (ss.drop k) = xs ++ textsL ss ∧ Touch (WT b v) w wr ∧ Lies v u w.heap.size) (fun _ i _ => ss.length - (intOf i).toNat)
 case atStart => exact ⟨0, v, xs, Nat.zero_le _, rfl, uh HW, rfl, Touch.refl _ _, Lies.refl _ _⟩
 case round =>
  obtain ⟨k, u, ys, hk, rfl, hW, hE, hT, hLi⟩ := hrel
  by_cases hlt : k < ss.length
  ·have hs1 : wr.cell? ⟨L, off + k, none⟩ = some (.string (ss.getD k ByteArray.empty)) := by
    rw [hT.cell (p := ⟨L, off + k, none⟩) hL (fun hx => by rcases hx with h1 | h1; exact hLb h1; exact hLv h1)]
    exact uh HC k hlt
   have hr1 := uh HR k
   have hk0 : (0 : Int) ≤ (k : Int) := by omega
   have hk1 : (k : Int) < (ss.length : Int) := by omega
   have hyl : ys.length ≤ 70000 := by
    have e := congrArg List.length hE
    rw [List.length_append, List.length_append, textsL_len ss] at e
    omega
   have HD := Hd (textsL_drop ss k hlt)
   have HR2 := Hd (And.intro hW (And.intro hE (And.intro hT hLi)))
   have hbl := hW.lt
   clear hW hE hT hLi
   generalize ss.getD k ByteArray.empty = s at *
   go_wp2_with fail
   refine (numbers_new1 b 1 1 rfl u ys s.size wr (uh HR2).1 _ rfl (by omega) (by omega) (by omega) hyl).mono ?_
   rintro e w2 ⟨rfl, v2, hW2, hT2, hL2⟩
   obtain ⟨y2, hy2⟩ : ∃ y2, y2 = ys ++ encN (s.size : Int) 1 := ⟨_, rfl⟩
   rw [← hy2] at hW2
   have hcell := hW2.1
   have hfr := hW2.2.1
   have hb2 := hW2.2.2.1
   have hne : some b ≠ v2.ownBlock := fun e => by have := (hW2.row b e.symm).1; omega
   have HW2 := Hd hW2
   have HN := Hd hne
   have hl2 : y2.length ≤ 70001 := by rw [hy2, List.length_append, encN_len]; omega
   have hl3 : 0 < y2.length := by rw [hy2, List.length_append, encN_len]; omega
   have HT2 := Hd ((uh HR2).2.2.1.wr (uh HR2).2.2.2 hT2)
   have HL2 := Hd ((uh HR2).2.2.2.trans hL2 (uh HR2).2.2.1.size)
   have he : encN (s.size : Int) 1 = [(s.size : Int)] := by simp [encN]; omega
   have HE2 := Hd he
   have HY := Hd hy2
   clear hW2 hT2 hL2 hne he hy2
   go_wp2_with (at_builtin; refine wpList_append_str _ rfl _ _ _ _ rfl (b + 1) 5 i0 Tryz.underlying80 Tryz.underlying9 hi hz0 hz1 hz2 v2 _ _ rfl (uh HW2).2.2.2.1 s rfl (by omega) (by omega) (by omega) ?_; intro gg capg w3 hown3 hgrow hat; have HAT := Hd hat; clear hat; have hc3 : w3.cell? ⟨b, 0, none⟩ = some v2 := (hgrow.cell_far ⟨b, 0, none⟩ hb2 (uh HN)).trans hcell; have hf3 : w3.frozen? ⟨b, 0, none⟩ = false := (hgrow.frozen_far ⟨b, 0, none⟩ hb2 (uh HN)).trans hfr)
   have R := Hd ((uh HW2).appended (ys := bytesI s) (by rw [List.map_append, ← strCells_eq]; exact hown3) hgrow (by
    rcases uh HAT with e | e
    ·left; rw [e]; rfl
    ·right; rw [e]; rfl) (bytesI_range s))
   clear hown3 hgrow HAT hc3 hf3
   go_roundw
   case rel =>
    refine ⟨k + 1, _, _, by omega, by go_num, (uh R).1, ?_, (uh HT2).wr (uh HL2) (uh R).2.1, (uh HL2).trans (uh R).2.2 (uh HT2).size⟩
    rw [← (uh HR2).2.1, uh HD, uh HY, uh HE2]; simp
   case measure => simp [intOf]; omega
  ·obtain rfl : k = ss.length := by omega
   have R := Hd (And.intro hW (And.intro hE (And.intro hT hLi)))
   clear hW hE hT hLi
   go_wp2_with fail
   go_end0
   refine ⟨rfl, u, ?_, (uh R).2.2.1, (uh R).2.2.2⟩
   have e := (uh R).2.1
   rw [List.drop_length] at e
   simp only [textsL, List.append_nil] at e
   rw [← e]; exact (uh R).1
theorem texts_new2 (b : Nat) (v : Value) (xs : List Int) (s s2 : ByteArray) (w : World) (h : Wr w b v xs) (Lb : Nat) (hLb : w.heap.size = Lb) (h1 : s.size ≤ 255) (h2 : s2.size ≤ 255) (hxl : xs.length ≤ 10000) :
  Calls Tryz.prog 136 #[.pointer (some ⟨b, 0, none⟩), .slice (some ⟨Lb, 0, none⟩) 2 2] (w.alloc (.cells #[.string s, .string s2] 9)) fun e w' => e = .returned (.tuple #[]) ∧ ∃ v', Wr w' b v' (xs ++ textsL [s, s2]) ∧ Touch (WT b v) w w' ∧ Lies v v' w.heap.size := by
 subst hLb
 refine (texts_any b v xs [s, s2] w.heap.size 0 2 _ (h.alloc _) (by simp) (by have := h.lt; omega) (fun e => by have := (h.row _ e).2; omega) (fun i hi => ?_) (fun i => ?_) (by simp [sizes]; omega) hxl (by simp)).mono ?_
 ·rcases (show i = 0 ∨ i = 1 by simp at hi; omega) with rfl | rfl
  ·rw [World.cell?_alloc_at _ _ _ _ rfl]; rfl
  ·rw [World.cell?_alloc_at _ _ _ _ rfl]; rfl
 ·cases i with
  | zero => simpa using h1
  | succ i => cases i with
   | zero => simpa using h2
   | succ i => simp
 ·rintro e w' ⟨rfl, v', hW, hT, hL⟩
  refine ⟨rfl, v', hW, ((Touch.refl (WT b v) w).alloc _).trans hT (fun _ _ h => h), fun k hk => ?_⟩
  rcases hL k hk with e | e
  ·exact .inl e
  ·right; simp at e; omega
def cmdBytes (k s q : Int) (key val : ByteArray) : List Int := encN k 1 ++ (encN s 2 ++ encN q 2) ++ textsL [key, val]
theorem cmdOK_bounds {k s q : Int} {key val : ByteArray} (h : cmdOK k s q key val = true) : 1 ≤ k ∧ k ≤ 5 ∧ 0 ≤ s ∧ s ≤ 65535 ∧ 0 ≤ q ∧ q ≤ 65535 ∧ key.size ≤ 24 ∧ val.size ≤ 60 := by
 unfold cmdOK at h
 split at h
 ·rename_i h1
  simp only [Bool.and_eq_true, decide_eq_true_eq, inB_iff] at h1
  have hk : 1 ≤ k ∧ k ≤ 5 ∧ key.size ≤ 24 := by
   split at h
   ·rw [inB_iff] at h; omega
   ·split at h
    ·simp only [Bool.and_eq_true, inB_iff] at h; omega
    ·split at h
     ·simp only [Bool.and_eq_true, emptyB_iff] at h; omega
     ·cases h
  omega
 ·cases h
def cmdOut (k s q : Int) (key val : ByteArray) : List Int × Int := if cmdOK k s q key val then (cmdBytes k s q key val, 0) else ([], 1)

theorem implCommandBytes_any (k s q : Int) (key val : ByteArray) (w : World) (hk : key.size ≤ maxLen) (hv : val.size ≤ maxLen) :
  Calls Tryz.prog 122 #[.agg #[.int .i64 k, .int .i64 s, .int .i64 q, .string key, .string val]] w fun e w' => ∃ v', e = .returned (.tuple #[v', .int .i64 (cmdOut k s q key val).2]) ∧ OwnB w.heap.size w' v' (cmdOut k s q key val).1 ∧ Below w.heap.size w w' := by
 rcases Bool.eq_false_or_eq_true (cmdOK k s q key val) with h1 | h1
 case inr =>
  have E := Hd (show cmdOut k s q key val = ([], 1) by simp [cmdOut, h1])
  go_enter Tryz.func122, Tryz.ntmps122
  go_wp2_with fail
  refine (implCommandOK_any k s q key val _ hk hv).mono ?_
  rintro e w1 ⟨rfl, hb1⟩
  have HB := Hd ((bal w (.cells #[.int .i64 k, .int .i64 s, .int .i64 q, .string key, .string val] 77)).trans (hb1.mono (by simp)))
  clear hb1
  go_wp2_with fail
  go_ret2
  exact ⟨.slice none 0 0, ret_two (by rw [uh E]), by rw [uh E]; exact OwnB.nil _ _, uh HB⟩
 case inl =>
  have E := Hd (show cmdOut k s q key val = (cmdBytes k s q key val, 0) by simp [cmdOut, h1])
  obtain ⟨b1, b2, b3, b4, b5, b6, b7, b8⟩ := cmdOK_bounds h1
  go_enter Tryz.func122, Tryz.ntmps122
  go_wp2_with fail
  refine (implCommandOK_any k s q key val _ hk hv).mono ?_
  rintro e w1 ⟨rfl, hb1⟩
  have hb1' : Below (w.heap.size + 1) (w.alloc (.cells #[.int .i64 k, .int .i64 s, .int .i64 q, .string key, .string val] 77)) w1 := hb1.mono (by simp)
  have HB1 := Hd hb1'
  obtain ⟨c0, c1, c2, c3, c4⟩ := five_cell rfl hb1'
  have hsz : w.heap.size < w1.heap.size := by have := hb1'.size; simp at this; omega
  clear hb1 hb1'
  go_wp2_with fail
  have W0 := Hd (Wr.new w1 w1.heap.size rfl 191)
  have HS0 : Hid ((w1.alloc (.cells #[.slice none 0 0] 191)).heap.size = w1.heap.size + 1) := Hd (by simp)
  have HB0 := Hd ((uh HB1).alloc (by omega) (.cells #[.slice none 0 0] 191))
  generalize w1.alloc (.cells #[.slice none 0 0] 191) = w2 at *
  refine (numbers_new1 w1.heap.size 1 1 rfl _ [] k w2 (uh W0) _ (uh HS0) (by omega) (by omega) (by omega) (by simp)).mono ?_
  rintro e w3 ⟨rfl, v3, hW3, hT3, hL3⟩
  have HB3 := Hd ((uh HB0).trans ((uh W0).below hT3 hsz))
  have W3 := Hd hW3
  obtain ⟨c0, c1, c2, c3, c4⟩ := five_cell rfl (uh HB3)
  clear hW3 hT3 hL3
  go_wp2_with fail
  refine (numbers_new2 w1.heap.size 2 2 rfl v3 _ s q w3 (uh W3) _ rfl (by omega) (by omega) (by omega) (by omega) (by omega) (by simp [encN])).mono ?_
  rintro e w4 ⟨rfl, v4, hW4, hT4, hL4⟩
  have HB4 := Hd ((uh HB3).trans ((uh W3).below hT4 hsz))
  have W4 := Hd hW4
  obtain ⟨c0, c1, c2, c3, c4⟩ := five_cell rfl (uh HB4)
  clear hW4 hT4 hL4
  go_wp2_with fail
  refine (texts_new2 w1.heap.size v4 _ key val w4 (uh W4) _ rfl (by omega) (by omega) (by simp [encN])).mono ?_
  rintro e w5 ⟨rfl, v5, hW5, hT5, hL5⟩
  have HB5 := Hd ((uh HB4).trans ((uh W4).below hT5 hsz))
  have W5 := Hd hW5
  have hcell := hW5.1
  clear hW5 hT5 hL5
  go_wp2_with fail
  go_ret2
  refine ⟨v5, ret_two (by rw [uh E]), ?_, ((Below.refl w.heap.size w).alloc (Nat.le_refl _) _).trans ((uh HB5).mono (by omega))⟩
  rw [uh E]
  exact OwnB.mono (B := w1.heap.size + 1) ⟨by have h := (uh W5).2.2.2.1; simpa [cmdBytes] using h, by have h := (uh W5).2.2.2.2; simpa [cmdBytes] using h⟩ (by omega)
end Go.Proofs.YtbchnheinnileaaGreatDoor
namespace Go.Proofs.YtbchnheinnileaaGreatDoor.Sha
set_option maxRecDepth 100000
set_option maxHeartbeats 8000000
open Go.ChangeShapes Go.WideShapes Go.ChangeAt Go.RowKit Go.Deep
set_option linter.unusedVariables false
set_option linter.unusedSimpArgs false
def dropO (h : ByteArray) : Option Tr → Option Tr
 | none => none
 | some t => dropT h t
def leafC (c : Cm) : ByteArray := leafV (strOfNums (cmdBytes c.kd c.ss c.sq c.ky c.vl))
theorem leafC_size {c : Cm} (hk : c.ky.size ≤ 24) (hv : c.vl.size ≤ 60) : (leafC c).size = 32 := by
 obtain ⟨ckd, css, csq, cky, cvl⟩ := c
 dsimp only at hk hv
 have e : (strOfNums (cmdBytes ckd css csq cky cvl)).size ≤ 100 := by
  have e1 : cky.data.size = cky.size := rfl
  have e2 : cvl.data.size = cvl.size := rfl
  simp only [strOfNums, ByteArray.size, cmdBytes, List.length_append, encN_len, textsL_len, sizes, List.size_toArray, List.length_map]
  omega
 exact hash_size (by simp [bytesI_len]; omega)
def cmK (c : Cm) : Bool := cmdOK c.kd c.ss c.sq c.ky c.vl
def chOut (ls : List ByteArray) (o : Option Tr) (c : Cm) (g : Option ByteArray) : List ByteArray × Option Tr × Re :=
 if c.kd = 3 ∧ g = none then (ls, o, ⟨2, 0, ⟨#[]⟩⟩)
 else if 0 < exV ls.length (lvO o) g.isSome (vbV c.kd c.vl (g.getD ⟨#[]⟩)).size then (ls, o, ⟨6, 0, ⟨#[]⟩⟩)
 else (ls ++ [leafC c], if c.kd = 3 then dropO (kh c.ky) o else some (putO o c.ky (vbV c.kd c.vl (g.getD ⟨#[]⟩))), ⟨1, (ls.length : Int) + 1, vbV c.kd c.vl (g.getD ⟨#[]⟩)⟩)
structure Lst where
 ls : List ByteArray
 o : Option Tr
 ss : List Se
def svOut (x : Lst) (c : Cm) (q : Nat) : Lst × Re :=
 if c.sq = (x.ss.getD q default).sq ∧ (x.ss.getD q default).kd ≠ 0 then (x, ⟨(x.ss.getD q default).kd, (x.ss.getD q default).pl, (x.ss.getD q default).vl⟩)
 else if c.sq ≤ (x.ss.getD q default).sq then (x, ⟨3, 0, ⟨#[]⟩⟩)
 else (⟨(chOut x.ls x.o c (getV x.o c.ky)).1, (chOut x.ls x.o c (getV x.o c.ky)).2.1, x.ss.set q ⟨(x.ss.getD q default).id, c.sq, (chOut x.ls x.o c (getV x.o c.ky)).2.2.kd, (chOut x.ls x.o c (getV x.o c.ky)).2.2.pl, (chOut x.ls x.o c (getV x.o c.ky)).2.2.vl⟩⟩, (chOut x.ls x.o c (getV x.o c.ky)).2.2)
def apOut (x : Lst) (c : Cm) : Lst × Re :=
 if c.kd = 4 then (if hasS x.ss c.ss then (x, ⟨5, 0, ⟨#[]⟩⟩) else if x.ss.length = 8 then (x, ⟨6, 0, ⟨#[]⟩⟩) else (⟨x.ls, x.o, insS x.ss (posS x.ss c.ss) (newS c.ss)⟩, ⟨1, 0, ⟨#[]⟩⟩))
 else if hasS x.ss c.ss = false then (x, ⟨4, 0, ⟨#[]⟩⟩)
 else if c.kd = 5 then (⟨x.ls, x.o, delS x.ss (posS x.ss c.ss)⟩, ⟨1, 0, ⟨#[]⟩⟩)
 else svOut x c (posS x.ss c.ss)
structure LOK (x : Lst) : Prop where
 n : x.ls.length ≤ 50
 h : ∀ s ∈ x.ls, s.size = 32
 ok : OkO x.o
 ri : RiseO x.o
 sp : SepO x.o
 m : x.ss.length ≤ 8
 rs : RiseS x.ss
 sb : ∀ s ∈ x.ss, (0 ≤ s.id ∧ s.id ≤ 65535) ∧ (0 ≤ s.sq ∧ s.sq ≤ 65535) ∧ (0 ≤ s.kd ∧ s.kd ≤ 6) ∧ (0 ≤ s.pl ∧ s.pl ≤ 50) ∧ s.vl.size ≤ 60
theorem LOK.keys {x : Lst} (h : LOK x) : lvO x.o ≤ 40 := by
 have := h.sp
 cases ho : x.o with
 | none => simp [lvO]
 | some t => rw [ho] at this; exact this.2
theorem dropT_lvN (h : ByteArray) : ∀ t : Tr, lvO (dropT h t) ≤ t.lvN
 | .leaf _ _ => Nat.zero_le _
 | .fork a hh l r => by
  have h1 := dropT_lvN h l
  have h2 := dropT_lvN h r
  unfold dropT
  show _ ≤ l.lvN + r.lvN
  split
  ·cases hd : dropT h l with
   | none => show r.lvN ≤ _; omega
   | some l' => rw [hd] at h1; show l'.lvN + r.lvN ≤ _; have : l'.lvN ≤ l.lvN := h1; omega
  ·cases hd : dropT h r with
   | none => show l.lvN ≤ _; omega
   | some r' => rw [hd] at h2; show l.lvN + r'.lvN ≤ _; have : r'.lvN ≤ r.lvN := h2; omega
theorem getV_size {o : Option Tr} (h : OkO o) {key x : ByteArray} (hg : getV o key = some x) : x.size ≤ 60 := by
 cases o with
 | none => cases hg
 | some t =>
  unfold getV at hg
  dsimp only at hg
  split at hg
  ·cases hg
   exact (lead_ok _ t h).2
  ·cases hg
theorem cmK_key {c : Cm} (h : cmK c = true) (hk : c.kd ≠ 4) (hk5 : c.kd ≠ 5) : okK c.ky = true ∧ c.vl.size ≤ 60 ∧ (0 ≤ c.sq ∧ c.sq ≤ 65535) ∧ (c.kd = 1 ∨ c.kd = 2 ∨ c.kd = 3) ∧ (c.kd = 3 → c.vl.size = 0) := by
 unfold cmK cmdOK at h
 split at h
 ·rename_i h1
  simp only [Bool.and_eq_true, decide_eq_true_eq] at h1
  split at h
  ·rename_i h2
   refine ⟨okK_iff.2 ?_, h1.2, inB_iff.1 h1.1.2, by omega, fun e => by omega⟩
   have := inB_iff.1 h; omega
  ·split at h
   ·rename_i h3
    simp only [Bool.and_eq_true] at h
    refine ⟨okK_iff.2 ?_, h1.2, inB_iff.1 h1.1.2, .inr (.inr h3), fun _ => ?_⟩
    ·have := inB_iff.1 h.1; omega
    ·exact emptyB_iff.1 h.2
   ·rw [if_neg (by omega)] at h; cases h
 ·cases h
theorem cmK_ses {c : Cm} (h : cmK c = true) : 0 ≤ c.ss ∧ c.ss ≤ 65535 := by
 unfold cmK cmdOK at h
 split at h
 ·rename_i h1
  simp only [Bool.and_eq_true] at h1
  exact inB_iff.1 h1.1.1
 ·cases h
def ReOK (r : Re) : Prop := (0 ≤ r.kd ∧ r.kd ≤ 6) ∧ (0 ≤ r.pl ∧ r.pl ≤ 50) ∧ r.vl.size ≤ 60
theorem reOK_of (k : Int) (h0 : 0 ≤ k) (h1 : k ≤ 6) : ReOK ⟨k, 0, ⟨#[]⟩⟩ := ⟨⟨h0, h1⟩, ⟨by show (0 : Int) ≤ 0; omega, by show (0 : Int) ≤ 50; omega⟩, by show (⟨#[]⟩ : ByteArray).size ≤ 60; decide⟩
theorem fd_self {x : ByteArray} (h : x.size = 32) : ¬ fd x x < 256 := fun e => ((fd_ne h h).1 e) rfl
theorem exV_le {n k z : Nat} {t : Bool} (h : ¬ 0 < exV n k t z) : n ≤ 49 ∧ z ≤ 60 ∧ (t = false → k ≤ 39) := by
 unfold exV at h
 cases t with
 | true => rw [if_pos rfl] at h; refine ⟨by omega, by omega, fun e => by cases e⟩
 | false => rw [if_neg (by simp)] at h; refine ⟨by omega, by omega, fun _ => by omega⟩
theorem put_lvN {o : Option Tr} {key val : ByteArray} (ho : OkO o) (hs : SepO o) (hk : okK key = true) (h : getV o key = none → lvO o ≤ 39) : (putO o key val).lvN ≤ 40 := by
 have hks := okK_iff.1 hk
 cases o with
 | none => show 1 ≤ 40; omega
 | some t =>
  have h2 := putT_lvN (kh key) (putAt t key) key val (fd_le _ _) t ho
  have h3 := hs.2
  show (putT (kh key) (putAt t key) key val t).lvN ≤ 40
  rw [h2]
  split
  ·rename_i hlt
   have : getV (some t) key = none := by
    unfold getV
    dsimp only
    rw [if_neg (fun e => ?_)]
    unfold putAt at hlt
    rw [e] at hlt
    exact fd_self (kh_size (by omega)) hlt
   have := h this
   have e : lvO (some t) = t.lvN := rfl
   omega
  ·omega
theorem ch_ok {x : Lst} (h : LOK x) {c : Cm} (hc : cmK c = true) (h4 : c.kd ≠ 4) (h5 : c.kd ≠ 5) : LOK ⟨(chOut x.ls x.o c (getV x.o c.ky)).1, (chOut x.ls x.o c (getV x.o c.ky)).2.1, x.ss⟩ ∧ ReOK (chOut x.ls x.o c (getV x.o c.ky)).2.2 := by
 obtain ⟨k1, k2, k3, k4, k5⟩ := cmK_key hc h4 h5
 have hks := okK_iff.1 k1
 unfold chOut
 split
 ·exact ⟨⟨h.n, h.h, h.ok, h.ri, h.sp, h.m, h.rs, h.sb⟩, reOK_of 2 (by omega) (by omega)⟩
 ·split
  ·exact ⟨⟨h.n, h.h, h.ok, h.ri, h.sp, h.m, h.rs, h.sb⟩, reOK_of 6 (by omega) (by omega)⟩
  ·rename_i h1 h2
   obtain ⟨e1, e2, e3⟩ := exV_le h2
   have hv : TrOK (.leaf c.ky (vbV c.kd c.vl ((getV x.o c.ky).getD ⟨#[]⟩))) := ⟨k1, e2⟩
   have hls : ∀ s ∈ x.ls ++ [leafC c], s.size = 32 := fun s hs => by
    rcases List.mem_append.1 hs with hs | hs
    ·exact h.h s hs
    ·rw [List.mem_singleton.1 hs]; exact leafC_size hks.2 k2
   have hn : (x.ls ++ [leafC c]).length ≤ 50 := by simp; omega
   have hr : ReOK ⟨1, (x.ls.length : Int) + 1, vbV c.kd c.vl ((getV x.o c.ky).getD ⟨#[]⟩)⟩ := ⟨⟨by show (0 : Int) ≤ 1; omega, by show (1 : Int) ≤ 6; omega⟩, ⟨by show (0 : Int) ≤ (x.ls.length : Int) + 1; omega, by show (x.ls.length : Int) + 1 ≤ 50; omega⟩, e2⟩
   refine ⟨?_, hr⟩
   dsimp only
   split
   ·have hd : OkO (dropO (kh c.ky) x.o) ∧ RiseO (dropO (kh c.ky) x.o) ∧ SepO (dropO (kh c.ky) x.o) := by
     have o1 := h.ok; have o2 := h.ri; have o3 := h.sp
     cases hx : x.o with
     | none => exact ⟨trivial, trivial, trivial⟩
     | some t =>
      rw [hx] at o1 o2 o3
      have f1 := dropT_ok (kh c.ky) t o1
      have f2 := dropT_facts (kh c.ky) t 0 o2 o3.1
      have f3 := dropT_lvN (kh c.ky) t
      have f4 := o3.2
      show OkO (dropT (kh c.ky) t) ∧ RiseO (dropT (kh c.ky) t) ∧ SepO (dropT (kh c.ky) t)
      cases hd : dropT (kh c.ky) t with
      | none => exact ⟨trivial, trivial, trivial⟩
      | some t' =>
       rw [hd] at f1 f2 f3
       exact ⟨f1, f2.1, f2.2.1, Nat.le_trans f3 f4⟩
    exact ⟨hn, hls, hd.1, hd.2.1, hd.2.2, h.m, h.rs, h.sb⟩
   ·have f1 := putO_rise c.ky (vbV c.kd c.vl ((getV x.o c.ky).getD ⟨#[]⟩)) h.ri h.sp
    exact ⟨hn, hls, mpT_ok h.ok hv, f1.1, ⟨f1.2, put_lvN h.ok h.sp k1 (fun e => e3 (by rw [e]; rfl))⟩, h.m, h.rs, h.sb⟩
theorem ap_ok {x : Lst} (h : LOK x) {c : Cm} (hc : cmK c = true) : LOK (apOut x c).1 ∧ ReOK (apOut x c).2 := by
 have hses := cmK_ses hc
 unfold apOut
 split
 ·split
  ·exact ⟨h, reOK_of 5 (by omega) (by omega)⟩
  ·split
   ·exact ⟨h, reOK_of 6 (by omega) (by omega)⟩
   ·rename_i h1 h2 h3
    have hp := pos_is (id := c.ss) h.rs
    refine ⟨⟨h.n, h.h, h.ok, h.ri, h.sp, ?_, ins_rise h.rs (by simpa using h2), ?_⟩, reOK_of 1 (by omega) (by omega)⟩
    ·show (insS _ _ _).length ≤ 8
     rw [insS_len _ _ _ hp.le]; have := h.m; omega
    ·intro s hs
     show (0 ≤ s.id ∧ s.id ≤ 65535) ∧ _
     rcases List.mem_append.1 hs with hs | hs
     ·exact h.sb s (List.mem_of_mem_take hs)
     ·rcases List.mem_cons.1 hs with rfl | hs
      ·exact ⟨hses, ⟨by show (0:Int) ≤ 0; omega, by show (0:Int) ≤ 65535; omega⟩, ⟨by show (0:Int) ≤ 0; omega, by show (0:Int) ≤ 6; omega⟩, ⟨by show (0:Int) ≤ 0; omega, by show (0:Int) ≤ 50; omega⟩, by show (⟨#[]⟩ : ByteArray).size ≤ 60; decide⟩
      ·exact h.sb s (List.mem_of_mem_drop hs)
 ·split
  ·exact ⟨h, reOK_of 4 (by omega) (by omega)⟩
  ·rename_i h1 h2
   have hh : hasS x.ss c.ss = true := by simpa using h2
   obtain ⟨p1, p2⟩ := has_iff.1 hh
   split
   ·refine ⟨⟨h.n, h.h, h.ok, h.ri, h.sp, ?_, del_rise h.rs p1, ?_⟩, reOK_of 1 (by omega) (by omega)⟩
    ·show (delS _ _).length ≤ 8
     rw [delS_len _ _ p1]; have := h.m; omega
    ·intro s hs
     rcases List.mem_append.1 hs with hs | hs
     ·exact h.sb s (List.mem_of_mem_take hs)
     ·exact h.sb s (List.mem_of_mem_drop hs)
   ·rename_i h5
    obtain ⟨k1, k2, k3, k4, k5⟩ := cmK_key hc h1 h5
    obtain ⟨s1, s2, s3, s4, s5⟩ := h.sb _ (getD_mem p1)
    unfold svOut
    split
    ·exact ⟨h, s3, s4, s5⟩
    ·split
     ·exact ⟨h, reOK_of 3 (by omega) (by omega)⟩
     ·obtain ⟨g, gr⟩ := ch_ok h hc h1 h5
      refine ⟨⟨g.n, g.h, g.ok, g.ri, g.sp, by simp; exact h.m, set_rise h.rs p1 rfl, ?_⟩, gr⟩
      intro s hs
      rcases List.mem_or_eq_of_mem_set hs with hs | rfl
      ·exact h.sb s hs
      ·exact ⟨s1, k3, gr.1, gr.2.1, gr.2.2⟩
end Go.Proofs.YtbchnheinnileaaGreatDoor.Sha
namespace Go.Proofs.YtbchnheinnileaaGreatDoor
set_option maxRecDepth 100000
set_option maxHeartbeats 8000000
open Go.ChangeShapes Go.WideShapes Go.ChangeAt Go.RowKit
set_option linter.unusedVariables false
theorem wrapU (n : Int) : IntKind.u8.wrap n = n % 256 := by simp [IntKind.wrap, IntKind.bits, IntKind.signed]
theorem l02Two_any (n : Int) (w : World) (h0 : 0 ≤ n) (h1 : n < 4294967296) :
  Calls Tryz.prog 101 #[.int .i64 n] w fun e w' => e = .returned (.slice (some ⟨w.heap.size, 0, none⟩) 2 2) ∧ w' = w.alloc (.cells #[.int .u8 (n / 256 % 256), .int .u8 (n % 256)] 5) := by
 have m1 := wrapU (n / 256)
 have m2 := wrapU n
 go_enter Tryz.func101, Tryz.ntmps101
 go_wp2_with fail
 go_ret
 exact ⟨rfl, rfl⟩
theorem own_text {B n1 n2 : Nat} {w w1 w2 : World} {v v1 v2 : Value} {l : List Int} {s : ByteArray} (hl : OwnB B w v l) (h1 : w1.ownsRow B 5 1 v1 n1 (l.map (Value.int .u8) ++ [Value.int .u8 (s.size : Int)])) (hs : s.size ≤ 255)
  (h2 : w2.ownsRow B 5 1 v2 n2 ((l.map (Value.int .u8) ++ [Value.int .u8 (s.size : Int)]) ++ Lib.strCells s)) : OwnB B w2 v2 (l ++ textsL [s]) := by
 have e : (l.map (Value.int .u8) ++ [Value.int .u8 (s.size : Int)]) ++ Lib.strCells s = (l ++ textsL [s]).map (Value.int .u8) := by
  rw [strCells_eq]; simp [textsL]
 rw [e] at h2
 have hn : (l ++ textsL [s]).length = n2 := by have := h2.1; simpa using this
 subst hn
 refine ⟨h2, range_append hl.2 (fun i => ?_)⟩
 cases i with
 | zero => simp [textsL]; omega
 | succ i => simpa [textsL] using bytesI_range s i
theorem textsL_two (a b : ByteArray) : textsL [a] ++ textsL [b] = textsL [a, b] := by simp [textsL]

theorem l02Bytes_any (k s q : Int) (key val : ByteArray) (w : World) (hk0 : 0 ≤ k) (hk1 : k ≤ 255) (hs0 : 0 ≤ s) (hs1 : s ≤ 65535) (hq0 : 0 ≤ q) (hq1 : q ≤ 65535) (hk : key.size ≤ 255) (hv : val.size ≤ 255) :
  Calls Tryz.prog 84 #[.agg #[.int .i64 k, .int .i64 s, .int .i64 q, .string key, .string val]] w fun e w' => ∃ v', e = .returned v' ∧ OwnB w.heap.size w' v' (cmdBytes k s q key val) ∧ Below w.heap.size w w' := by
 obtain ⟨i0, hi, hz0, hz1, hz2⟩ := info_parts info5
 have m1 : IntKind.u8.wrap k = k := by rw [wrapU]; omega
 have m2 : IntKind.u8.wrap (key.size : Int) = (key.size : Int) := by rw [wrapU]; omega
 have m3 : IntKind.u8.wrap (val.size : Int) = (val.size : Int) := by rw [wrapU]; omega
 go_enter Tryz.func84, Tryz.ntmps84
 go_wp2_with fail
 obtain ⟨c0, c1, c2, c3, c4⟩ := five_cell (w := w) (t := 77) (a := .int .i64 k) (b := .int .i64 s) (c := .int .i64 q) (d := .string key) (e := .string val) rfl (Below.refl _ _)
 have hB : w.heap.size < (w.alloc (.cells #[.int .i64 k, .int .i64 s, .int .i64 q, .string key, .string val] 77)).heap.size := by simp
 have HB0 := Hd (bal w (.cells #[.int .i64 k, .int .i64 s, .int .i64 q, .string key, .string val] 77))
 generalize w.alloc (.cells #[.int .i64 k, .int .i64 s, .int .i64 q, .string key, .string val] 77) = w0 at *
 obtain ⟨bx, hbx⟩ : ∃ bx, bx = w.heap.size := ⟨_, rfl⟩
 rw [← hbx] at hB c0 c1 c2 c3 c4 ⊢
 have HBX := Hd hbx
 clear hbx
 go_region_held3 (fun wx => wx.cell? ⟨bx, 0, none⟩ = some (.int .i64 k) ∧ wx.cell? ⟨bx, 1, none⟩ = some (.int .i64 s)) (go_keep)
  (first
   | (go_at_call 101; refine (l02Two_any _ _ hs0 (by omega)).mono ?_; rintro e w' ⟨rfl, rfl⟩)
   | (refine step_append_lies _ (by rfl) _ _ _ (by rfl) (bx + 1) 5 i0 _ 1 1 Tryz.underlying80 hi hz0 hz1 hz2 rfl (by omega) _ 1 _ (by rfl) (own_lit (by first | (refine (heap_old ?_).trans (heap_new ?_) <;> simp <;> done) | (refine heap_new ?_; simp <;> done)) (by omega) rfl (by unfold maxLen; omega)) _ 2 2 [_, _] (by rfl) (by rfl) (World.news_of_block (cs := #[_, _]) (t := 5) (fr := (0, 0)) (by first | (refine (heap_old ?_).trans (heap_new ?_) <;> simp <;> done) | (refine heap_new ?_; simp <;> done))) (by simp [Value.oneCell']) (by omega) (by unfold maxLen; omega) (by omega) (by simp; omega) _ rfl ?_; intro gg capg w1 hown1 hgrow hat hlt1; have hb1 : Below (bx + 1) w0 w1 := ((((Below.refl (bx + 1) w0).alloc (by omega) _).alloc (by simp; omega) _).drew).grown hgrow (by simp; omega) (fun r hr => by simp [Value.ownBlock] at hr; omega); have k0 := (hb1.cell (p := ⟨bx, 0, none⟩) (by simp)).trans c0; have k1 := (hb1.cell (p := ⟨bx, 1, none⟩) (by simp)).trans c1))
 all_goals
  have O1 : Hid (OwnB (bx + 1) w1 (.slice (some ⟨gg, 0, none⟩) 3 capg) [k, s / 256 % 256, s % 256]) := Hd ⟨hown1, fun i => by
   match i with
   | 0 => simp; omega
   | 1 => simp; omega
   | 2 => simp; omega
   | i + 3 => simp⟩
  have HB1 := Hd hb1
  have k2 := (hb1.cell (p := ⟨bx, 2, none⟩) (by simp)).trans c2
  have hsz1 : bx < w1.heap.size := by have := hb1.size; omega
  clear hown1 hgrow hat hlt1 hb1
  rename_i hHeld
  clear hHeld
  go_wp2_with fail
  refine (l02Two_any q w1 hq0 (by omega)).mono ?_
  rintro e w' ⟨rfl, rfl⟩
  go_wp2_with (at_builtin; refine wpList_append_lies _ rfl _ _ _ rfl (bx + 1) 5 i0 _ 1 1 Tryz.underlying80 hi hz0 hz1 hz2 rfl (by omega) _ 3 _ rfl ((uh O1).1.alloc _) ⟨w1.heap.size, 0, none⟩ 2 2 [_, _] rfl rfl (World.news_of_block (cs := #[_, _]) (t := 5) (fr := (0, 0)) (heap_alloc_new w1 _)) (by simp [Value.oneCell']) (by omega) (by unfold maxLen; omega) (by omega) (by simp; omega) _ rfl ?_; intro g2 cap2 w2 hown2 hgrow2 hat2 hlt2)
  have O2 : Hid (OwnB (bx + 1) w2 (.slice (some ⟨g2, 0, none⟩) 5 cap2) [k, s / 256 % 256, s % 256, q / 256 % 256, q % 256]) := Hd ⟨hown2, fun i => by
   match i with
   | 0 => simp; omega
   | 1 => simp; omega
   | 2 => simp; omega
   | 3 => simp; omega
   | 4 => simp; omega
   | i + 5 => simp⟩
  have hb2 : Below (bx + 1) w0 w2 := ((uh HB1).alloc (by omega) _).grown hgrow2 (by simp; omega) (fun r hr => ((uh O1).1.lt r hr).1)
  have HB2 := Hd hb2
  have k3 := (hb2.cell (p := ⟨bx, 3, none⟩) (by simp)).trans c3
  have hsz2 : bx < w2.heap.size := by have := hb2.size; omega
  clear hown2 hgrow2 hat2 hlt2 hb2 k0 k1 k2
  have P2 : Hid (w2.ownsRow (bx + 1) 5 1 (.slice (some ⟨g2, 0, none⟩) 5 cap2) 5 (List.map (Value.int .u8) [k, s / 256 % 256, s % 256, q / 256 % 256, q % 256])) := Hd (uh O2).1
  go_region_held3 (fun wx => wx.cell? ⟨bx, 3, none⟩ = some (.string key)) (go_keep)
   (first
    | (refine step_append_str _ rfl _ _ _ _ rfl (bx + 1) 5 i0 Tryz.underlying80 Tryz.underlying9 hi hz0 hz1 hz2 _ (5 + 1) _ rfl hown3 key rfl (by omega) (by omega) (by omega) ?_; intro g4 cap4 w4 hown4 hgrow4 hat4; have hb4 : Below (bx + 1) w0 w4 := hb3.grown hgrow4 (by omega) (fun r hr => (hown3.lt r hr).1); have k3'' := (hb4.cell (p := ⟨bx, 3, none⟩) (by simp)).trans c3)
    | (refine step_append_lies _ rfl _ _ _ rfl (bx + 1) 5 i0 _ 1 1 Tryz.underlying80 hi hz0 hz1 hz2 rfl (by omega) _ (5) _ rfl (((uh P2).alloc _).drew) ⟨w2.heap.size, 0, none⟩ 1 1 [_] rfl rfl (World.news_of_block (cs := #[_]) (t := 5) (fr := (0, 0)) (heap_alloc_new w2 _)) (by simp [Value.oneCell']) (by omega) (by unfold maxLen; omega) (by omega) (by simp; omega) _ rfl ?_; intro g3 cap3 w3 hown3 hgrow3 hat3 hlt3; have hb3 : Below (bx + 1) w0 w3 := (((uh HB2).alloc (by omega) _).drew).grown hgrow3 (by simp; omega) (fun r hr => ((uh P2).lt r hr).1); have hsz3 : bx < w3.heap.size := (by have := hb3.size; omega); have k3' := (hb3.cell (p := ⟨bx, 3, none⟩) (by simp)).trans c3))
  have O4 := Hd (own_text (uh O2) hown3 hk hown4)
  have HB4 := Hd hb4
  have k4 := (hb4.cell (p := ⟨bx, 4, none⟩) (by simp)).trans c4
  have hsz4 : bx < w4.heap.size := by have := hb4.size; omega
  have P4 := Hd hown4
  clear hown3 hgrow3 hat3 hlt3 hb3 k3 k3' hown4 hgrow4 hat4 hb4 k3''
  rename_i hHeld3
  clear hHeld3
  go_wp2_with fail
  have P5 : Hid (w4.ownsRow (bx + 1) 5 1 (.slice (some ⟨g4, 0, none⟩) (5 + 1 + key.size) cap4) (5 + 1 + key.size) (List.map (Value.int .u8) ([k, s / 256 % 256, s % 256, q / 256 % 256, q % 256] ++ textsL [key]))) := Hd (by
   have h := (uh O4).1
   have hn : ([k, s / 256 % 256, s % 256, q / 256 % 256, q % 256] ++ textsL [key]).length = 5 + 1 + key.size := by simp [textsL_len, sizes]; omega
   rw [hn] at h; exact h)
  go_region_held3 (fun wx => wx.cell? ⟨bx, 4, none⟩ = some (.string val)) (go_keep)
   (first
    | (refine step_append_str _ rfl _ _ _ _ rfl (bx + 1) 5 i0 Tryz.underlying80 Tryz.underlying9 hi hz0 hz1 hz2 _ (5 + 1 + key.size + 1) _ rfl hown5 val rfl (by omega) (by omega) (by omega) ?_; intro g6 cap6 w6 hown6 hgrow6 hat6; have hb6 : Below (bx + 1) w0 w6 := hb5.grown hgrow6 (by omega) (fun r hr => (hown5.lt r hr).1); have k4'' := (hb6.cell (p := ⟨bx, 4, none⟩) (by simp)).trans c4)
    | (refine step_append_lies _ rfl _ _ _ rfl (bx + 1) 5 i0 _ 1 1 Tryz.underlying80 hi hz0 hz1 hz2 rfl (by omega) _ (5 + 1 + key.size) _ rfl (((uh P5).alloc _).drew) ⟨w4.heap.size, 0, none⟩ 1 1 [_] rfl rfl (World.news_of_block (cs := #[_]) (t := 5) (fr := (0, 0)) (heap_alloc_new w4 _)) (by simp [Value.oneCell']) (by omega) (by unfold maxLen; omega) (by omega) (by simp; omega) _ rfl ?_; intro g5 cap5 w5 hown5 hgrow5 hat5 hlt5; have hb5 : Below (bx + 1) w0 w5 := (((uh HB4).alloc (by omega) _).drew).grown hgrow5 (by simp; omega) (fun r hr => ((uh P5).lt r hr).1); have hsz5 : bx < w5.heap.size := (by have := hb5.size; omega); have k4' := (hb5.cell (p := ⟨bx, 4, none⟩) (by simp)).trans c4))
  have O6 := Hd (own_text (uh O4) hown5 hv hown6)
  have HB6 := Hd hb6
  clear hown5 hgrow5 hat5 hlt5 hb5 k4 k4' hown6 hgrow6 hat6 hb6 k4''
  rename_i hHeld4
  clear hHeld4
  go_wp2_with fail
  go_ret
  rw [← uh HBX]
  refine ⟨_, rfl, ?_, by rw [uh HBX]; exact (uh HB0).trans ((uh HB6).mono (by have := uh HBX; omega))⟩
  have h := (uh O6).mono (B' := bx) (by omega)
  have e : [k, s / 256 % 256, s % 256, q / 256 % 256, q % 256] ++ textsL [key] ++ textsL [val] = cmdBytes k s q key val := by
   rw [List.append_assoc, textsL_two]; simp [cmdBytes, encN]; omega
  rw [e] at h
  exact h
end Go.Proofs.YtbchnheinnileaaGreatDoor
namespace Go.Proofs.YtbchnheinnileaaGreatDoor.Sha
set_option maxRecDepth 100000
set_option maxHeartbeats 8000000
open Go.ChangeShapes Go.WideShapes Go.ChangeAt Go.RowKit Go.Deep
set_option linter.unusedVariables false
theorem eqBranch_of (k v : ByteArray) (at_ : Int) (a a2 : Option Addr) (n n2 cap cap2 : Nat) (w : World)
  (HK : ∀ wx, Below w.heap.size w wx → Calls Tryz.prog 53 #[.slice a n cap, .slice a2 n2 cap2] wx fun e w' => e = .returned (.bool true) ∧ Below wx.heap.size wx w') :
  Calls Tryz.prog 24 #[.agg #[.string k, .string v, .int .i64 at_, .slice a n cap], .agg #[.string k, .string v, .int .i64 at_, .slice a2 n2 cap2]] w fun e w' => e = .returned (.bool true) ∧ Below w.heap.size w w' := by
 have HKK := Hd HK
 have B0 := Hd ((bal w (.cells #[.string k, .string v, .int .i64 at_, .slice a n cap] 30)).alloc (by simp) (.cells #[.string k, .string v, .int .i64 at_, .slice a2 n2 cap2] 30))
 clear HK
 go_enter Tryz.func24, Tryz.ntmps24
 go_wp2_with fail
 refine (uh HKK _ (uh B0)).mono ?_
 rintro e w1 ⟨rfl, hb1⟩
 have B1 := hbt B0 hb1
 clear hb1
 go_wp2_with fail
 go_ret
 exact ⟨rfl, uh B1⟩
theorem eqBranchS_any {S : Nat → Prop} {w0 : World} {v : Value} {l : List Br} (h : Brs S w0 v l) : ∀ (S2 : Nat → Prop) (v2 : Value) (w : World), Below w0.heap.size w0 w → Brs S2 w v2 l →
  Calls Tryz.prog 53 #[v, v2] w fun e w' => e = .returned (.bool true) ∧ Below w.heap.size w w' := by
 induction h with
 | nil a cap hc =>
  intro S2 v2 w hb0 h2
  obtain ⟨a2, cap2, rfl, _, _⟩ := h2.shape
  clear hb0 hc h2
  go_enter Tryz.func53, Tryz.ntmps53
  go_wp2_with fail
  go_loopw [5] (fun i wr => i = .int .i64 0 ∧ wr = w) (fun i _ => 0)
  case atStart => exact ⟨rfl, rfl⟩
  case round =>
   obtain ⟨rfl, hwr⟩ := hrel
   subst wr
   go_wp2_with fail
   go_ret
   exact ⟨rfl, Below.refl _ _⟩
 | row b off cap l kv p0 p1 p2 p3 p4 p5 p6 p7 ih =>
  intro S2 v2 w hb0 h2
  have HC := Hd (BrAt.mk p3 p4 p5 p6 p7 : BrAt S w0 b off l kv)
  have HI := Hd ih
  have HB0 := Hd hb0
  have hlm : l.length ≤ 9223372036854775807 := by unfold maxLen at p2; omega
  obtain ⟨a2, cap2, rfl, _, _⟩ := h2.shape
  obtain ⟨b2, off2, kv2, rfl, _, hat2⟩ := h2.at p0
  have HC2 := Hd hat2
  clear p3 p4 p5 p6 p7 ih hb0 p1 p2 h2 hat2
  go_enter Tryz.func53, Tryz.ntmps53
  go_wp2_with fail
  go_loopw [5] (fun i wr => ∃ k : Nat, k ≤ l.length ∧ i = .int .i64 k ∧ Below w.heap.size w wr) (fun i _ => l.length - (intOf i).toNat)
  case atStart => exact ⟨0, Nat.zero_le _, rfl, Below.refl _ _⟩
  case round =>
   obtain ⟨k, hk, rfl, hb⟩ := hrel
   by_cases hlt : k < l.length
   ·obtain ⟨s0, s1, s2, s3⟩ := (uh HC).cells k hlt
    obtain ⟨t0, t1, t2, t3⟩ := (uh HC2).cells k hlt
    have hbl := (uh HC).lt
    have hbl2 := (uh HC2).lt
    have hb00 := (uh HB0).trans (hb.mono (uh HB0).size)
    have c0 := (hb00.cell (p := ⟨b, off + k * 4, none⟩) hbl).trans s0
    have c1 := (hb00.cell (p := ⟨b, off + k * 4 + 1, none⟩) hbl).trans s1
    have c2 := (hb00.cell (p := ⟨b, off + k * 4 + 2, none⟩) hbl).trans s2
    have c3 := (hb00.cell (p := ⟨b, off + k * 4 + 3, none⟩) hbl).trans s3
    have d0 := (hb.cell (p := ⟨b2, off2 + k * 4, none⟩) hbl2).trans t0
    have d1 := (hb.cell (p := ⟨b2, off2 + k * 4 + 1, none⟩) hbl2).trans t1
    have d2 := (hb.cell (p := ⟨b2, off2 + k * 4 + 2, none⟩) hbl2).trans t2
    have d3 := (hb.cell (p := ⟨b2, off2 + k * 4 + 3, none⟩) hbl2).trans t3
    obtain ⟨ka, kc, hkv, _, _⟩ := ((uh HC).kids k hlt).shape
    obtain ⟨ka2, kc2, hkv2, _, _⟩ := ((uh HC2).kids k hlt).shape
    have hk0 : (0 : Int) ≤ (k : Int) := by omega
    have hk1 : (k : Int) < (l.length : Int) := by omega
    have hbs := hb.size
    have hz1 : b < wr.heap.size := Nat.lt_of_lt_of_le hbl hb00.size
    have hz2 : b2 < wr.heap.size := Nat.lt_of_lt_of_le hbl2 hbs
    have HB := Hd hb
    have HT := Hd (fun wx (hbx : Below w.heap.size w wx) => eqBranch_of (l.getD k default).key (l.getD k default).val (l.getD k default).at_ ka ka2 (l.getD k default).kids.length (l.getD k default).kids.length kc kc2 wx
     (fun wy q2 => by
      have hwy := hbx.trans (q2.mono hbx.size)
      have := uh HI k hlt S2 (kv2 k) wy ((uh HB0).trans (hwy.mono (uh HB0).size)) (((uh HC2).kids k hlt).blw hwy)
      rw [hkv, hkv2] at this
      exact this))
    rw [hkv] at c3
    rw [hkv2] at d3
    clear hb00 s0 s1 s2 s3 t0 t1 t2 t3 hb hkv hkv2 hbl hbl2
    generalize (l.getD k default).key = fk at *
    generalize (l.getD k default).val = fv at *
    generalize (l.getD k default).at_ = fa at *
    generalize (l.getD k default).kids.length = fn at *
    go_wp2_with fail
    go_region_held3 (fun wx => wx.cell? ⟨b, off + k * 4, none⟩ = some (.string fk) ∧ wx.cell? ⟨b, off + k * 4 + 1, none⟩ = some (.string fv) ∧ wx.cell? ⟨b, off + k * 4 + 2, none⟩ = some (.int .i64 fa) ∧ wx.cell? ⟨b, off + k * 4 + 3, none⟩ = some (.slice ka fn kc) ∧ wx.cell? ⟨b2, off2 + k * 4, none⟩ = some (.string fk) ∧ wx.cell? ⟨b2, off2 + k * 4 + 1, none⟩ = some (.string fv) ∧ wx.cell? ⟨b2, off2 + k * 4 + 2, none⟩ = some (.int .i64 fa) ∧ wx.cell? ⟨b2, off2 + k * 4 + 3, none⟩ = some (.slice ka2 fn kc2))
     (first | go_keep | exact ⟨(hb2.cell (p := ⟨b, off + k * 4, none⟩) hz1).trans c0, (hb2.cell (p := ⟨b, off + k * 4 + 1, none⟩) hz1).trans c1, (hb2.cell (p := ⟨b, off + k * 4 + 2, none⟩) hz1).trans c2, (hb2.cell (p := ⟨b, off + k * 4 + 3, none⟩) hz1).trans c3, (hb2.cell (p := ⟨b2, off2 + k * 4, none⟩) hz2).trans d0, (hb2.cell (p := ⟨b2, off2 + k * 4 + 1, none⟩) hz2).trans d1, (hb2.cell (p := ⟨b2, off2 + k * 4 + 2, none⟩) hz2).trans d2, (hb2.cell (p := ⟨b2, off2 + k * 4 + 3, none⟩) hz2).trans d3⟩)
     ((go_at_call 24; refine (uh HT _ (below_drewN (uh HB) 1)).mono ?_; rintro e w2 ⟨rfl, hb2⟩))
    all_goals
     have HBZ := Hd ((uh HB).trans (show Below w.heap.size wr w2 from (below_drewN (Below.refl _ wr) 1).trans (hb2.mono (by simpa using hbs))))
     clear hb2 HB HT
     go_wp2_with fail
     refine ⟨⟨k + 1, by omega, by go_num, uh HBZ⟩, ?_⟩
     simp [intOf]; omega
   ·have HB := Hd hb
    clear hb
    go_wp2_with fail
    go_ret
    exact ⟨rfl, uh HB⟩
structure LedR (w : World) (lv kv sv : Value) (ls : List ByteArray) (ks : List Br) (ss : List Se) : Prop where
 lv : Strs w lv ls
 kv : Brs (fun _ => True) w kv ks
 sv : Sess w sv ss
theorem LedR.below {w w' : World} {lv kv sv : Value} {ls : List ByteArray} {ks : List Br} {ss : List Se} (h : LedR w lv kv sv ls ks ss) (hb : Below w.heap.size w w') : LedR w' lv kv sv ls ks ss := ⟨h.lv.below hb, h.kv.blw hb, h.sv.below hb⟩
theorem LedR.shape {w : World} {lv kv sv : Value} {ls : List ByteArray} {ks : List Br} {ss : List Se} (h : LedR w lv kv sv ls ks ss) :
  ∃ la lc ka kc sa sc, lv = .slice la ls.length lc ∧ kv = .slice ka ks.length kc ∧ sv = .slice sa ss.length sc ∧ ls.length ≤ maxLen ∧ ks.length ≤ maxLen ∧ ss.length ≤ maxLen := by
 obtain ⟨la, lc, h1, h2, _⟩ := h.lv
 obtain ⟨ka, kc, h3, h4, h5⟩ := h.kv.shape
 obtain ⟨sa, sc, h6, h7, h8, _⟩ := h.sv
 exact ⟨la, lc, ka, kc, sa, sc, h1, h3, h6, h2, by omega, by omega⟩
def LedO (B : Nat) (w : World) (lv kv sv : Value) (ls : List ByteArray) (ks : List Br) (ss : List Se) : Prop :=
 OwnS B w lv ls ∧ OwnSe B w sv ss ∧ (∀ x, lv.ownBlock = some x → sv.ownBlock ≠ some x) ∧ ∃ S : Nat → Prop, BrO w S kv ks ∧ ∀ x, S x → B ≤ x ∧ x < w.heap.size ∧ lv.ownBlock ≠ some x ∧ sv.ownBlock ≠ some x
theorem LedO.led {B : Nat} {w : World} {lv kv sv : Value} {ls : List ByteArray} {ks : List Br} {ss : List Se} (h : LedO B w lv kv sv ls ks ss) : LedR w lv kv sv ls ks ss := by
 obtain ⟨h1, h2, _, S, h3, _⟩ := h
 exact ⟨h1.strs, h3.brs.mono (fun _ _ => trivial), h2.read⟩
theorem LedO.below {B : Nat} {w w' : World} {lv kv sv : Value} {ls : List ByteArray} {ks : List Br} {ss : List Se} (h : LedO B w lv kv sv ls ks ss) (hb : Below w.heap.size w w') : LedO B w' lv kv sv ls ks ss := by
 obtain ⟨h1, h2, h4, S, h3, h5⟩ := h
 exact ⟨h1.below hb, h2.below hb, h4, S, h3.blw hb, fun x hx => ⟨(h5 x hx).1, Nat.lt_of_lt_of_le (h5 x hx).2.1 hb.size, (h5 x hx).2.2⟩⟩
theorem eqLedger_any (ls : List ByteArray) (k v : ByteArray) (a : Int) (ks : List Br) (ss : List Se) (la : Option Addr) (lc : Nat) (ka : Option Addr) (kc : Nat) (sa : Option Addr) (sc : Nat) (la2 : Option Addr) (lc2 : Nat) (ka2 : Option Addr) (kc2 : Nat) (sa2 : Option Addr) (sc2 : Nat) (w : World)
  (h : LedR w (.slice la ls.length lc) (.slice ka ks.length kc) (.slice sa ss.length sc) ls ks ss) (h' : LedR w (.slice la2 ls.length lc2) (.slice ka2 ks.length kc2) (.slice sa2 ss.length sc2) ls ks ss) (h1 : ls.length ≤ 1048576) (h3 : ss.length ≤ 1048576) :
  Calls Tryz.prog 8 #[.agg #[.slice la ls.length lc, .string k, .string v, .int .i64 a, .slice ka ks.length kc, .slice sa ss.length sc], .agg #[.slice la2 ls.length lc2, .string k, .string v, .int .i64 a, .slice ka2 ks.length kc2, .slice sa2 ss.length sc2]] w fun e w' => e = .returned (.bool true) ∧ Below w.heap.size w w' := by
 have HE1 := Hd (fun wx (hx : Below w.heap.size w wx) => eqStringS_any _ _ ls wx (h.lv.below hx) (h'.lv.below hx) h1)
 have HE2 := Hd (fun wx (hx : Below w.heap.size w wx) => eqBranch_of k v a ka ka2 ks.length ks.length kc kc2 wx (fun wy hy => eqBranchS_any (h.kv.blw hx) _ _ wy hy (h'.kv.blw (hx.trans (hy.mono hx.size)))))
 have HE3 := Hd (fun wx (hx : Below w.heap.size w wx) => eqSessionS_any _ _ ss wx (h.sv.below hx) (h'.sv.below hx) h3)
 have B0 := Hd ((bal w (.cells #[.slice la ls.length lc, .string k, .string v, .int .i64 a, .slice ka ks.length kc, .slice sa ss.length sc] 33)).alloc (by simp) (.cells #[.slice la2 ls.length lc2, .string k, .string v, .int .i64 a, .slice ka2 ks.length kc2, .slice sa2 ss.length sc2] 33))
 have X0 := Hd ((Blk.new w #[.slice la ls.length lc, .string k, .string v, .int .i64 a, .slice ka ks.length kc, .slice sa ss.length sc] 33 w.heap.size rfl).alloc (.cells #[.slice la2 ls.length lc2, .string k, .string v, .int .i64 a, .slice ka2 ks.length kc2, .slice sa2 ss.length sc2] 33))
 have Y0 := Hd (Blk.new (w.alloc (.cells #[.slice la ls.length lc, .string k, .string v, .int .i64 a, .slice ka ks.length kc, .slice sa ss.length sc] 33)) #[.slice la2 ls.length lc2, .string k, .string v, .int .i64 a, .slice ka2 ks.length kc2, .slice sa2 ss.length sc2] 33 (w.heap.size + 1) (by simp))
 clear h h' h1 h3
 go_enter Tryz.func8, Tryz.ntmps8
 go_wp2_with fail
 generalize (w.alloc (.cells #[.slice la ls.length lc, .string k, .string v, .int .i64 a, .slice ka ks.length kc, .slice sa ss.length sc] 33)).alloc (.cells #[.slice la2 ls.length lc2, .string k, .string v, .int .i64 a, .slice ka2 ks.length kc2, .slice sa2 ss.length sc2] 33) = w0 at *
 refine (uh HE1 w0 (uh B0)).mono ?_
 rintro e w1 ⟨rfl, n1, hn1⟩
 have hb1 : Below w0.heap.size w0 w1 := by rw [hn1]; exact below_drewN (Below.refl _ _) n1
 clear hn1
 have K1 := hbt B0 hb1
 have X1 := (uh X0).below hb1
 have Y1 := (uh Y0).below hb1
 have x1 := X1.cell 1 rfl
 have x2 := X1.cell 2 rfl
 have x3 := X1.cell 3 rfl
 have x4 := X1.cell 4 rfl
 have y1 := Y1.cell 1 rfl
 have y2 := Y1.cell 2 rfl
 have y3 := Y1.cell 3 rfl
 have y4 := Y1.cell 4 rfl
 have HX := Hd X1
 have HY := Hd Y1
 clear hb1 X1 Y1 B0 X0 Y0 HE1
 go_wp2_with fail
 refine (uh HE2 w1 (uh K1)).mono ?_
 rintro e w2 ⟨rfl, hb2⟩
 have K2 := hbt K1 hb2
 have X2 := (uh HX).below hb2
 have Y2 := (uh HY).below hb2
 have x5 := X2.cell 5 rfl
 have y5 := Y2.cell 5 rfl
 clear hb2 X2 Y2 K1 HX HY x1 x2 x3 x4 y1 y2 y3 y4 HE2
 go_wp2_with fail
 refine (uh HE3 w2 (uh K2)).mono ?_
 rintro e w3 ⟨rfl, hb3⟩
 have K3 := hbt K2 hb3
 clear hb3
 go_wp2_with fail
 go_ret
 exact ⟨rfl, uh K3⟩
end Go.Proofs.YtbchnheinnileaaGreatDoor.Sha
namespace Go.Proofs.YtbchnheinnileaaGreatDoor
set_option maxRecDepth 100000
set_option maxHeartbeats 8000000
open Go.ChangeShapes Go.WideShapes Go.ChangeAt Go.RowKit
set_option linter.unusedVariables false
theorem Sess.rw {w : World} {v : Value} {l : List Se} (h : Sess w v l) : Rw w v l.length (sesC l) := by
 obtain ⟨a, cap, rfl, hn, hm, hc⟩ := h
 refine ⟨a, cap, rfl, ?_⟩
 rcases hc with h0 | ⟨b, off, rfl, hlt, hc⟩
 ·exact .inl h0
 refine .inr ⟨_, rfl, fun j u hu => ?_⟩
 have hadd : (⟨b, off, none⟩ : Addr).add j = ⟨b, off + j, none⟩ := by unfold Addr.add; split <;> simp_all
 have hj : j < l.length * 5 := by
  have := (List.getElem?_eq_some_iff.1 hu).1
  rwa [sesC_len] at this
 obtain ⟨g0, g1, g2, g3, g4⟩ := sesC_get l (j / 5) (by omega)
 obtain ⟨c0, c1, c2, c3, c4⟩ := hc (j / 5) (by omega)
 rw [hadd]
 rcases (show j % 5 = 0 ∨ j % 5 = 1 ∨ j % 5 = 2 ∨ j % 5 = 3 ∨ j % 5 = 4 by omega) with e | e | e | e | e
 ·rw [show j / 5 * 5 = j by omega] at g0 c0
  rw [c0, ← g0, hu]
 ·rw [show j / 5 * 5 + 1 = j by omega] at g1
  rw [show off + j / 5 * 5 + 1 = off + j by omega] at c1
  rw [c1, ← g1, hu]
 ·rw [show j / 5 * 5 + 2 = j by omega] at g2
  rw [show off + j / 5 * 5 + 2 = off + j by omega] at c2
  rw [c2, ← g2, hu]
 ·rw [show j / 5 * 5 + 3 = j by omega] at g3
  rw [show off + j / 5 * 5 + 3 = off + j by omega] at c3
  rw [c3, ← g3, hu]
 ·rw [show j / 5 * 5 + 4 = j by omega] at g4
  rw [show off + j / 5 * 5 + 4 = off + j by omega] at c4
  rw [c4, ← g4, hu]
end Go.Proofs.YtbchnheinnileaaGreatDoor
namespace Go.Proofs.YtbchnheinnileaaGreatDoor.Sha
set_option maxRecDepth 100000
set_option maxHeartbeats 8000000
open Go.ChangeShapes Go.WideShapes Go.ChangeAt Go.RowKit
set_option linter.unusedVariables false
set_option linter.unusedSimpArgs false
def Bk (B : Nat) (w : World) (p : Nat) (lv : Value) (tp : Option Addr) (sv : Value) (S : Nat → Prop) (ls : List ByteArray) (o : Option Tr) (ss : List Se) : Prop :=
 Blk w p [lv, .pointer tp, sv] ∧ B ≤ p ∧ OwnS B w lv ls ∧ OwnSe B w sv ss ∧ PtrM w S tp o ∧ (∀ x, S x → B ≤ x ∧ x < w.heap.size ∧ x ≠ p ∧ lv.ownBlock ≠ some x ∧ sv.ownBlock ≠ some x) ∧ lv.ownBlock ≠ some p ∧ sv.ownBlock ≠ some p ∧ (∀ x, lv.ownBlock = some x → sv.ownBlock ≠ some x)
theorem Bk.below {B : Nat} {w w' : World} {p : Nat} {lv : Value} {tp : Option Addr} {sv : Value} {S : Nat → Prop} {ls : List ByteArray} {o : Option Tr} {ss : List Se} (h : Bk B w p lv tp sv S ls o ss) (hb : Below w.heap.size w w') : Bk B w' p lv tp sv S ls o ss := by
 obtain ⟨h1, h2, h3, h4, h5, h6, h7⟩ := h
 exact ⟨h1.below hb, h2, h3.below hb, h4.below hb, h5.blw hb, fun x hx => ⟨(h6 x hx).1, Nat.lt_of_lt_of_le (h6 x hx).2.1 hb.size, (h6 x hx).2.2⟩, h7⟩
end Go.Proofs.YtbchnheinnileaaGreatDoor.Sha
namespace Go.Proofs.YtbchnheinnileaaGreatDoor
set_option maxRecDepth 100000
set_option maxHeartbeats 8000000
open Go.ChangeShapes Go.WideShapes Go.ChangeAt Go.RowKit
set_option linter.unusedVariables false
theorem tkH {P : Program} {md : Region.Mode} {ops : Array Oper} {Q : Exit → Act → World → Prop} {S : World → Prop} (i : Nat) {oi : Oper} {v : Value} {fuel : Nat} {listed : Array Bool} {a a' : Act} {w : World} (hi : ops[i]? = some oi)
  (h : wpAnyH P md ops Q S fuel (listed.setIfInBounds i true) a' w)
  (hs : Region.noSelect ops = true := by kernel_rfl) (hf : Region.free md ops listed i = true := by kernel_rfl) (hr : (Region.ready md ops listed).contains i = true := by kernel_rfl)
  (hQ : ∀ c a w, Q (.panic c) (a.put oi.dst v) w → Q (.panic c) a w := by exact fun _ _ _ h => h) (hy : YieldsIf P ops S oi v a := by (refine Or.inl ⟨by rfl, ?_⟩; intro wq hSw; (try dsimp only at hSw); (try simp only [List.getElem_toArray, List.getElem_cons_succ, List.getElem_cons_zero]); go_simp; try with_reducible rfl)) (hS : S w := by assumption)
  (ha : a.put oi.dst v = a' := by ((try simp only [Act.put, List.getElem_toArray, List.getElem_cons_succ, List.getElem_cons_zero, List.setIfInBounds_toArray, List.set_cons_zero, List.set_cons_succ]); try rfl)) : wpAnyH P md ops Q S (fuel + 1) listed a w := by
 subst ha
 exact wpAnyH_take hi hs hf hr hQ hy hS h
theorem outH {P : Program} {md : Region.Mode} {ops : Array Oper} {Q : Exit → Act → World → Prop} {S : World → Prop} {fuel : Nat} {L : Array Bool} {K : Act → World → Prop} {a a' : Act} {w : World} (hK : Shut (∀ a w, S w → (S w → wpAnyH P md ops Q S fuel L a w) → K a w)) (hS : S w) (h : S w → wpAnyH P md ops Q S fuel L a' w)
  (ha : a = a' := by ((try simp only [Act.put, List.getElem_toArray, List.getElem_cons_succ, List.getElem_cons_zero, List.setIfInBounds_toArray, List.set_cons_zero, List.set_cons_succ]); try rfl)) : K a w := by
 subst ha
 exact hK.out _ _ hS h
theorem rdy1 {P : Program} {md : Region.Mode} {ops : Array Oper} {Q : Exit → Act → World → Prop} {S : World → Prop} {fuel : Nat} {L : Array Bool} {a : Act} {w : World} (i : Nat) {oi : Oper} (ei : ops[i]? = some oi) (hi : ∀ K' : Act → World → Prop, Shut (∀ a w, S w → (S w → wpAnyH P md ops Q S fuel (L.setIfInBounds i true) a w) → K' a w) → if Region.wanted oi (yielded ops a.tmps) = true then Oper.wp P oi a w K' Q else K' (a.put oi.dst undef) w) (hr : Region.ready md ops L = [i] := by kernel_rfl) : wpAnyH P md ops Q S (fuel + 1) L a w :=
 wpAnyH_ready hr (by simp) (AllReadyH.cons ei hi AllReadyH.nil)
theorem rdy2 {P : Program} {md : Region.Mode} {ops : Array Oper} {Q : Exit → Act → World → Prop} {S : World → Prop} {fuel : Nat} {L : Array Bool} {a : Act} {w : World} (i j : Nat) {oi oj : Oper} (ei : ops[i]? = some oi) (ej : ops[j]? = some oj) (hi : ∀ K' : Act → World → Prop, Shut (∀ a w, S w → (S w → wpAnyH P md ops Q S fuel (L.setIfInBounds i true) a w) → K' a w) → if Region.wanted oi (yielded ops a.tmps) = true then Oper.wp P oi a w K' Q else K' (a.put oi.dst undef) w) (hj : ∀ K' : Act → World → Prop, Shut (∀ a w, S w → (S w → wpAnyH P md ops Q S fuel (L.setIfInBounds j true) a w) → K' a w) → if Region.wanted oj (yielded ops a.tmps) = true then Oper.wp P oj a w K' Q else K' (a.put oj.dst undef) w) (hr : Region.ready md ops L = [i, j] := by kernel_rfl) : wpAnyH P md ops Q S (fuel + 1) L a w :=
 wpAnyH_ready hr (by simp) (AllReadyH.cons ei hi (AllReadyH.cons ej hj AllReadyH.nil))
end Go.Proofs.YtbchnheinnileaaGreatDoor
