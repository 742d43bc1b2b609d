/- What the proof of the claim needs (joined by program): ApC. -/
import Derived.Test.YtbchnheinnileaaGreatDoorQca10
import Derived.Test.YtbchnheinnileaaGreatDoorQca06
import Derived.Test.YtbchnheinnileaaGreatDoorQca07
import Derived.Test.YtbchnheinnileaaGreatDoorQca08
import Derived.Test.YtbchnheinnileaaGreatDoorQca11
import Derived.Test.YtbchnheinnileaaGreatDoorQca12
import Derived.Deep.RegionHeld3
import Derived.Deep.RegionLaw
import Derived.Deep.Cut
namespace Go.Proofs.YtbchnheinnileaaGreatDoor.Sha
set_option maxRecDepth 100000
set_option maxHeartbeats 8000000
open Go.ChangeShapes Go.WideShapes Go.ChangeAt Go.RowKit Go.Deep
set_option linter.unusedVariables false
set_option linter.unusedSimpArgs false
theorem emp_app (x : ByteArray) : (⟨#[]⟩ : ByteArray) ++ x = x := by
 apply ByteArray.ext
 rw [ByteArray.data_append]
 simp
def valS (k : Int) (v : ByteArray) (there : Bool) (was : ByteArray) : ByteArray := if k = 2 ∧ there = true then was ++ v else v
theorem valS_eq {k : Int} {v was : ByteArray} {there : Bool} (h3 : k ≠ 3) (hw : there = false → was = ⟨#[]⟩) : vbV k v was = valS k v there was := by
 unfold vbV valS
 cases there with
 | true => simp [h3]
 | false => rw [hw rfl]; simp only [emp_app]; split <;> simp [h3]
theorem full_iff {n m : Nat} {k : Int} {v was : ByteArray} {there : Bool} (hn : n ≤ 50) (hm : m ≤ 40) (hw : there = false → was = ⟨#[]⟩) (hws : was.size ≤ 60) (h3 : k = 3 → there = true ∧ v.size = 0) :
  0 < exV n m there (vbV k v was).size ↔ (n = 50 ∨ 60 < (valS k v there was).size ∨ (k ≠ 3 ∧ there = false ∧ m = 40)) := by
 by_cases hk : k = 3
 ·obtain ⟨ht, hv⟩ := h3 hk
  subst ht
  have e1 : vbV k v was = was := by unfold vbV; rw [if_neg (by omega), if_pos hk]
  have e2 : valS k v true was = v := by unfold valS; rw [if_neg (by omega)]
  rw [e1, e2, hv]
  unfold exV
  rw [if_pos rfl]
  constructor
  ·intro h; left; omega
  ·rintro (h | h | h)
   ·omega
   ·omega
   ·exact absurd hk h.1
 ·rw [valS_eq hk hw]
  unfold exV
  cases there with
  | true =>
   rw [if_pos rfl]
   constructor
   ·intro h
    by_cases e : n = 50
    ·exact .inl e
    ·right; left; omega
   ·rintro (h | h | h)
    ·omega
    ·omega
    ·exact absurd h.2.1 (by simp)
  | false =>
   rw [if_neg (by simp)]
   constructor
   ·intro h
    by_cases e : n = 50
    ·exact .inl e
    ·by_cases e2 : 60 < (valS k v false was).size
     ·exact .inr (.inl e2)
     ·exact .inr (.inr ⟨hk, rfl, by omega⟩)
   ·rintro (h | h | h) <;> omega
theorem l07SizeO_any (o : Option Tr) (hok : OkO o) (h40 : lvO o ≤ 1000) (S : Nat → Prop) (kv : Value) (w : World) (hB : Brs S w kv (brOf o).kids) :
  Calls Tryz.prog 79 #[.agg #[.string (brOf o).key, .string (brOf o).val, .int .i64 (brOf o).at_, kv]] w fun e w' => e = .returned (.int .i64 (lvO o)) ∧ Below w.heap.size w w' := by
 cases o with
 | some t => exact l07Size_any t hok h40 S kv w hB
 | none =>
  obtain ⟨sa, cap, rfl, _, hcm⟩ := hB.shape
  have HE := Hd (fun wx => l07Empty_any ⟨#[]⟩ ⟨#[]⟩ 0 [] sa cap wx (by simp))
  have he : emptyBr (.mk ⟨#[]⟩ ⟨#[]⟩ 0 []) = true := rfl
  rw [he] at HE
  have B0 := Hd (bal w (.cells #[.string ⟨#[]⟩, .string ⟨#[]⟩, .int .i64 0, .slice sa 0 cap] 30))
  clear hB he
  show Calls Tryz.prog 79 #[.agg #[.string ⟨#[]⟩, .string ⟨#[]⟩, .int .i64 0, .slice sa 0 cap]] w _
  simp only [List.length_nil] at HE
  go_enter Tryz.func79, Tryz.ntmps79
  go_wp2_with fail
  generalize w.alloc (.cells #[.string ⟨#[]⟩, .string ⟨#[]⟩, .int .i64 0, .slice sa 0 cap] 30) = w1 at *
  refine (uh HE w1).mono ?_
  rintro e w2 ⟨rfl, hb2⟩
  have B2 := hbt B0 hb2
  clear hb2
  go_wp2_with fail
  go_ret
  exact ⟨rfl, uh B2⟩
theorem getR_get {o : Option Tr} {key : ByteArray} {w w' : World} {e : Ending} (h : GetR o key w e w') : ∃ (k v : ByteArray) (a : Int) (sa : Option Addr) (n cap : Nat), e = .returned (.tuple #[.agg #[.string k, .string v, .int .i64 a, .slice sa n cap], .bool (getV o key).isSome]) ∧ Below w.heap.size w w' ∧ ((getV o key).isSome = true → v = (getV o key).getD ⟨#[]⟩) := by
 obtain ⟨k, v, a, sa, n, cap, fb, he, hb, hm⟩ := h
 cases o with
 | none => subst hm; exact ⟨k, v, a, sa, n, cap, he, hb, fun h => by cases h⟩
 | some t =>
  obtain ⟨rfl, rfl⟩ := hm
  refine ⟨k, (leadL (kh key) t).2, a, sa, n, cap, ?_, hb, ?_⟩
  ·rw [he]
   unfold getV
   by_cases e : (leadL (kh key) t).1 = key
   ·simp [e]
   ·simp [e]
  ·unfold getV
   by_cases e : (leadL (kh key) t).1 = key
   ·simp [e]
   ·simp [e]
theorem cmd_small (k s q : Int) (key val : ByteArray) (hk : key.size ≤ 24) (hv : val.size ≤ 60) : 0 < (cmdBytes k s q key val).length ∧ (strOfNums (cmdBytes k s q key val)).size ≤ 100 := by
 have e1 : key.data.size = key.size := rfl
 have e2 : val.data.size = val.size := rfl
 simp only [strOfNums, ByteArray.size, cmdBytes, List.length_append, encN_len, textsL_len, sizes, List.size_toArray, List.length_map]
 omega
theorem blk_rw {w : World} {b : Nat} {cs : List Value} (h : Blk w b cs) : ∀ j u, cs[j]? = some u → w.cell? ((⟨b, 0, none⟩ : Addr).add j) = some u := fun j u hj => by rw [Addr.add_lit, Nat.zero_add]; exact h.cell j hj
theorem mpT_putO (o : Option Tr) (k v : ByteArray) : mpT o k v = putO o k v := by cases o <;> rfl
def ChR (S : Nat → Prop) (lv0 : Value) (ls : List ByteArray) (o : Option Tr) (sv : Value) (r : Re) (w : World) (e : Ending) (w' : World) : Prop :=
 ∃ lv kv, e = .returned (.tuple #[.agg #[lv, .string (brOf o).key, .string (brOf o).val, .int .i64 (brOf o).at_, kv, sv], .agg #[.int .i64 r.kd, .int .i64 r.pl, .string r.vl]]) ∧ Strs w' lv ls ∧ Brs (fun x => S x ∨ w.heap.size ≤ x) w' kv (brOf o).kids ∧ Below w.heap.size w w' ∧ Fresh w.heap.size lv0 lv
theorem ch_tell {S : Nat → Prop} {lv0 sv : Value} {x y : List ByteArray × Option Tr × Re} {w w' : World} {e : Ending} (he : x = y) (h : ChR S lv0 y.1 y.2.1 sv y.2.2 w e w') : ChR S lv0 x.1 x.2.1 sv x.2.2 w e w' := by rw [he]; exact h
theorem l09Change_any (ls : List ByteArray) (o : Option Tr) (la ka sa : Option Addr) (lc kn kc sn sc : Nat) (c : Cm) (w : World) (S : Nat → Prop) (hSb : ∀ x, S x → x < w.heap.size) (hS : Strs w (.slice la ls.length lc) ls) (hK : Brs S w (.slice ka kn kc) (brOf o).kids) (hL : LOK ⟨ls, o, []⟩) (hc : cmK c = true) (h4 : c.kd ≠ 4) (h5 : c.kd ≠ 5) :
  Calls Tryz.prog 65 #[.agg #[.slice la ls.length lc, .string (brOf o).key, .string (brOf o).val, .int .i64 (brOf o).at_, .slice ka kn kc, .slice sa sn sc], .agg #[.int .i64 c.kd, .int .i64 c.ss, .int .i64 c.sq, .string c.ky, .string c.vl]] w fun e w' => ChR S (.slice la ls.length lc) (chOut ls o c (getV o c.ky)).1 (chOut ls o c (getV o c.ky)).2.1 (.slice sa sn sc) (chOut ls o c (getV o c.ky)).2.2 w e w' := by
 obtain ⟨k1, k2, k3, k4, k5⟩ := cmK_key hc h4 h5
 have hks := (okK_iff.1 k1).2
 have hkl := hL.keys
 have hnl := hL.n
 dsimp only at hkl hnl
 have hses := cmK_ses hc
 have hgz : ((getV o c.ky).getD ⟨#[]⟩).size ≤ 60 := by
  cases hg : getV o c.ky with
  | none => show (⟨#[]⟩ : ByteArray).size ≤ 60; decide
  | some y => exact getV_size hL.ok hg
 have HGE := Hd (fun wx (hx : Below w.heap.size w wx) => (l07Get_any o hL.ok hL.ri c.ky hks S (.slice ka kn kc) wx (hK.blw hx)).mono (fun e w' h => getR_get h))
 have HW : Hid ((getV o c.ky).isSome = false → (getV o c.ky).getD ⟨#[]⟩ = ⟨#[]⟩) := Hd (fun h => by
  cases hg : getV o c.ky with
  | none => rfl
  | some y => rw [hg] at h; cases h)
 have HLD : Hid ((getV o c.ky).isSome = true → ∃ t, o = some t ∧ (leadL (kh c.ky) t).1 = c.ky) := Hd (fun h => by
  cases o with
  | none => cases h
  | some t =>
   refine ⟨t, rfl, ?_⟩
   unfold getV at h
   dsimp only at h
   split at h
   ·assumption
   ·cases h)
 have HU := Hd (chW_eq ls o c (getV o c.ky))
 have HUW : Hid (∀ th ws, chW ls o c th ws = if c.kd = 3 ∧ th = false then (ls, o, ⟨2, 0, ⟨#[]⟩⟩) else if 0 < exV ls.length (lvO o) th (vbV c.kd c.vl ws).size then (ls, o, ⟨6, 0, ⟨#[]⟩⟩) else (ls ++ [leafC c], if c.kd = 3 then dropO (kh c.ky) o else some (putO o c.ky (vbV c.kd c.vl ws)), ⟨1, (ls.length : Int) + 1, vbV c.kd c.vl ws⟩)) := Hd (fun th ws => rfl)
 generalize (getV o c.ky).isSome = there at *
 generalize (getV o c.ky).getD ⟨#[]⟩ = was at *
 generalize chOut ls o c (getV o c.ky) = out at *
 have HST := Hd hS
 have HBR := Hd hK
 have HSB := Hd hSb
 clear hSb
 have HLK := Hd hL
 have HC5 := Hd k5
 have HU2 := Hd ((uh HU).trans (uh HUW there was))
 have hSl : ls.length ≤ lc ∧ lc ≤ maxLen ∨ True := .inr trivial
 have B0 := Hd ((((bal w (.cells #[.slice la ls.length lc, .string (brOf o).key, .string (brOf o).val, .int .i64 (brOf o).at_, .slice ka kn kc, .slice sa sn sc] 33)).alloc (by simp) (.cells #[.int .i64 c.kd, .int .i64 c.ss, .int .i64 c.sq, .string c.ky, .string c.vl] 77)).alloc (by simp; omega) (.cells #[.slice none 0 0, .string ⟨#[]⟩, .string ⟨#[]⟩, .int .i64 0, .slice none 0 0, .slice none 0 0] 33)).alloc (by simp; omega) (.cells #[.int .i64 0, .int .i64 0, .string ⟨#[]⟩] 82))
 have X0 := Hd ((((Blk.new w #[.slice la ls.length lc, .string (brOf o).key, .string (brOf o).val, .int .i64 (brOf o).at_, .slice ka kn kc, .slice sa sn sc] 33 (w.heap.size) rfl).alloc (.cells #[.int .i64 c.kd, .int .i64 c.ss, .int .i64 c.sq, .string c.ky, .string c.vl] 77)).alloc (.cells #[.slice none 0 0, .string ⟨#[]⟩, .string ⟨#[]⟩, .int .i64 0, .slice none 0 0, .slice none 0 0] 33)).alloc (.cells #[.int .i64 0, .int .i64 0, .string ⟨#[]⟩] 82))
 have C0 := Hd (((Blk.new (w.alloc (.cells #[.slice la ls.length lc, .string (brOf o).key, .string (brOf o).val, .int .i64 (brOf o).at_, .slice ka kn kc, .slice sa sn sc] 33)) #[.int .i64 c.kd, .int .i64 c.ss, .int .i64 c.sq, .string c.ky, .string c.vl] 77 (w.heap.size + 1) (by simp)).alloc (.cells #[.slice none 0 0, .string ⟨#[]⟩, .string ⟨#[]⟩, .int .i64 0, .slice none 0 0, .slice none 0 0] 33)).alloc (.cells #[.int .i64 0, .int .i64 0, .string ⟨#[]⟩] 82))
 have O0 := Hd ((Blk.new ((w.alloc (.cells #[.slice la ls.length lc, .string (brOf o).key, .string (brOf o).val, .int .i64 (brOf o).at_, .slice ka kn kc, .slice sa sn sc] 33)).alloc (.cells #[.int .i64 c.kd, .int .i64 c.ss, .int .i64 c.sq, .string c.ky, .string c.vl] 77)) #[.slice none 0 0, .string ⟨#[]⟩, .string ⟨#[]⟩, .int .i64 0, .slice none 0 0, .slice none 0 0] 33 (w.heap.size + 1 + 1) (by simp)).alloc (.cells #[.int .i64 0, .int .i64 0, .string ⟨#[]⟩] 82))
 have R0 := Hd (Blk.new (((w.alloc (.cells #[.slice la ls.length lc, .string (brOf o).key, .string (brOf o).val, .int .i64 (brOf o).at_, .slice ka kn kc, .slice sa sn sc] 33)).alloc (.cells #[.int .i64 c.kd, .int .i64 c.ss, .int .i64 c.sq, .string c.ky, .string c.vl] 77)).alloc (.cells #[.slice none 0 0, .string ⟨#[]⟩, .string ⟨#[]⟩, .int .i64 0, .slice none 0 0, .slice none 0 0] 33)) #[.int .i64 0, .int .i64 0, .string ⟨#[]⟩] 82 (w.heap.size + 1 + 1 + 1) (by simp))
 clear hS hK hL hc HU HUW k5 hSl
 go_enter Tryz.func65, Tryz.ntmps65
 go_upto_region 1 with fail
 generalize (((w.alloc (.cells #[.slice la ls.length lc, .string (brOf o).key, .string (brOf o).val, .int .i64 (brOf o).at_, .slice ka kn kc, .slice sa sn sc] 33)).alloc (.cells #[.int .i64 c.kd, .int .i64 c.ss, .int .i64 c.sq, .string c.ky, .string c.vl] 77)).alloc (.cells #[.slice none 0 0, .string ⟨#[]⟩, .string ⟨#[]⟩, .int .i64 0, .slice none 0 0, .slice none 0 0] 33)).alloc (.cells #[.int .i64 0, .int .i64 0, .string ⟨#[]⟩] 82) = w0 at *
 have hw0 : w.heap.size + 1 + 1 + 1 < w0.heap.size := (uh R0).1
 obtain ⟨⟨x0, x1, x2, x3, x4, x5⟩, _⟩ := Blk.c6 (uh X0)
 have bA := bal w0 (.cells #[.slice la ls.length lc, .string (brOf o).key, .string (brOf o).val, .int .i64 (brOf o).at_, .slice ka kn kc, .slice sa sn sc] 33)
 have K1 := hbt B0 bA
 have X1 := Hd ((uh X0).below bA)
 have C1 := Hd ((uh C0).below bA)
 have O1 := Hd ((uh O0).below bA)
 have R1 := Hd ((uh R0).below bA)
 have U1 := Hd (Blk.new w0 #[.slice la ls.length lc, .string (brOf o).key, .string (brOf o).val, .int .i64 (brOf o).at_, .slice ka kn kc, .slice sa sn sc] 33 w0.heap.size rfl)
 have NZ := Blk.new w0 #[.slice none 0 0, .string ⟨#[]⟩, .string ⟨#[]⟩, .int .i64 0, .slice none 0 0, .slice none 0 0] 33 w0.heap.size rfl
 obtain ⟨⟨zc0, zc1, zc2, zc3, zc4, zc5⟩, zf0, zf1, zf2, zf3, zf4, zf5⟩ := Blk.c6 NZ
 clear bA B0 NZ
 go_upto_region 2 with fail
 clear zc0 zf0 zc1 zf1 zc2 zf2 zc3 zf3 zc4 zf4 zc5 zf5 x0 x1 x2 x3 x4 x5 X0 C0 O0 R0
 generalize w0.alloc (.cells #[.slice la ls.length lc, .string (brOf o).key, .string (brOf o).val, .int .i64 (brOf o).at_, .slice ka kn kc, .slice sa sn sc] 33) = w1 at *
 generalize w0.heap.size = ub at *
 have HG1 := Hd (uh HGE w1 (uh K1))
 obtain ⟨⟨x0, x1, x2, x3, x4, x5⟩, _⟩ := Blk.c6 (uh X1)
 obtain ⟨y0, y1, y2, y3, y4⟩ := Blk.c5 (uh C1)
 clear HGE
 go_wp2_with fail
 refine (uh HG1).mono ?_
 rintro e w2 ⟨xk, xv, xa, xs, xn, xc, rfl, hb, hxv⟩
 have HXV := Hd hxv
 clear hxv HG1
 have K2a := (uh K1).trans (hb.mono (uh K1).size)
 have bB := bal w2 (.cells #[.string xk, .string xv, .int .i64 xa, .slice xs xn xc] 30)
 have bC := hb.trans (bB.mono hb.size)
 have K2 := hbt K1 bC
 have X2 := Hd ((uh X1).below bC)
 have C2 := Hd ((uh C1).below bC)
 have O2 := Hd ((uh O1).below bC)
 have R2 := Hd ((uh R1).below bC)
 have U2 := Hd ((uh U1).below bC)
 have V2 := Hd (Blk.new w2 #[.string xk, .string xv, .int .i64 xa, .slice xs xn xc] 30 w2.heap.size rfl)
 have NZ := Blk.new w2 #[.string ⟨#[]⟩, .string ⟨#[]⟩, .int .i64 0, .slice none 0 0] 30 w2.heap.size rfl
 have zc0 := NZ.cell 0 rfl
 have zf0 := NZ.fro 0
 have zc1 := NZ.cell 1 rfl
 have zf1 := NZ.fro 1
 have zc2 := NZ.cell 2 rfl
 have zf2 := NZ.fro 2
 have zc3 := NZ.cell 3 rfl
 have zf3 := NZ.fro 3
 have hub1 : ub < w1.heap.size := (uh U1).1
 have hs12 := hb.size
 clear hb K2a bB bC NZ x0 x1 x2 x3 x4 x5 y0 y1 y2 y3 y4 K1 X1 C1 O1 R1 U1
 go_upto_region 3 with fail
 clear zc0 zf0 zc1 zf1 zc2 zf2 zc3 zf3
 have hxb : ub < w2.heap.size := by omega
 generalize w2.alloc (.cells #[.string xk, .string xv, .int .i64 xa, .slice xs xn xc] 30) = w3 at *
 generalize w2.heap.size = xb at *
 have hw3 : w.heap.size + 1 + 1 + 1 < w3.heap.size := (uh R2).1
 obtain ⟨⟨x0, x1, x2, x3, x4, x5⟩, _⟩ := Blk.c6 (uh X2)
 obtain ⟨y0, y1, y2, y3, y4⟩ := Blk.c5 (uh C2)
 have v1 := (uh V2).cell 1 rfl
 obtain ⟨i0, hi, hz0, hz1, hz2⟩ := info_parts infoStr_
 have HLB := Hd (fun wx => l02Bytes_any c.kd c.ss c.sq c.ky c.vl wx (by omega) (by omega) hses.1 hses.2 k3.1 k3.2 (by omega) (by omega))
 have hbl := cmd_small c.kd c.ss c.sq c.ky c.vl hks k2
 have HLE := Hd (fun wx => l06Leaf_any (strOfNums (cmdBytes c.kd c.ss c.sq c.ky c.vl)) wx (by omega))
 have hlf : leafV (strOfNums (cmdBytes c.kd c.ss c.sq c.ky c.vl)) = leafC c := rfl
 rw [hlf] at HLE
 have HSZ := Hd (fun wx (hx : Below w.heap.size w wx) => l07SizeO_any o (uh HLK).ok (by omega) S (.slice ka kn kc) wx ((uh HBR).blw hx))
 have HPU := Hd (fun wx val (hv : val.size ≤ 60) (hx : Below w.heap.size w wx) => l07Put_any o (uh HLK).ok (uh HLK).ri (uh HLK).sp c.ky val ⟨k1, hv⟩ S (.slice ka kn kc) wx (fun x h9 => Nat.lt_of_lt_of_le (uh HSB x h9) hx.size) ((uh HBR).blw hx))
 clear hlf
 obtain ⟨hbl1, hbl2⟩ := hbl
 by_cases h3 : c.kd = 3
 ·have b3 : (c.kd == 3) = true := by rw [h3]; rfl
  have b3n : (c.kd != 3) = false := by rw [h3]; rfl
  have b2 : (c.kd == 2) = false := by rw [h3]; rfl
  have H3 := Hd h3
  clear h3
  cases there
  ·clear HLD HLB HLE HSZ HPU
   obtain ⟨⟨ox0, ox1, ox2, ox3, ox4, ox5⟩, of0, of1, of2, of3, of4, of5⟩ := Blk.c6 (uh O2)
   obtain ⟨⟨rx0, rx1, rx2⟩, rf0, rf1, rf2⟩ := Blk.c3 (uh R2)
   obtain ⟨HO9, HR9, HT9⟩ := end63 (uh O2) (uh R2) (by omega) (.slice la ls.length lc) (.string (brOf o).key) (.string (brOf o).val) (.int .i64 (brOf o).at_) (.slice ka kn kc) (.slice sa sn sc) (.int .i64 2) (.int .i64 0) (.string ⟨#[]⟩)
   go_wp2_with fail
   obtain ⟨⟨z0, z1, z2, z3, z4, z5⟩, _⟩ := Blk.c6 (uh HO9)
   obtain ⟨⟨y0, y1, y2⟩, _⟩ := Blk.c3 (uh HR9)
   refine bodyPost_ret (v := .tuple #[.agg #[.slice la ls.length lc, .string (brOf o).key, .string (brOf o).val, .int .i64 (brOf o).at_, .slice ka kn kc, .slice sa sn sc], .agg #[.int .i64 2, .int .i64 0, .string ⟨#[]⟩]]) (by simp [results, Tryz.results65, go_sem, z0, z1, z2, z3, z4, z5, y0, y1, y2]) rfl ?_
   have K9 := (uh K2).trans ((uh HT9).below (uh K2).size (fun k9 hk9 e => by rcases e with e | e <;> omega))
   refine ch_tell (by rw [uh HU2, if_pos ⟨uh H3, by first | trivial | rfl⟩]) ⟨_, _, rfl, (uh HST).below K9, ((uh HBR).mono (T := fun x => S x ∨ w.heap.size ≤ x) (fun _ h => .inl h)).blw K9, K9, .inl rfl⟩
  ·obtain rfl : xv = was := uh HXV (by first | trivial | rfl)
   have hvv : vbV c.kd c.vl xv = xv := by unfold vbV; rw [if_neg (by rw [uh H3]; decide), if_pos (uh H3)]
   have hfi := full_iff (n := ls.length) (m := lvO o) (k := c.kd) (v := c.vl) (was := xv) (there := true) hnl hkl (fun e => by cases e) hgz (fun e => ⟨rfl, uh HC5 e⟩)
   have hvs : valS c.kd c.vl true xv = c.vl := by unfold valS; rw [if_neg (fun h => by rw [uh H3] at h; exact absurd h.1 (by decide))]
   rw [hvv, hvs] at hfi
   rw [hvv] at HU2
   have HFI := Hd hfi
   have HDP : Hid (∀ wx, Below w.heap.size w wx → Calls Tryz.prog 80 #[.agg #[.string (brOf o).key, .string (brOf o).val, .int .i64 (brOf o).at_, .slice ka kn kc], .string (kh c.ky), .string c.ky] wx fun e w' => DrR S (brOf (dropO (kh c.ky) o)) wx e w') := Hd (fun wx hx => by
    obtain ⟨t, rfl, hlead⟩ := uh HLD (by first | trivial | rfl)
    exact l07Drop_any (kh c.ky) c.ky (kh_size (by omega)) t (uh HLK).ok _ (uh HLK).ri hlead S (.slice ka kn kc) wx (fun x h9 => Nat.lt_of_lt_of_le (uh HSB x h9) hx.size) ((uh HBR).blw hx))
   clear hfi hvv hvs
   by_cases h50 : ls.length = 50
   ·have q50 : ((ls.length : Int) == 50) = true := by rw [h50]; rfl
    have H50 := Hd h50
    clear h50 HLB HLE HSZ HPU HLD
    obtain ⟨⟨ox0, ox1, ox2, ox3, ox4, ox5⟩, of0, of1, of2, of3, of4, of5⟩ := Blk.c6 (uh O2)
    obtain ⟨⟨rx0, rx1, rx2⟩, rf0, rf1, rf2⟩ := Blk.c3 (uh R2)
    obtain ⟨HO9, HR9, HT9⟩ := end63 (uh O2) (uh R2) (by omega) (.slice la ls.length lc) (.string (brOf o).key) (.string (brOf o).val) (.int .i64 (brOf o).at_) (.slice ka kn kc) (.slice sa sn sc) (.int .i64 6) (.int .i64 0) (.string ⟨#[]⟩)
    go_wp2_with fail
    obtain ⟨⟨z0, z1, z2, z3, z4, z5⟩, _⟩ := Blk.c6 (uh HO9)
    obtain ⟨⟨y0, y1, y2⟩, _⟩ := Blk.c3 (uh HR9)
    refine bodyPost_ret (v := .tuple #[.agg #[.slice la ls.length lc, .string (brOf o).key, .string (brOf o).val, .int .i64 (brOf o).at_, .slice ka kn kc, .slice sa sn sc], .agg #[.int .i64 6, .int .i64 0, .string ⟨#[]⟩]]) (by simp [results, Tryz.results65, go_sem, z0, z1, z2, z3, z4, z5, y0, y1, y2]) rfl ?_
    have K9 := (uh K2).trans ((uh HT9).below (uh K2).size (fun k9 hk9 e => by rcases e with e | e <;> omega))
    refine ch_tell (by rw [uh HU2, if_neg (fun h => by cases h.2), if_pos ((uh HFI).2 (.inl (uh H50)))]) ⟨_, _, rfl, (uh HST).below K9, ((uh HBR).mono (T := fun x => S x ∨ w.heap.size ≤ x) (fun _ h => .inl h)).blw K9, K9, .inl rfl⟩
   have q50 : ((ls.length : Int) == 50) = false := by rw [beq_eq_false_iff_ne]; omega
   have H50 := Hd h50
   have hc0 := uh HC5 (uh H3)
   have q60 : decide ((60 : Int) < (c.vl.size : Int)) = false := by rw [decide_eq_false_iff_not]; omega
   have HHA := Hd (fun wx => l07Hash_any c.ky wx (by omega))
   clear HSZ HPU HLD
   generalize dropO (kh c.ky) o = oN at *
   generalize leafC c = lf at *
   generalize kh c.ky = kk at *
   have hlb : w.heap.size < w3.heap.size := (uh X2).1
   have hcb : w.heap.size + 1 < w3.heap.size := (uh C2).1
   go_upto_region 12 with fail
   refine wp_region_noPanic ?_
   refine wp_region_held_drew (S := (fun wx => wx.cell? ⟨w.heap.size, 1, none⟩ = some (.string (brOf o).key) ∧ wx.cell? ⟨w.heap.size, 2, none⟩ = some (.string (brOf o).val) ∧ wx.cell? ⟨w.heap.size, 3, none⟩ = some (.int .i64 (brOf o).at_) ∧ wx.cell? ⟨w.heap.size, 4, none⟩ = some (.slice ka kn kc) ∧ wx.cell? ⟨w.heap.size + 1, 3, none⟩ = some (.string c.ky))) (by kernel_rfl) ?_ (fun hHeld => ?_)
   ·exact ⟨x1, x2, x3, x4, y3⟩
   refine tkH 0 rfl ?_
   refine tkH 1 rfl ?_
   refine tkH 2 rfl ?_
   refine tkH 3 rfl ?_
   refine tkH 5 rfl ?_
   refine tkH 6 rfl ?_
   have HBq := Hd (below_drewN (Below.refl w3.heap.size w3) 1)
   change Hid (Below w3.heap.size w3 w3.drew) at HBq
   generalize w3.drew = wq at *
   refine rdy1 4 rfl (fun K hK => ?_)
   go_simp
   refine (uh HHA wq).mono ?_
   rintro e wx ⟨rfl, hbx⟩
   have HBx := hbt HBq hbx
   have hbX := uh HBx
   go_wp2_with fail
   refine outH hK ?_ (fun hHeld => ?_)
   ·exact ⟨(hbX.cell (p := ⟨w.heap.size, 1, none⟩) hlb).trans x1, (hbX.cell (p := ⟨w.heap.size, 2, none⟩) hlb).trans x2, (hbX.cell (p := ⟨w.heap.size, 3, none⟩) hlb).trans x3, (hbX.cell (p := ⟨w.heap.size, 4, none⟩) hlb).trans x4, (hbX.cell (p := ⟨w.heap.size + 1, 3, none⟩) hcb).trans y3⟩
   clear hK K
   clear hbX hbx
   refine rdy1 7 rfl (fun K hK => ?_)
   go_simp
   refine (uh HDP wx ((uh K2).trans ((uh HBx).mono (uh K2).size))).mono ?_
   rintro e w5 ⟨na, nn, nc, rfl, hbr, hb5a⟩
   have hb5 := (uh HBx).trans (hb5a.mono (uh HBx).size)
   have hub3 : ub < wx.heap.size := by have := (uh U2).1; have := (uh HBx).size; omega
   have hs5 := hb5.size
   obtain ⟨bN, hbN⟩ : ∃ bN, bN = brOf oN := ⟨_, rfl⟩
   rw [← hbN] at hbr ⊢
   have HBN := Hd hbN
   clear hbN HDP hb5a
   go_wp2_with fail
   refine outH hK ?_ (fun hHeld => ?_)
   ·exact ⟨(hb5.cell (p := ⟨w.heap.size, 1, none⟩) hlb).trans x1, (hb5.cell (p := ⟨w.heap.size, 2, none⟩) hlb).trans x2, (hb5.cell (p := ⟨w.heap.size, 3, none⟩) hlb).trans x3, (hb5.cell (p := ⟨w.heap.size, 4, none⟩) hlb).trans x4, (hb5.cell (p := ⟨w.heap.size + 1, 3, none⟩) hcb).trans y3⟩
   clear hK K
   refine tkH 8 rfl ?_
   have UX := (uh U2).below hb5
   have ux1 := UX.cell 1 rfl
   have uf1 := UX.fro 1
   have ux2 := UX.cell 2 rfl
   have uf2 := UX.fro 2
   have ux3 := UX.cell 3 rfl
   have uf3 := UX.fro 3
   have ux4 := UX.cell 4 rfl
   have uf4 := UX.fro 4
   have TQ := (((((Touch.refl (fun k => k = ub) w5).setCell ⟨ub, 1, none⟩ (.string bN.key) (fun _ => rfl)).setCell ⟨ub, 2, none⟩ (.string bN.val) (fun _ => rfl)).setCell ⟨ub, 3, none⟩ (.int .i64 bN.at_) (fun _ => rfl)).setCell ⟨ub, 4, none⟩ (.slice na nn nc) (fun _ => rfl))
   have hkc := fun (bq i : Nat) (v : Value) (hb9 : bq < w3.heap.size) (hne : bq ≠ ub) (h : w3.cell? ⟨bq, i, none⟩ = some v) => (TQ.cell (p := ⟨bq, i, none⟩) (show bq < w5.heap.size by omega) hne).trans ((hb5.cell (p := ⟨bq, i, none⟩) hb9).trans h)
   refine rdy1 9 rfl (fun K hK => ?_)
   go_simp
   refine outH hK ?_ (fun hHeld => ?_)
   ·exact ⟨hkc _ _ _ hlb (by omega) x1, hkc _ _ _ hlb (by omega) x2, hkc _ _ _ hlb (by omega) x3, hkc _ _ _ hlb (by omega) x4, hkc _ _ _ hcb (by omega) y3⟩
   clear hK K
   refine wpAnyH_done (by kernel_rfl) (NoPanic.normal ?_) _
   clear hkc TQ hHeld
   have TS := (((((Touch.refl (fun k => k = ub) w5).setCell ⟨ub, 1, none⟩ (.string bN.key) (fun _ => rfl)).setCell ⟨ub, 2, none⟩ (.string bN.val) (fun _ => rfl)).setCell ⟨ub, 3, none⟩ (.int .i64 bN.at_) (fun _ => rfl)).setCell ⟨ub, 4, none⟩ (.slice na nn nc) (fun _ => rfl))
   have U6 := Hd ((((UX.set 1 (.string bN.key) (by simp)).set 2 (.string bN.val) (by simp)).set 3 (.int .i64 bN.at_) (by simp)).set 4 (.slice na nn nc) (by simp))
   have K5 := (uh K2).trans (hb5.mono (uh K2).size)
   have K6 := Hd (K5.trans (TS.below K5.size (fun k hk e => by omega)))
   have X6 := Hd (((uh X2).below hb5).kept TS (fun e => by omega))
   have C6 := Hd (((uh C2).below hb5).kept TS (fun e => by omega))
   have O6 := Hd (((uh O2).below hb5).kept TS (fun e => by omega))
   have R6 := Hd (((uh R2).below hb5).kept TS (fun e => by omega))
   have V6 := Hd (((uh V2).below hb5).kept TS (fun e => by omega))
   have BR6 := Hd (hbr.touch (T := fun k => k = ub) TS (fun k hk e => by rcases hk with hk | hk; (have h8 := uh HSB k hk; omega); omega))
   clear UX TS K5 hbr hb5
   clear ux1 uf1 ux2 uf2 ux3 uf3 ux4 uf4 hlb hcb x0 x1 x2 x3 x4 x5 y0 y1 y2 y3 y4 v1 HBq HBx HHA
   generalize ((((w5.setCell ⟨ub, 1, none⟩ (.string bN.key)).setCell ⟨ub, 2, none⟩ (.string bN.val)).setCell ⟨ub, 3, none⟩ (.int .i64 bN.at_)).setCell ⟨ub, 4, none⟩ (.slice na nn nc)) = w6 at *
   have v1 := (uh V6).cell 1 rfl
   have hlb : w.heap.size < w6.heap.size := (uh X6).1
   have hcb : w.heap.size + 1 < w6.heap.size := (uh C6).1
   have hub6 : ub < w6.heap.size := (uh U6).1
   have x0 := (uh X6).cell 0 rfl
   obtain ⟨y0, y1, y2, y3, y4⟩ := Blk.c5 (uh C6)
   have HST6 := Hd ((uh HST).below (uh K6))
   clear K2 X2 C2 O2 R2 U2 V2
   go_upto_region 14 with fail
   have HKS : Hid (∀ wx, Below w6.heap.size w6 wx → (fun wx => wx.cell? ⟨w.heap.size, 0, none⟩ = some (.slice la ls.length lc) ∧ wx.cell? ⟨w.heap.size + 1, 0, none⟩ = some (.int .i64 c.kd) ∧ wx.cell? ⟨w.heap.size + 1, 1, none⟩ = some (.int .i64 c.ss) ∧ wx.cell? ⟨w.heap.size + 1, 2, none⟩ = some (.int .i64 c.sq) ∧ wx.cell? ⟨w.heap.size + 1, 3, none⟩ = some (.string c.ky) ∧ wx.cell? ⟨w.heap.size + 1, 4, none⟩ = some (.string c.vl)) wx) := Hd (fun wx hx => ⟨(hx.cell (p := ⟨w.heap.size, 0, none⟩) hlb).trans x0, (hx.cell (p := ⟨w.heap.size + 1, 0, none⟩) hcb).trans y0, (hx.cell (p := ⟨w.heap.size + 1, 1, none⟩) hcb).trans y1, (hx.cell (p := ⟨w.heap.size + 1, 2, none⟩) hcb).trans y2, (hx.cell (p := ⟨w.heap.size + 1, 3, none⟩) hcb).trans y3, (hx.cell (p := ⟨w.heap.size + 1, 4, none⟩) hcb).trans y4⟩)
   refine wp_region_noPanic ?_
   refine wp_region_held_drew (S := (fun wx => wx.cell? ⟨w.heap.size, 0, none⟩ = some (.slice la ls.length lc) ∧ wx.cell? ⟨w.heap.size + 1, 0, none⟩ = some (.int .i64 c.kd) ∧ wx.cell? ⟨w.heap.size + 1, 1, none⟩ = some (.int .i64 c.ss) ∧ wx.cell? ⟨w.heap.size + 1, 2, none⟩ = some (.int .i64 c.sq) ∧ wx.cell? ⟨w.heap.size + 1, 3, none⟩ = some (.string c.ky) ∧ wx.cell? ⟨w.heap.size + 1, 4, none⟩ = some (.string c.vl))) (by kernel_rfl) ?_ (fun hHeld => ?_)
   ·exact ⟨x0, y0, y1, y2, y3, y4⟩
   refine tkH 1 rfl ?_
   refine tkH 2 rfl ?_
   refine tkH 4 rfl ?_
   have HBq := Hd (below_drewN (Below.refl w6.heap.size w6) 1)
   change Hid (Below w6.heap.size w6 w6.drew) at HBq
   generalize w6.drew = wq at *
   refine rdy1 0 rfl (fun K hK => ?_)
   go_simp
   have HBu := Hd ((uh HBq).alloc (uh HBq).size (.cells #[] 9))
   have HOu := Hd (show (wq.alloc (.cells #[] 9)).ownsRow w6.heap.size 9 1 (.slice (some ⟨wq.heap.size, 0, none⟩) 0 0) 0 [] from World.ownsRow_made wq #[] 0 (uh HBq).size (by unfold maxLen; omega) rfl)
   have hbX := uh HBu
   refine outH hK ?_ (fun hHeld => ?_)
   ·exact uh HKS _ hbX
   clear hK K
   clear hbX
   generalize wq.alloc (.cells #[] 9) = wu at *
   generalize wq.heap.size = bu at *
   refine rdy1 3 rfl (fun K hK => ?_)
   refine step_append_row rfl _ _ _ rfl w6.heap.size 9 i0 _ 1 16 Tryz.underlying27 hi hz0 hz1 hz2 rfl (by omega) _ 0 [] rfl (uh HOu) _ ls.length (ls.map Value.string) rfl ((uh HST6).below (uh HBu)).rw (by simp) (by simp [Value.oneCell']) (by unfold maxLen; omega) (by omega) (uh HBu).size ?_
   intro a2 c2 wv hown2 hgrow2 hat2
   have HBv := Hd ((uh HBu).grown hgrow2 (uh HBu).size (fun r hr => (World.ownsRow.lt (uh HOu) r hr).1))
   have HOv := Hd hown2
   have hbX := uh HBv
   clear hown2 hgrow2 hat2
   refine outH hK ?_ (fun hHeld => ?_)
   ·exact uh HKS _ hbX
   clear hK K
   clear hbX
   simp only [Nat.zero_add, List.nil_append] at HOv ⊢
   refine rdy1 5 rfl (fun K hK => ?_)
   go_simp
   refine (uh HLB wv).mono ?_
   rintro e wx ⟨v5, rfl, hOB, hbx⟩
   have HBx := hbt HBv hbx
   have HOx := Hd (own_kept (T := fun _ => False) (uh HOv) (Touch.ofBelow hbx) (fun _ _ e => e))
   have hcv := own_str hOB hbl1
   have hbX := uh HBx
   go_wp2_with fail
   refine outH hK ?_ (fun hHeld => ?_)
   ·exact uh HKS _ hbX
   clear hK K
   clear hbX hbx hOB
   refine rdy1 6 rfl (fun K hK => ?_)
   go_simp
   have hbX := uh HBx
   refine outH hK ?_ (fun hHeld => ?_)
   ·exact uh HKS _ hbX
   clear hK K
   clear hbX hcv
   refine rdy1 7 rfl (fun K hK => ?_)
   go_simp
   refine (uh HLE wx).mono ?_
   rintro e wy ⟨rfl, hby⟩
   have HBy := hbt HBx hby
   have HOy := Hd (own_kept (T := fun _ => False) (uh HOx) (Touch.ofBelow hby) (fun _ _ e => e))
   have hbX := uh HBy
   go_wp2_with fail
   refine outH hK ?_ (fun hHeld => ?_)
   ·exact uh HKS _ hbX
   clear hK K
   clear hbX hby
   refine rdy1 8 rfl (fun K hK => ?_)
   go_simp
   have HBz := Hd ((uh HBy).alloc (uh HBy).size (.cells #[.string lf] 9))
   have HOz := Hd (World.ownsRow.alloc (uh HOy) (.cells #[.string lf] 9))
   have HVz := Hd (Blk.new wy #[.string lf] 9 wy.heap.size rfl)
   have hbX := uh HBz
   refine outH hK ?_ (fun hHeld => ?_)
   ·exact uh HKS _ hbX
   clear hK K
   clear hbX
   generalize wy.alloc (.cells #[.string lf] 9) = wz at *
   generalize wy.heap.size = vb at *
   refine rdy1 9 rfl (fun K hK => ?_)
   refine step_append_row rfl _ _ _ rfl w6.heap.size 9 i0 _ 1 16 Tryz.underlying27 hi hz0 hz1 hz2 rfl (by omega) _ ls.length _ rfl (uh HOz) _ 1 [.string lf] rfl ⟨_, _, rfl, .inr ⟨_, rfl, blk_rw (uh HVz)⟩⟩ rfl (by simp [Value.oneCell']) (by unfold maxLen; omega) (by omega) (uh HBz).size ?_
   intro a7 c7 w7 hown7 hgrow7 hat7
   have HB7 := Hd ((uh HBz).grown hgrow7 (uh HBz).size (fun r hr => (World.ownsRow.lt (uh HOz) r hr).1))
   have HO7 := Hd (show OwnS w6.heap.size w7 (.slice a7 (ls.length + 1) c7) (ls ++ [lf]) by unfold OwnS; rw [List.length_append, List.map_append]; exact hown7)
   have hbX := uh HB7
   clear hown7 hgrow7 hat7
   refine outH hK ?_ (fun hHeld => ?_)
   ·exact uh HKS _ hbX
   clear hK K
   clear hbX
   refine tkH 10 rfl ?_
   have U7 := (uh U6).below (uh HB7)
   have u0 := U7.cell 0 rfl
   have g0 := U7.fro 0
   have TS := (Touch.refl (fun k => k = ub) w7).setCell ⟨ub, 0, none⟩ (.slice a7 (ls.length + 1) c7) (fun _ => rfl)
   have U8 := Hd (U7.set 0 (.slice a7 (ls.length + 1) c7) (by simp))
   have O8 := Hd (((uh O6).below (uh HB7)).kept TS (fun e => by omega))
   have R8 := Hd (((uh R6).below (uh HB7)).kept TS (fun e => by omega))
   have L8 := Hd ((uh HO7).kept TS (fun k hk e => by have := ((uh HO7).lt k hk).1; omega))
   have BR8 := Hd (((uh BR6).blw (uh HB7)).touch (T := fun k => k = ub) TS (fun k hk e => by rcases hk with hk | hk; (have h8 := uh HSB k hk; omega); omega))
   have hs7 := (uh HB7).size
   have K7 := (uh K6).trans ((uh HB7).mono (uh K6).size)
   have K8 := Hd (K7.trans (TS.below K7.size (fun k hk e => by omega)))
   have hkc := fun (bq i : Nat) (v : Value) (hb9 : bq < w6.heap.size) (hne : bq ≠ ub) (h : w6.cell? ⟨bq, i, none⟩ = some v) => (TS.cell (p := ⟨bq, i, none⟩) (show bq < w7.heap.size by omega) hne).trans (((uh HB7).cell (p := ⟨bq, i, none⟩) hb9).trans h)
   refine rdy1 11 rfl (fun K hK => ?_)
   go_simp
   refine outH hK ?_ (fun hHeld => ?_)
   ·exact ⟨hkc _ _ _ hlb (by omega) x0, hkc _ _ _ hcb (by omega) y0, hkc _ _ _ hcb (by omega) y1, hkc _ _ _ hcb (by omega) y2, hkc _ _ _ hcb (by omega) y3, hkc _ _ _ hcb (by omega) y4⟩
   clear hK K
   refine wpAnyH_done (by kernel_rfl) (NoPanic.normal ?_) _
   clear hkc hHeld U7 TS K7 u0 g0 x0 y0 y1 y2 y3 y4
   generalize w7.setCell ⟨ub, 0, none⟩ (.slice a7 (ls.length + 1) c7) = w8 at *
   have hw8 : w.heap.size + 1 + 1 + 1 < w8.heap.size := (uh R8).1
   have hub8 : ub < w8.heap.size := (uh U8).1
   obtain ⟨⟨u0, u1, u2, u3, u4, u5⟩, _⟩ := Blk.c6 (uh U8)
   go_upto_region 15 with fail
   refine wp_region_noPanic ?_
   refine wp_region_held_drew (S := (fun wx => wx.cell? ⟨ub, 0, none⟩ = some (.slice a7 (ls.length + 1) c7) ∧ wx.cell? ⟨ub, 1, none⟩ = some (.string bN.key) ∧ wx.cell? ⟨ub, 2, none⟩ = some (.string bN.val) ∧ wx.cell? ⟨ub, 3, none⟩ = some (.int .i64 bN.at_) ∧ wx.cell? ⟨ub, 4, none⟩ = some (.slice na nn nc) ∧ wx.cell? ⟨ub, 5, none⟩ = some (.slice sa sn sc))) (by kernel_rfl) ?_ (fun hHeld => ?_)
   ·exact ⟨u0, u1, u2, u3, u4, u5⟩
   refine tkH 0 rfl ?_
   refine tkH 1 rfl ?_
   refine tkH 2 rfl ?_
   refine tkH 3 rfl ?_
   refine tkH 4 rfl ?_
   refine tkH 5 rfl ?_
   have O9_ := Hd ((uh O8).drewN 1)
   have R9_ := Hd ((uh R8).drewN 1)
   have K9_ := Hd (below_drewN (uh K8) 1)
   have L9_ := Hd ((uh L8).below (below_drewN (Below.refl w8.heap.size w8) 1))
   have BR9_ := Hd ((uh BR8).blw (below_drewN (Below.refl w8.heap.size w8) 1))
   change Hid (Blk w8.drew _ _) at O9_
   change Hid (Blk w8.drew _ _) at R9_
   change Hid (Below w.heap.size w w8.drew) at K9_
   change Hid (OwnS _ w8.drew _ _) at L9_
   change Hid (Brs _ w8.drew _ _) at BR9_
   have hd8 : w8.heap.size = w8.drew.heap.size := rfl
   rw [hd8] at hw8 hub8
   clear hd8
   generalize w8.drew = w9 at *
   obtain ⟨⟨ox0, ox1, ox2, ox3, ox4, ox5⟩, of0, of1, of2, of3, of4, of5⟩ := Blk.c6 (uh O9_)
   obtain ⟨⟨rx0, rx1, rx2⟩, rf0, rf1, rf2⟩ := Blk.c3 (uh R9_)
   obtain ⟨HO9, HR9, HT9⟩ := end63 (uh O9_) (uh R9_) (by omega) (.slice a7 (ls.length + 1) c7) (.string bN.key) (.string bN.val) (.int .i64 bN.at_) (.slice na nn nc) (.slice sa sn sc) (.int .i64 1) (.int .i64 ((ls.length : Int) + 1)) (.string xv)
   refine rdy1 6 rfl (fun K hK => ?_)
   go_simp
   refine outH hK ?_ (fun hHeld => ?_)
   ·exact ⟨by go_simp, by go_simp, by go_simp, by go_simp, by go_simp, by go_simp⟩
   clear hK K
   refine rdy1 7 rfl (fun K hK => ?_)
   go_simp
   refine outH hK ?_ (fun hHeld => ?_)
   ·exact ⟨by go_simp, by go_simp, by go_simp, by go_simp, by go_simp, by go_simp⟩
   clear hK K
   refine wpAnyH_done (by kernel_rfl) (NoPanic.normal ?_) _
   clear hHeld
   go_wp2_with fail
   obtain ⟨⟨z0, z1, z2, z3, z4, z5⟩, _⟩ := Blk.c6 (uh HO9)
   obtain ⟨⟨y0, y1, y2⟩, _⟩ := Blk.c3 (uh HR9)
   refine bodyPost_ret (v := .tuple #[.agg #[.slice a7 (ls.length + 1) c7, .string bN.key, .string bN.val, .int .i64 bN.at_, .slice na nn nc, .slice sa sn sc], .agg #[.int .i64 1, .int .i64 ((ls.length : Int) + 1), .string xv]]) (by simp [results, Tryz.results65, go_sem, z0, z1, z2, z3, z4, z5, y0, y1, y2]) rfl ?_
   have K9 := (uh K9_).trans ((uh HT9).below (uh K9_).size (fun k9 hk9 e => by rcases e with e | e <;> omega))
   have hl9 := uh L9_
   have hbn := uh HBN
   clear HBN
   subst hbn
   refine ch_tell (by rw [uh HU2, if_neg (fun h => by cases h.2), if_neg (fun h => by rcases (uh HFI).1 h with h | h | h; exact uh H50 h; omega; exact h.1 (uh H3)), if_pos (uh H3)]) ?_
   refine ⟨_, _, rfl, (hl9.kept (uh HT9) (fun k hk e => by have := (hl9.lt k hk).1; rcases e with e | e <;> omega)).strs, ?_, K9, own_fresh hl9 (by omega)⟩
   exact ((uh BR9_).touch (uh HT9) (fun k hk e => by rcases hk with hk | hk; ((have h8 := uh HSB k hk); rcases e with e | e <;> omega); (rcases e with e | e <;> omega))).mono (fun k hk => hk.imp id (fun h => by omega))
 have b3 : (c.kd == 3) = false := by rw [beq_eq_false_iff_ne]; exact h3
 have b3n : (c.kd != 3) = true := by simp [bne, b3]
 have H3 := Hd h3
 clear h3
 cases there
 ·have hvv : vbV c.kd c.vl was = c.vl := by rw [valS_eq (uh H3) (uh HW)]; unfold valS; rw [if_neg (fun h => by cases h.2)]
  have hfi := full_iff (n := ls.length) (m := lvO o) (k := c.kd) (v := c.vl) (was := was) (there := false) hnl hkl (uh HW) hgz (fun e => absurd e (uh H3))
  have hvs : valS c.kd c.vl false was = c.vl := by unfold valS; rw [if_neg (fun h => by cases h.2)]
  rw [hvv, hvs] at hfi
  rw [hvv] at HU2
  have HFI := Hd hfi
  clear hfi hvv hvs
  cases hb2 : (c.kd == 2)
  all_goals have b2 := hb2
  all_goals clear hb2
  all_goals
   by_cases h50 : ls.length = 50
   ·have q50 : ((ls.length : Int) == 50) = true := by rw [h50]; rfl
    have H50 := Hd h50
    clear h50
    clear HLB HLE HSZ HPU HLD
    obtain ⟨⟨ox0, ox1, ox2, ox3, ox4, ox5⟩, of0, of1, of2, of3, of4, of5⟩ := Blk.c6 (uh O2)
    obtain ⟨⟨rx0, rx1, rx2⟩, rf0, rf1, rf2⟩ := Blk.c3 (uh R2)
    obtain ⟨HO9, HR9, HT9⟩ := end63 (uh O2) (uh R2) (by omega) (.slice la ls.length lc) (.string (brOf o).key) (.string (brOf o).val) (.int .i64 (brOf o).at_) (.slice ka kn kc) (.slice sa sn sc) (.int .i64 6) (.int .i64 0) (.string ⟨#[]⟩)
    go_wp2_with fail
    obtain ⟨⟨z0, z1, z2, z3, z4, z5⟩, _⟩ := Blk.c6 (uh HO9)
    obtain ⟨⟨y0, y1, y2⟩, _⟩ := Blk.c3 (uh HR9)
    refine bodyPost_ret (v := .tuple #[.agg #[.slice la ls.length lc, .string (brOf o).key, .string (brOf o).val, .int .i64 (brOf o).at_, .slice ka kn kc, .slice sa sn sc], .agg #[.int .i64 6, .int .i64 0, .string ⟨#[]⟩]]) (by simp [results, Tryz.results65, go_sem, z0, z1, z2, z3, z4, z5, y0, y1, y2]) rfl ?_
    have K9 := (uh K2).trans ((uh HT9).below (uh K2).size (fun k9 hk9 e => by rcases e with e | e <;> omega))
    refine ch_tell (by rw [uh HU2, if_neg (fun h => uh H3 h.1), if_pos ((uh HFI).2 (.inl (uh H50)))]) ⟨_, _, rfl, (uh HST).below K9, ((uh HBR).mono (T := fun x => S x ∨ w.heap.size ≤ x) (fun _ h => .inl h)).blw K9, K9, .inl rfl⟩
   have q50 : ((ls.length : Int) == 50) = false := by rw [beq_eq_false_iff_ne]; omega
   have H50 := Hd h50
   by_cases h60 : 60 < (c.vl).size
   ·have q60 : decide ((60 : Int) < ((c.vl).size : Int)) = true := by rw [decide_eq_true_eq]; omega
    have H60 := Hd h60
    clear h60
    clear HLB HLE HSZ HPU HLD
    obtain ⟨⟨ox0, ox1, ox2, ox3, ox4, ox5⟩, of0, of1, of2, of3, of4, of5⟩ := Blk.c6 (uh O2)
    obtain ⟨⟨rx0, rx1, rx2⟩, rf0, rf1, rf2⟩ := Blk.c3 (uh R2)
    obtain ⟨HO9, HR9, HT9⟩ := end63 (uh O2) (uh R2) (by omega) (.slice la ls.length lc) (.string (brOf o).key) (.string (brOf o).val) (.int .i64 (brOf o).at_) (.slice ka kn kc) (.slice sa sn sc) (.int .i64 6) (.int .i64 0) (.string ⟨#[]⟩)
    go_wp2_with fail
    obtain ⟨⟨z0, z1, z2, z3, z4, z5⟩, _⟩ := Blk.c6 (uh HO9)
    obtain ⟨⟨y0, y1, y2⟩, _⟩ := Blk.c3 (uh HR9)
    refine bodyPost_ret (v := .tuple #[.agg #[.slice la ls.length lc, .string (brOf o).key, .string (brOf o).val, .int .i64 (brOf o).at_, .slice ka kn kc, .slice sa sn sc], .agg #[.int .i64 6, .int .i64 0, .string ⟨#[]⟩]]) (by simp [results, Tryz.results65, go_sem, z0, z1, z2, z3, z4, z5, y0, y1, y2]) rfl ?_
    have K9 := (uh K2).trans ((uh HT9).below (uh K2).size (fun k9 hk9 e => by rcases e with e | e <;> omega))
    refine ch_tell (by rw [uh HU2, if_neg (fun h => uh H3 h.1), if_pos ((uh HFI).2 (.inr (.inl (uh H60))))]) ⟨_, _, rfl, (uh HST).below K9, ((uh HBR).mono (T := fun x => S x ∨ w.heap.size ≤ x) (fun _ h => .inl h)).blw K9, K9, .inl rfl⟩
   have q60 : decide ((60 : Int) < ((c.vl).size : Int)) = false := by rw [decide_eq_false_iff_not]; omega
   have hv60 : (c.vl).size ≤ 60 := by omega
   have H60 := Hd h60
   clear h60
   have HS1 := Hd (uh HSZ w3 (uh K2))
   by_cases h40 : lvO o = 40
   ·have q40 : ((lvO o : Int) == 40) = true := by rw [h40]; rfl
    have H40 := Hd h40
    clear h40 HLB HLE HSZ HPU HLD
    go_wp2_with fail
    refine (uh HS1).mono ?_
    rintro e w4 ⟨rfl, hb4⟩
    replace K2 := hbt K2 hb4
    replace X2 := Hd ((uh X2).below hb4)
    replace C2 := Hd ((uh C2).below hb4)
    replace O2 := Hd ((uh O2).below hb4)
    replace R2 := Hd ((uh R2).below hb4)
    replace U2 := Hd ((uh U2).below hb4)
    replace V2 := Hd ((uh V2).below hb4)
    have hw4 : w.heap.size + 1 + 1 + 1 < w4.heap.size := (uh R2).1
    clear x0 x1 x2 x3 x4 x5 y0 y1 y2 y3 y4 v1 hb4 HS1
    obtain ⟨⟨x0, x1, x2, x3, x4, x5⟩, _⟩ := Blk.c6 (uh X2)
    obtain ⟨y0, y1, y2, y3, y4⟩ := Blk.c5 (uh C2)
    have v1 := (uh V2).cell 1 rfl
    obtain ⟨⟨ox0, ox1, ox2, ox3, ox4, ox5⟩, of0, of1, of2, of3, of4, of5⟩ := Blk.c6 (uh O2)
    obtain ⟨⟨rx0, rx1, rx2⟩, rf0, rf1, rf2⟩ := Blk.c3 (uh R2)
    obtain ⟨HO9, HR9, HT9⟩ := end63 (uh O2) (uh R2) (by omega) (.slice la ls.length lc) (.string (brOf o).key) (.string (brOf o).val) (.int .i64 (brOf o).at_) (.slice ka kn kc) (.slice sa sn sc) (.int .i64 6) (.int .i64 0) (.string ⟨#[]⟩)
    go_wp2_with fail
    obtain ⟨⟨z0, z1, z2, z3, z4, z5⟩, _⟩ := Blk.c6 (uh HO9)
    obtain ⟨⟨y0, y1, y2⟩, _⟩ := Blk.c3 (uh HR9)
    refine bodyPost_ret (v := .tuple #[.agg #[.slice la ls.length lc, .string (brOf o).key, .string (brOf o).val, .int .i64 (brOf o).at_, .slice ka kn kc, .slice sa sn sc], .agg #[.int .i64 6, .int .i64 0, .string ⟨#[]⟩]]) (by simp [results, Tryz.results65, go_sem, z0, z1, z2, z3, z4, z5, y0, y1, y2]) rfl ?_
    have K9 := (uh K2).trans ((uh HT9).below (uh K2).size (fun k9 hk9 e => by rcases e with e | e <;> omega))
    refine ch_tell (by rw [uh HU2, if_neg (fun h => uh H3 h.1), if_pos ((uh HFI).2 (.inr (.inr ⟨uh H3, by first | trivial | rfl, uh H40⟩)))]) ⟨_, _, rfl, (uh HST).below K9, ((uh HBR).mono (T := fun x => S x ∨ w.heap.size ≤ x) (fun _ h => .inl h)).blw K9, K9, .inl rfl⟩
   have q40 : ((lvO o : Int) == 40) = false := by rw [beq_eq_false_iff_ne]; omega
   have H40 := Hd h40
   clear h40
   go_wp2_with fail
   refine (uh HS1).mono ?_
   rintro e w4 ⟨rfl, hb4⟩
   replace K2 := hbt K2 hb4
   replace X2 := Hd ((uh X2).below hb4)
   replace C2 := Hd ((uh C2).below hb4)
   replace O2 := Hd ((uh O2).below hb4)
   replace R2 := Hd ((uh R2).below hb4)
   replace U2 := Hd ((uh U2).below hb4)
   replace V2 := Hd ((uh V2).below hb4)
   have hw4 : w.heap.size + 1 + 1 + 1 < w4.heap.size := (uh R2).1
   clear x0 x1 x2 x3 x4 x5 y0 y1 y2 y3 y4 v1 hb4 HS1
   obtain ⟨⟨x0, x1, x2, x3, x4, x5⟩, _⟩ := Blk.c6 (uh X2)
   obtain ⟨y0, y1, y2, y3, y4⟩ := Blk.c5 (uh C2)
   have v1 := (uh V2).cell 1 rfl
   have HP1 := Hd (uh HPU w4 c.vl (hv60) (uh K2))
   rw [mpT_putO] at HP1
   have hobn : (putO o c.ky c.vl).toBr = brOf (some (putO o c.ky c.vl)) := rfl
   rw [hobn] at HP1
   clear hobn HPU HSZ HLD
   generalize some (putO o c.ky c.vl) = oN at *
   generalize leafC c = lf at *
   go_wp2_with fail
   refine (uh HP1).mono ?_
   rintro e w5 ⟨na, nn, nc, rfl, hbr, hb5⟩
   have hs5 := hb5.size
   have hub3 : ub < w4.heap.size := (uh U2).1
   obtain ⟨bN, hbN⟩ : ∃ bN, bN = brOf oN := ⟨_, rfl⟩
   rw [← hbN] at hbr ⊢
   have HBN := Hd hbN
   clear hbN HP1 x0 x1 x2 x3 x4 x5 y0 y1 y2 y3 y4 v1
   have UX := (uh U2).below hb5
   have ux1 := UX.cell 1 rfl
   have uf1 := UX.fro 1
   have ux2 := UX.cell 2 rfl
   have uf2 := UX.fro 2
   have ux3 := UX.cell 3 rfl
   have uf3 := UX.fro 3
   have ux4 := UX.cell 4 rfl
   have uf4 := UX.fro 4
   have TS := (((((Touch.refl (fun k => k = ub) w5).setCell ⟨ub, 1, none⟩ (.string bN.key) (fun _ => rfl)).setCell ⟨ub, 2, none⟩ (.string bN.val) (fun _ => rfl)).setCell ⟨ub, 3, none⟩ (.int .i64 bN.at_) (fun _ => rfl)).setCell ⟨ub, 4, none⟩ (.slice na nn nc) (fun _ => rfl))
   have U6 := Hd ((((UX.set 1 (.string bN.key) (by simp)).set 2 (.string bN.val) (by simp)).set 3 (.int .i64 bN.at_) (by simp)).set 4 (.slice na nn nc) (by simp))
   have K5 := (uh K2).trans (hb5.mono (uh K2).size)
   have K6 := Hd (K5.trans (TS.below K5.size (fun k hk e => by omega)))
   have X6 := Hd (((uh X2).below hb5).kept TS (fun e => by omega))
   have C6 := Hd (((uh C2).below hb5).kept TS (fun e => by omega))
   have O6 := Hd (((uh O2).below hb5).kept TS (fun e => by omega))
   have R6 := Hd (((uh R2).below hb5).kept TS (fun e => by omega))
   have V6 := Hd (((uh V2).below hb5).kept TS (fun e => by omega))
   have BR6 := Hd (hbr.touch (T := fun k => k = ub) TS (fun k hk e => by rcases hk with hk | hk; (have h8 := uh HSB k hk; omega); omega))
   clear UX TS K5 hbr hb5
   go_upto_region 14 with fail
   clear ux1 uf1 ux2 uf2 ux3 uf3 ux4 uf4
   generalize ((((w5.setCell ⟨ub, 1, none⟩ (.string bN.key)).setCell ⟨ub, 2, none⟩ (.string bN.val)).setCell ⟨ub, 3, none⟩ (.int .i64 bN.at_)).setCell ⟨ub, 4, none⟩ (.slice na nn nc)) = w6 at *
   have hlb : w.heap.size < w6.heap.size := (uh X6).1
   have hcb : w.heap.size + 1 < w6.heap.size := (uh C6).1
   have hub6 : ub < w6.heap.size := (uh U6).1
   have x0 := (uh X6).cell 0 rfl
   obtain ⟨y0, y1, y2, y3, y4⟩ := Blk.c5 (uh C6)
   have HST6 := Hd ((uh HST).below (uh K6))
   clear K2 X2 C2 O2 R2 U2 V2
   go_upto_region 14 with fail
   have HKS : Hid (∀ wx, Below w6.heap.size w6 wx → (fun wx => wx.cell? ⟨w.heap.size, 0, none⟩ = some (.slice la ls.length lc) ∧ wx.cell? ⟨w.heap.size + 1, 0, none⟩ = some (.int .i64 c.kd) ∧ wx.cell? ⟨w.heap.size + 1, 1, none⟩ = some (.int .i64 c.ss) ∧ wx.cell? ⟨w.heap.size + 1, 2, none⟩ = some (.int .i64 c.sq) ∧ wx.cell? ⟨w.heap.size + 1, 3, none⟩ = some (.string c.ky) ∧ wx.cell? ⟨w.heap.size + 1, 4, none⟩ = some (.string c.vl)) wx) := Hd (fun wx hx => ⟨(hx.cell (p := ⟨w.heap.size, 0, none⟩) hlb).trans x0, (hx.cell (p := ⟨w.heap.size + 1, 0, none⟩) hcb).trans y0, (hx.cell (p := ⟨w.heap.size + 1, 1, none⟩) hcb).trans y1, (hx.cell (p := ⟨w.heap.size + 1, 2, none⟩) hcb).trans y2, (hx.cell (p := ⟨w.heap.size + 1, 3, none⟩) hcb).trans y3, (hx.cell (p := ⟨w.heap.size + 1, 4, none⟩) hcb).trans y4⟩)
   refine wp_region_noPanic ?_
   refine wp_region_held_drew (S := (fun wx => wx.cell? ⟨w.heap.size, 0, none⟩ = some (.slice la ls.length lc) ∧ wx.cell? ⟨w.heap.size + 1, 0, none⟩ = some (.int .i64 c.kd) ∧ wx.cell? ⟨w.heap.size + 1, 1, none⟩ = some (.int .i64 c.ss) ∧ wx.cell? ⟨w.heap.size + 1, 2, none⟩ = some (.int .i64 c.sq) ∧ wx.cell? ⟨w.heap.size + 1, 3, none⟩ = some (.string c.ky) ∧ wx.cell? ⟨w.heap.size + 1, 4, none⟩ = some (.string c.vl))) (by kernel_rfl) ?_ (fun hHeld => ?_)
   ·exact ⟨x0, y0, y1, y2, y3, y4⟩
   refine tkH 1 rfl ?_
   refine tkH 2 rfl ?_
   refine tkH 4 rfl ?_
   have HBq := Hd (below_drewN (Below.refl w6.heap.size w6) 1)
   change Hid (Below w6.heap.size w6 w6.drew) at HBq
   generalize w6.drew = wq at *
   refine rdy1 0 rfl (fun K hK => ?_)
   go_simp
   have HBu := Hd ((uh HBq).alloc (uh HBq).size (.cells #[] 9))
   have HOu := Hd (show (wq.alloc (.cells #[] 9)).ownsRow w6.heap.size 9 1 (.slice (some ⟨wq.heap.size, 0, none⟩) 0 0) 0 [] from World.ownsRow_made wq #[] 0 (uh HBq).size (by unfold maxLen; omega) rfl)
   have hbX := uh HBu
   refine outH hK ?_ (fun hHeld => ?_)
   ·exact uh HKS _ hbX
   clear hK K
   clear hbX
   generalize wq.alloc (.cells #[] 9) = wu at *
   generalize wq.heap.size = bu at *
   refine rdy1 3 rfl (fun K hK => ?_)
   refine step_append_row rfl _ _ _ rfl w6.heap.size 9 i0 _ 1 16 Tryz.underlying27 hi hz0 hz1 hz2 rfl (by omega) _ 0 [] rfl (uh HOu) _ ls.length (ls.map Value.string) rfl ((uh HST6).below (uh HBu)).rw (by simp) (by simp [Value.oneCell']) (by unfold maxLen; omega) (by omega) (uh HBu).size ?_
   intro a2 c2 wv hown2 hgrow2 hat2
   have HBv := Hd ((uh HBu).grown hgrow2 (uh HBu).size (fun r hr => (World.ownsRow.lt (uh HOu) r hr).1))
   have HOv := Hd hown2
   have hbX := uh HBv
   clear hown2 hgrow2 hat2
   refine outH hK ?_ (fun hHeld => ?_)
   ·exact uh HKS _ hbX
   clear hK K
   clear hbX
   simp only [Nat.zero_add, List.nil_append] at HOv ⊢
   refine rdy1 5 rfl (fun K hK => ?_)
   go_simp
   refine (uh HLB wv).mono ?_
   rintro e wx ⟨v5, rfl, hOB, hbx⟩
   have HBx := hbt HBv hbx
   have HOx := Hd (own_kept (T := fun _ => False) (uh HOv) (Touch.ofBelow hbx) (fun _ _ e => e))
   have hcv := own_str hOB hbl1
   have hbX := uh HBx
   go_wp2_with fail
   refine outH hK ?_ (fun hHeld => ?_)
   ·exact uh HKS _ hbX
   clear hK K
   clear hbX hbx hOB
   refine rdy1 6 rfl (fun K hK => ?_)
   go_simp
   have hbX := uh HBx
   refine outH hK ?_ (fun hHeld => ?_)
   ·exact uh HKS _ hbX
   clear hK K
   clear hbX hcv
   refine rdy1 7 rfl (fun K hK => ?_)
   go_simp
   refine (uh HLE wx).mono ?_
   rintro e wy ⟨rfl, hby⟩
   have HBy := hbt HBx hby
   have HOy := Hd (own_kept (T := fun _ => False) (uh HOx) (Touch.ofBelow hby) (fun _ _ e => e))
   have hbX := uh HBy
   go_wp2_with fail
   refine outH hK ?_ (fun hHeld => ?_)
   ·exact uh HKS _ hbX
   clear hK K
   clear hbX hby
   refine rdy1 8 rfl (fun K hK => ?_)
   go_simp
   have HBz := Hd ((uh HBy).alloc (uh HBy).size (.cells #[.string lf] 9))
   have HOz := Hd (World.ownsRow.alloc (uh HOy) (.cells #[.string lf] 9))
   have HVz := Hd (Blk.new wy #[.string lf] 9 wy.heap.size rfl)
   have hbX := uh HBz
   refine outH hK ?_ (fun hHeld => ?_)
   ·exact uh HKS _ hbX
   clear hK K
   clear hbX
   generalize wy.alloc (.cells #[.string lf] 9) = wz at *
   generalize wy.heap.size = vb at *
   refine rdy1 9 rfl (fun K hK => ?_)
   refine step_append_row rfl _ _ _ rfl w6.heap.size 9 i0 _ 1 16 Tryz.underlying27 hi hz0 hz1 hz2 rfl (by omega) _ ls.length _ rfl (uh HOz) _ 1 [.string lf] rfl ⟨_, _, rfl, .inr ⟨_, rfl, blk_rw (uh HVz)⟩⟩ rfl (by simp [Value.oneCell']) (by unfold maxLen; omega) (by omega) (uh HBz).size ?_
   intro a7 c7 w7 hown7 hgrow7 hat7
   have HB7 := Hd ((uh HBz).grown hgrow7 (uh HBz).size (fun r hr => (World.ownsRow.lt (uh HOz) r hr).1))
   have HO7 := Hd (show OwnS w6.heap.size w7 (.slice a7 (ls.length + 1) c7) (ls ++ [lf]) by unfold OwnS; rw [List.length_append, List.map_append]; exact hown7)
   have hbX := uh HB7
   clear hown7 hgrow7 hat7
   refine outH hK ?_ (fun hHeld => ?_)
   ·exact uh HKS _ hbX
   clear hK K
   clear hbX
   refine tkH 10 rfl ?_
   have U7 := (uh U6).below (uh HB7)
   have u0 := U7.cell 0 rfl
   have g0 := U7.fro 0
   have TS := (Touch.refl (fun k => k = ub) w7).setCell ⟨ub, 0, none⟩ (.slice a7 (ls.length + 1) c7) (fun _ => rfl)
   have U8 := Hd (U7.set 0 (.slice a7 (ls.length + 1) c7) (by simp))
   have O8 := Hd (((uh O6).below (uh HB7)).kept TS (fun e => by omega))
   have R8 := Hd (((uh R6).below (uh HB7)).kept TS (fun e => by omega))
   have L8 := Hd ((uh HO7).kept TS (fun k hk e => by have := ((uh HO7).lt k hk).1; omega))
   have BR8 := Hd (((uh BR6).blw (uh HB7)).touch (T := fun k => k = ub) TS (fun k hk e => by rcases hk with hk | hk; (have h8 := uh HSB k hk; omega); omega))
   have hs7 := (uh HB7).size
   have K7 := (uh K6).trans ((uh HB7).mono (uh K6).size)
   have K8 := Hd (K7.trans (TS.below K7.size (fun k hk e => by omega)))
   have hkc := fun (bq i : Nat) (v : Value) (hb9 : bq < w6.heap.size) (hne : bq ≠ ub) (h : w6.cell? ⟨bq, i, none⟩ = some v) => (TS.cell (p := ⟨bq, i, none⟩) (show bq < w7.heap.size by omega) hne).trans (((uh HB7).cell (p := ⟨bq, i, none⟩) hb9).trans h)
   refine rdy1 11 rfl (fun K hK => ?_)
   go_simp
   refine outH hK ?_ (fun hHeld => ?_)
   ·exact ⟨hkc _ _ _ hlb (by omega) x0, hkc _ _ _ hcb (by omega) y0, hkc _ _ _ hcb (by omega) y1, hkc _ _ _ hcb (by omega) y2, hkc _ _ _ hcb (by omega) y3, hkc _ _ _ hcb (by omega) y4⟩
   clear hK K
   refine wpAnyH_done (by kernel_rfl) (NoPanic.normal ?_) _
   clear hkc hHeld U7 TS K7 u0 g0 x0 y0 y1 y2 y3 y4
   generalize w7.setCell ⟨ub, 0, none⟩ (.slice a7 (ls.length + 1) c7) = w8 at *
   have hw8 : w.heap.size + 1 + 1 + 1 < w8.heap.size := (uh R8).1
   have hub8 : ub < w8.heap.size := (uh U8).1
   obtain ⟨⟨u0, u1, u2, u3, u4, u5⟩, _⟩ := Blk.c6 (uh U8)
   go_upto_region 15 with fail
   refine wp_region_noPanic ?_
   refine wp_region_held_drew (S := (fun wx => wx.cell? ⟨ub, 0, none⟩ = some (.slice a7 (ls.length + 1) c7) ∧ wx.cell? ⟨ub, 1, none⟩ = some (.string bN.key) ∧ wx.cell? ⟨ub, 2, none⟩ = some (.string bN.val) ∧ wx.cell? ⟨ub, 3, none⟩ = some (.int .i64 bN.at_) ∧ wx.cell? ⟨ub, 4, none⟩ = some (.slice na nn nc) ∧ wx.cell? ⟨ub, 5, none⟩ = some (.slice sa sn sc))) (by kernel_rfl) ?_ (fun hHeld => ?_)
   ·exact ⟨u0, u1, u2, u3, u4, u5⟩
   refine tkH 0 rfl ?_
   refine tkH 1 rfl ?_
   refine tkH 2 rfl ?_
   refine tkH 3 rfl ?_
   refine tkH 4 rfl ?_
   refine tkH 5 rfl ?_
   have O9_ := Hd ((uh O8).drewN 1)
   have R9_ := Hd ((uh R8).drewN 1)
   have K9_ := Hd (below_drewN (uh K8) 1)
   have L9_ := Hd ((uh L8).below (below_drewN (Below.refl w8.heap.size w8) 1))
   have BR9_ := Hd ((uh BR8).blw (below_drewN (Below.refl w8.heap.size w8) 1))
   change Hid (Blk w8.drew _ _) at O9_
   change Hid (Blk w8.drew _ _) at R9_
   change Hid (Below w.heap.size w w8.drew) at K9_
   change Hid (OwnS _ w8.drew _ _) at L9_
   change Hid (Brs _ w8.drew _ _) at BR9_
   have hd8 : w8.heap.size = w8.drew.heap.size := rfl
   rw [hd8] at hw8 hub8
   clear hd8
   generalize w8.drew = w9 at *
   obtain ⟨⟨ox0, ox1, ox2, ox3, ox4, ox5⟩, of0, of1, of2, of3, of4, of5⟩ := Blk.c6 (uh O9_)
   obtain ⟨⟨rx0, rx1, rx2⟩, rf0, rf1, rf2⟩ := Blk.c3 (uh R9_)
   obtain ⟨HO9, HR9, HT9⟩ := end63 (uh O9_) (uh R9_) (by omega) (.slice a7 (ls.length + 1) c7) (.string bN.key) (.string bN.val) (.int .i64 bN.at_) (.slice na nn nc) (.slice sa sn sc) (.int .i64 1) (.int .i64 ((ls.length : Int) + 1)) (.string c.vl)
   refine rdy1 6 rfl (fun K hK => ?_)
   go_simp
   refine outH hK ?_ (fun hHeld => ?_)
   ·exact ⟨by go_simp, by go_simp, by go_simp, by go_simp, by go_simp, by go_simp⟩
   clear hK K
   refine rdy1 7 rfl (fun K hK => ?_)
   go_simp
   refine outH hK ?_ (fun hHeld => ?_)
   ·exact ⟨by go_simp, by go_simp, by go_simp, by go_simp, by go_simp, by go_simp⟩
   clear hK K
   refine wpAnyH_done (by kernel_rfl) (NoPanic.normal ?_) _
   clear hHeld
   go_wp2_with fail
   obtain ⟨⟨z0, z1, z2, z3, z4, z5⟩, _⟩ := Blk.c6 (uh HO9)
   obtain ⟨⟨y0, y1, y2⟩, _⟩ := Blk.c3 (uh HR9)
   refine bodyPost_ret (v := .tuple #[.agg #[.slice a7 (ls.length + 1) c7, .string bN.key, .string bN.val, .int .i64 bN.at_, .slice na nn nc, .slice sa sn sc], .agg #[.int .i64 1, .int .i64 ((ls.length : Int) + 1), .string c.vl]]) (by simp [results, Tryz.results65, go_sem, z0, z1, z2, z3, z4, z5, y0, y1, y2]) rfl ?_
   have K9 := (uh K9_).trans ((uh HT9).below (uh K9_).size (fun k9 hk9 e => by rcases e with e | e <;> omega))
   have hl9 := uh L9_
   have hbn := uh HBN
   clear HBN
   subst hbn
   refine ch_tell (by rw [uh HU2, if_neg (fun h => uh H3 h.1), if_neg (fun h => by rcases (uh HFI).1 h with h | h | h; exact uh H50 h; exact uh H60 h; exact uh H40 h.2.2), if_neg (uh H3)]) ?_
   refine ⟨_, _, rfl, (hl9.kept (uh HT9) (fun k hk e => by have := (hl9.lt k hk).1; rcases e with e | e <;> omega)).strs, ?_, K9, own_fresh hl9 (by omega)⟩
   exact ((uh BR9_).touch (uh HT9) (fun k hk e => by rcases hk with hk | hk; ((have h8 := uh HSB k hk); rcases e with e | e <;> omega); (rcases e with e | e <;> omega))).mono (fun k hk => hk.imp id (fun h => by omega))
 ·obtain rfl : xv = was := uh HXV (by first | trivial | rfl)
  by_cases h2 : c.kd = 2
  ·have b2 : (c.kd == 2) = true := by rw [h2]; rfl
   have H2 := Hd h2
   clear h2
   have hvv : vbV c.kd c.vl xv = xv ++ c.vl := by unfold vbV; rw [if_pos (uh H2)]
   have hfi := full_iff (n := ls.length) (m := lvO o) (k := c.kd) (v := c.vl) (was := xv) (there := true) hnl hkl (fun e => by cases e) hgz (fun e => absurd e (uh H3))
   rw [hvv] at hfi HU2
   have HFI := Hd hfi
   have hvs : valS c.kd c.vl true xv = xv ++ c.vl := by unfold valS; rw [if_pos ⟨uh H2, rfl⟩]
   rw [hvs] at HFI
   clear hfi hvv hvs
   go_upto_region 7 with fail
   have hvz : (xv ++ c.vl).size ≤ 200 := by rw [ByteArray.size_append]; omega
   generalize xv ++ c.vl = vv at *
   by_cases h50 : ls.length = 50
   ·have q50 : ((ls.length : Int) == 50) = true := by rw [h50]; rfl
    have H50 := Hd h50
    clear h50
    clear HLB HLE HSZ HPU HLD
    obtain ⟨⟨ox0, ox1, ox2, ox3, ox4, ox5⟩, of0, of1, of2, of3, of4, of5⟩ := Blk.c6 (uh O2)
    obtain ⟨⟨rx0, rx1, rx2⟩, rf0, rf1, rf2⟩ := Blk.c3 (uh R2)
    obtain ⟨HO9, HR9, HT9⟩ := end63 (uh O2) (uh R2) (by omega) (.slice la ls.length lc) (.string (brOf o).key) (.string (brOf o).val) (.int .i64 (brOf o).at_) (.slice ka kn kc) (.slice sa sn sc) (.int .i64 6) (.int .i64 0) (.string ⟨#[]⟩)
    go_wp2_with fail
    obtain ⟨⟨z0, z1, z2, z3, z4, z5⟩, _⟩ := Blk.c6 (uh HO9)
    obtain ⟨⟨y0, y1, y2⟩, _⟩ := Blk.c3 (uh HR9)
    refine bodyPost_ret (v := .tuple #[.agg #[.slice la ls.length lc, .string (brOf o).key, .string (brOf o).val, .int .i64 (brOf o).at_, .slice ka kn kc, .slice sa sn sc], .agg #[.int .i64 6, .int .i64 0, .string ⟨#[]⟩]]) (by simp [results, Tryz.results65, go_sem, z0, z1, z2, z3, z4, z5, y0, y1, y2]) rfl ?_
    have K9 := (uh K2).trans ((uh HT9).below (uh K2).size (fun k9 hk9 e => by rcases e with e | e <;> omega))
    refine ch_tell (by rw [uh HU2, if_neg (fun h => uh H3 h.1), if_pos ((uh HFI).2 (.inl (uh H50)))]) ⟨_, _, rfl, (uh HST).below K9, ((uh HBR).mono (T := fun x => S x ∨ w.heap.size ≤ x) (fun _ h => .inl h)).blw K9, K9, .inl rfl⟩
   have q50 : ((ls.length : Int) == 50) = false := by rw [beq_eq_false_iff_ne]; omega
   have H50 := Hd h50
   by_cases h60 : 60 < (vv).size
   ·have q60 : decide ((60 : Int) < ((vv).size : Int)) = true := by rw [decide_eq_true_eq]; omega
    have H60 := Hd h60
    clear h60
    clear HLB HLE HSZ HPU HLD
    obtain ⟨⟨ox0, ox1, ox2, ox3, ox4, ox5⟩, of0, of1, of2, of3, of4, of5⟩ := Blk.c6 (uh O2)
    obtain ⟨⟨rx0, rx1, rx2⟩, rf0, rf1, rf2⟩ := Blk.c3 (uh R2)
    obtain ⟨HO9, HR9, HT9⟩ := end63 (uh O2) (uh R2) (by omega) (.slice la ls.length lc) (.string (brOf o).key) (.string (brOf o).val) (.int .i64 (brOf o).at_) (.slice ka kn kc) (.slice sa sn sc) (.int .i64 6) (.int .i64 0) (.string ⟨#[]⟩)
    go_wp2_with fail
    obtain ⟨⟨z0, z1, z2, z3, z4, z5⟩, _⟩ := Blk.c6 (uh HO9)
    obtain ⟨⟨y0, y1, y2⟩, _⟩ := Blk.c3 (uh HR9)
    refine bodyPost_ret (v := .tuple #[.agg #[.slice la ls.length lc, .string (brOf o).key, .string (brOf o).val, .int .i64 (brOf o).at_, .slice ka kn kc, .slice sa sn sc], .agg #[.int .i64 6, .int .i64 0, .string ⟨#[]⟩]]) (by simp [results, Tryz.results65, go_sem, z0, z1, z2, z3, z4, z5, y0, y1, y2]) rfl ?_
    have K9 := (uh K2).trans ((uh HT9).below (uh K2).size (fun k9 hk9 e => by rcases e with e | e <;> omega))
    refine ch_tell (by rw [uh HU2, if_neg (fun h => uh H3 h.1), if_pos ((uh HFI).2 (.inr (.inl (uh H60))))]) ⟨_, _, rfl, (uh HST).below K9, ((uh HBR).mono (T := fun x => S x ∨ w.heap.size ≤ x) (fun _ h => .inl h)).blw K9, K9, .inl rfl⟩
   have q60 : decide ((60 : Int) < ((vv).size : Int)) = false := by rw [decide_eq_false_iff_not]; omega
   have hv60 : (vv).size ≤ 60 := by omega
   have H60 := Hd h60
   clear h60
   have HP1 := Hd (uh HPU w3 vv (hv60) (uh K2))
   rw [mpT_putO] at HP1
   have hobn : (putO o c.ky vv).toBr = brOf (some (putO o c.ky vv)) := rfl
   rw [hobn] at HP1
   clear hobn HPU HSZ HLD
   generalize some (putO o c.ky vv) = oN at *
   generalize leafC c = lf at *
   go_wp2_with fail
   refine (uh HP1).mono ?_
   rintro e w5 ⟨na, nn, nc, rfl, hbr, hb5⟩
   have hs5 := hb5.size
   have hub3 : ub < w3.heap.size := (uh U2).1
   obtain ⟨bN, hbN⟩ : ∃ bN, bN = brOf oN := ⟨_, rfl⟩
   rw [← hbN] at hbr ⊢
   have HBN := Hd hbN
   clear hbN HP1 x0 x1 x2 x3 x4 x5 y0 y1 y2 y3 y4 v1
   have UX := (uh U2).below hb5
   have ux1 := UX.cell 1 rfl
   have uf1 := UX.fro 1
   have ux2 := UX.cell 2 rfl
   have uf2 := UX.fro 2
   have ux3 := UX.cell 3 rfl
   have uf3 := UX.fro 3
   have ux4 := UX.cell 4 rfl
   have uf4 := UX.fro 4
   have TS := (((((Touch.refl (fun k => k = ub) w5).setCell ⟨ub, 1, none⟩ (.string bN.key) (fun _ => rfl)).setCell ⟨ub, 2, none⟩ (.string bN.val) (fun _ => rfl)).setCell ⟨ub, 3, none⟩ (.int .i64 bN.at_) (fun _ => rfl)).setCell ⟨ub, 4, none⟩ (.slice na nn nc) (fun _ => rfl))
   have U6 := Hd ((((UX.set 1 (.string bN.key) (by simp)).set 2 (.string bN.val) (by simp)).set 3 (.int .i64 bN.at_) (by simp)).set 4 (.slice na nn nc) (by simp))
   have K5 := (uh K2).trans (hb5.mono (uh K2).size)
   have K6 := Hd (K5.trans (TS.below K5.size (fun k hk e => by omega)))
   have X6 := Hd (((uh X2).below hb5).kept TS (fun e => by omega))
   have C6 := Hd (((uh C2).below hb5).kept TS (fun e => by omega))
   have O6 := Hd (((uh O2).below hb5).kept TS (fun e => by omega))
   have R6 := Hd (((uh R2).below hb5).kept TS (fun e => by omega))
   have V6 := Hd (((uh V2).below hb5).kept TS (fun e => by omega))
   have BR6 := Hd (hbr.touch (T := fun k => k = ub) TS (fun k hk e => by rcases hk with hk | hk; (have h8 := uh HSB k hk; omega); omega))
   clear UX TS K5 hbr hb5
   go_upto_region 14 with fail
   clear ux1 uf1 ux2 uf2 ux3 uf3 ux4 uf4
   generalize ((((w5.setCell ⟨ub, 1, none⟩ (.string bN.key)).setCell ⟨ub, 2, none⟩ (.string bN.val)).setCell ⟨ub, 3, none⟩ (.int .i64 bN.at_)).setCell ⟨ub, 4, none⟩ (.slice na nn nc)) = w6 at *
   have hlb : w.heap.size < w6.heap.size := (uh X6).1
   have hcb : w.heap.size + 1 < w6.heap.size := (uh C6).1
   have hub6 : ub < w6.heap.size := (uh U6).1
   have x0 := (uh X6).cell 0 rfl
   obtain ⟨y0, y1, y2, y3, y4⟩ := Blk.c5 (uh C6)
   have HST6 := Hd ((uh HST).below (uh K6))
   clear K2 X2 C2 O2 R2 U2 V2
   go_upto_region 14 with fail
   have HKS : Hid (∀ wx, Below w6.heap.size w6 wx → (fun wx => wx.cell? ⟨w.heap.size, 0, none⟩ = some (.slice la ls.length lc) ∧ wx.cell? ⟨w.heap.size + 1, 0, none⟩ = some (.int .i64 c.kd) ∧ wx.cell? ⟨w.heap.size + 1, 1, none⟩ = some (.int .i64 c.ss) ∧ wx.cell? ⟨w.heap.size + 1, 2, none⟩ = some (.int .i64 c.sq) ∧ wx.cell? ⟨w.heap.size + 1, 3, none⟩ = some (.string c.ky) ∧ wx.cell? ⟨w.heap.size + 1, 4, none⟩ = some (.string c.vl)) wx) := Hd (fun wx hx => ⟨(hx.cell (p := ⟨w.heap.size, 0, none⟩) hlb).trans x0, (hx.cell (p := ⟨w.heap.size + 1, 0, none⟩) hcb).trans y0, (hx.cell (p := ⟨w.heap.size + 1, 1, none⟩) hcb).trans y1, (hx.cell (p := ⟨w.heap.size + 1, 2, none⟩) hcb).trans y2, (hx.cell (p := ⟨w.heap.size + 1, 3, none⟩) hcb).trans y3, (hx.cell (p := ⟨w.heap.size + 1, 4, none⟩) hcb).trans y4⟩)
   refine wp_region_noPanic ?_
   refine wp_region_held_drew (S := (fun wx => wx.cell? ⟨w.heap.size, 0, none⟩ = some (.slice la ls.length lc) ∧ wx.cell? ⟨w.heap.size + 1, 0, none⟩ = some (.int .i64 c.kd) ∧ wx.cell? ⟨w.heap.size + 1, 1, none⟩ = some (.int .i64 c.ss) ∧ wx.cell? ⟨w.heap.size + 1, 2, none⟩ = some (.int .i64 c.sq) ∧ wx.cell? ⟨w.heap.size + 1, 3, none⟩ = some (.string c.ky) ∧ wx.cell? ⟨w.heap.size + 1, 4, none⟩ = some (.string c.vl))) (by kernel_rfl) ?_ (fun hHeld => ?_)
   ·exact ⟨x0, y0, y1, y2, y3, y4⟩
   refine tkH 1 rfl ?_
   refine tkH 2 rfl ?_
   refine tkH 4 rfl ?_
   have HBq := Hd (below_drewN (Below.refl w6.heap.size w6) 1)
   change Hid (Below w6.heap.size w6 w6.drew) at HBq
   generalize w6.drew = wq at *
   refine rdy1 0 rfl (fun K hK => ?_)
   go_simp
   have HBu := Hd ((uh HBq).alloc (uh HBq).size (.cells #[] 9))
   have HOu := Hd (show (wq.alloc (.cells #[] 9)).ownsRow w6.heap.size 9 1 (.slice (some ⟨wq.heap.size, 0, none⟩) 0 0) 0 [] from World.ownsRow_made wq #[] 0 (uh HBq).size (by unfold maxLen; omega) rfl)
   have hbX := uh HBu
   refine outH hK ?_ (fun hHeld => ?_)
   ·exact uh HKS _ hbX
   clear hK K
   clear hbX
   generalize wq.alloc (.cells #[] 9) = wu at *
   generalize wq.heap.size = bu at *
   refine rdy1 3 rfl (fun K hK => ?_)
   refine step_append_row rfl _ _ _ rfl w6.heap.size 9 i0 _ 1 16 Tryz.underlying27 hi hz0 hz1 hz2 rfl (by omega) _ 0 [] rfl (uh HOu) _ ls.length (ls.map Value.string) rfl ((uh HST6).below (uh HBu)).rw (by simp) (by simp [Value.oneCell']) (by unfold maxLen; omega) (by omega) (uh HBu).size ?_
   intro a2 c2 wv hown2 hgrow2 hat2
   have HBv := Hd ((uh HBu).grown hgrow2 (uh HBu).size (fun r hr => (World.ownsRow.lt (uh HOu) r hr).1))
   have HOv := Hd hown2
   have hbX := uh HBv
   clear hown2 hgrow2 hat2
   refine outH hK ?_ (fun hHeld => ?_)
   ·exact uh HKS _ hbX
   clear hK K
   clear hbX
   simp only [Nat.zero_add, List.nil_append] at HOv ⊢
   refine rdy1 5 rfl (fun K hK => ?_)
   go_simp
   refine (uh HLB wv).mono ?_
   rintro e wx ⟨v5, rfl, hOB, hbx⟩
   have HBx := hbt HBv hbx
   have HOx := Hd (own_kept (T := fun _ => False) (uh HOv) (Touch.ofBelow hbx) (fun _ _ e => e))
   have hcv := own_str hOB hbl1
   have hbX := uh HBx
   go_wp2_with fail
   refine outH hK ?_ (fun hHeld => ?_)
   ·exact uh HKS _ hbX
   clear hK K
   clear hbX hbx hOB
   refine rdy1 6 rfl (fun K hK => ?_)
   go_simp
   have hbX := uh HBx
   refine outH hK ?_ (fun hHeld => ?_)
   ·exact uh HKS _ hbX
   clear hK K
   clear hbX hcv
   refine rdy1 7 rfl (fun K hK => ?_)
   go_simp
   refine (uh HLE wx).mono ?_
   rintro e wy ⟨rfl, hby⟩
   have HBy := hbt HBx hby
   have HOy := Hd (own_kept (T := fun _ => False) (uh HOx) (Touch.ofBelow hby) (fun _ _ e => e))
   have hbX := uh HBy
   go_wp2_with fail
   refine outH hK ?_ (fun hHeld => ?_)
   ·exact uh HKS _ hbX
   clear hK K
   clear hbX hby
   refine rdy1 8 rfl (fun K hK => ?_)
   go_simp
   have HBz := Hd ((uh HBy).alloc (uh HBy).size (.cells #[.string lf] 9))
   have HOz := Hd (World.ownsRow.alloc (uh HOy) (.cells #[.string lf] 9))
   have HVz := Hd (Blk.new wy #[.string lf] 9 wy.heap.size rfl)
   have hbX := uh HBz
   refine outH hK ?_ (fun hHeld => ?_)
   ·exact uh HKS _ hbX
   clear hK K
   clear hbX
   generalize wy.alloc (.cells #[.string lf] 9) = wz at *
   generalize wy.heap.size = vb at *
   refine rdy1 9 rfl (fun K hK => ?_)
   refine step_append_row rfl _ _ _ rfl w6.heap.size 9 i0 _ 1 16 Tryz.underlying27 hi hz0 hz1 hz2 rfl (by omega) _ ls.length _ rfl (uh HOz) _ 1 [.string lf] rfl ⟨_, _, rfl, .inr ⟨_, rfl, blk_rw (uh HVz)⟩⟩ rfl (by simp [Value.oneCell']) (by unfold maxLen; omega) (by omega) (uh HBz).size ?_
   intro a7 c7 w7 hown7 hgrow7 hat7
   have HB7 := Hd ((uh HBz).grown hgrow7 (uh HBz).size (fun r hr => (World.ownsRow.lt (uh HOz) r hr).1))
   have HO7 := Hd (show OwnS w6.heap.size w7 (.slice a7 (ls.length + 1) c7) (ls ++ [lf]) by unfold OwnS; rw [List.length_append, List.map_append]; exact hown7)
   have hbX := uh HB7
   clear hown7 hgrow7 hat7
   refine outH hK ?_ (fun hHeld => ?_)
   ·exact uh HKS _ hbX
   clear hK K
   clear hbX
   refine tkH 10 rfl ?_
   have U7 := (uh U6).below (uh HB7)
   have u0 := U7.cell 0 rfl
   have g0 := U7.fro 0
   have TS := (Touch.refl (fun k => k = ub) w7).setCell ⟨ub, 0, none⟩ (.slice a7 (ls.length + 1) c7) (fun _ => rfl)
   have U8 := Hd (U7.set 0 (.slice a7 (ls.length + 1) c7) (by simp))
   have O8 := Hd (((uh O6).below (uh HB7)).kept TS (fun e => by omega))
   have R8 := Hd (((uh R6).below (uh HB7)).kept TS (fun e => by omega))
   have L8 := Hd ((uh HO7).kept TS (fun k hk e => by have := ((uh HO7).lt k hk).1; omega))
   have BR8 := Hd (((uh BR6).blw (uh HB7)).touch (T := fun k => k = ub) TS (fun k hk e => by rcases hk with hk | hk; (have h8 := uh HSB k hk; omega); omega))
   have hs7 := (uh HB7).size
   have K7 := (uh K6).trans ((uh HB7).mono (uh K6).size)
   have K8 := Hd (K7.trans (TS.below K7.size (fun k hk e => by omega)))
   have hkc := fun (bq i : Nat) (v : Value) (hb9 : bq < w6.heap.size) (hne : bq ≠ ub) (h : w6.cell? ⟨bq, i, none⟩ = some v) => (TS.cell (p := ⟨bq, i, none⟩) (show bq < w7.heap.size by omega) hne).trans (((uh HB7).cell (p := ⟨bq, i, none⟩) hb9).trans h)
   refine rdy1 11 rfl (fun K hK => ?_)
   go_simp
   refine outH hK ?_ (fun hHeld => ?_)
   ·exact ⟨hkc _ _ _ hlb (by omega) x0, hkc _ _ _ hcb (by omega) y0, hkc _ _ _ hcb (by omega) y1, hkc _ _ _ hcb (by omega) y2, hkc _ _ _ hcb (by omega) y3, hkc _ _ _ hcb (by omega) y4⟩
   clear hK K
   refine wpAnyH_done (by kernel_rfl) (NoPanic.normal ?_) _
   clear hkc hHeld U7 TS K7 u0 g0 x0 y0 y1 y2 y3 y4
   generalize w7.setCell ⟨ub, 0, none⟩ (.slice a7 (ls.length + 1) c7) = w8 at *
   have hw8 : w.heap.size + 1 + 1 + 1 < w8.heap.size := (uh R8).1
   have hub8 : ub < w8.heap.size := (uh U8).1
   obtain ⟨⟨u0, u1, u2, u3, u4, u5⟩, _⟩ := Blk.c6 (uh U8)
   go_upto_region 15 with fail
   refine wp_region_noPanic ?_
   refine wp_region_held_drew (S := (fun wx => wx.cell? ⟨ub, 0, none⟩ = some (.slice a7 (ls.length + 1) c7) ∧ wx.cell? ⟨ub, 1, none⟩ = some (.string bN.key) ∧ wx.cell? ⟨ub, 2, none⟩ = some (.string bN.val) ∧ wx.cell? ⟨ub, 3, none⟩ = some (.int .i64 bN.at_) ∧ wx.cell? ⟨ub, 4, none⟩ = some (.slice na nn nc) ∧ wx.cell? ⟨ub, 5, none⟩ = some (.slice sa sn sc))) (by kernel_rfl) ?_ (fun hHeld => ?_)
   ·exact ⟨u0, u1, u2, u3, u4, u5⟩
   refine tkH 0 rfl ?_
   refine tkH 1 rfl ?_
   refine tkH 2 rfl ?_
   refine tkH 3 rfl ?_
   refine tkH 4 rfl ?_
   refine tkH 5 rfl ?_
   have O9_ := Hd ((uh O8).drewN 1)
   have R9_ := Hd ((uh R8).drewN 1)
   have K9_ := Hd (below_drewN (uh K8) 1)
   have L9_ := Hd ((uh L8).below (below_drewN (Below.refl w8.heap.size w8) 1))
   have BR9_ := Hd ((uh BR8).blw (below_drewN (Below.refl w8.heap.size w8) 1))
   change Hid (Blk w8.drew _ _) at O9_
   change Hid (Blk w8.drew _ _) at R9_
   change Hid (Below w.heap.size w w8.drew) at K9_
   change Hid (OwnS _ w8.drew _ _) at L9_
   change Hid (Brs _ w8.drew _ _) at BR9_
   have hd8 : w8.heap.size = w8.drew.heap.size := rfl
   rw [hd8] at hw8 hub8
   clear hd8
   generalize w8.drew = w9 at *
   obtain ⟨⟨ox0, ox1, ox2, ox3, ox4, ox5⟩, of0, of1, of2, of3, of4, of5⟩ := Blk.c6 (uh O9_)
   obtain ⟨⟨rx0, rx1, rx2⟩, rf0, rf1, rf2⟩ := Blk.c3 (uh R9_)
   obtain ⟨HO9, HR9, HT9⟩ := end63 (uh O9_) (uh R9_) (by omega) (.slice a7 (ls.length + 1) c7) (.string bN.key) (.string bN.val) (.int .i64 bN.at_) (.slice na nn nc) (.slice sa sn sc) (.int .i64 1) (.int .i64 ((ls.length : Int) + 1)) (.string vv)
   refine rdy1 6 rfl (fun K hK => ?_)
   go_simp
   refine outH hK ?_ (fun hHeld => ?_)
   ·exact ⟨by go_simp, by go_simp, by go_simp, by go_simp, by go_simp, by go_simp⟩
   clear hK K
   refine rdy1 7 rfl (fun K hK => ?_)
   go_simp
   refine outH hK ?_ (fun hHeld => ?_)
   ·exact ⟨by go_simp, by go_simp, by go_simp, by go_simp, by go_simp, by go_simp⟩
   clear hK K
   refine wpAnyH_done (by kernel_rfl) (NoPanic.normal ?_) _
   clear hHeld
   go_wp2_with fail
   obtain ⟨⟨z0, z1, z2, z3, z4, z5⟩, _⟩ := Blk.c6 (uh HO9)
   obtain ⟨⟨y0, y1, y2⟩, _⟩ := Blk.c3 (uh HR9)
   refine bodyPost_ret (v := .tuple #[.agg #[.slice a7 (ls.length + 1) c7, .string bN.key, .string bN.val, .int .i64 bN.at_, .slice na nn nc, .slice sa sn sc], .agg #[.int .i64 1, .int .i64 ((ls.length : Int) + 1), .string vv]]) (by simp [results, Tryz.results65, go_sem, z0, z1, z2, z3, z4, z5, y0, y1, y2]) rfl ?_
   have K9 := (uh K9_).trans ((uh HT9).below (uh K9_).size (fun k9 hk9 e => by rcases e with e | e <;> omega))
   have hl9 := uh L9_
   have hbn := uh HBN
   clear HBN
   subst hbn
   refine ch_tell (by rw [uh HU2, if_neg (fun h => uh H3 h.1), if_neg (fun h => by rcases (uh HFI).1 h with h | h | h; exact uh H50 h; exact uh H60 h; exact absurd h.2.1 (by simp)), if_neg (uh H3)]) ?_
   refine ⟨_, _, rfl, (hl9.kept (uh HT9) (fun k hk e => by have := (hl9.lt k hk).1; rcases e with e | e <;> omega)).strs, ?_, K9, own_fresh hl9 (by omega)⟩
   exact ((uh BR9_).touch (uh HT9) (fun k hk e => by rcases hk with hk | hk; ((have h8 := uh HSB k hk); rcases e with e | e <;> omega); (rcases e with e | e <;> omega))).mono (fun k hk => hk.imp id (fun h => by omega))
  ·have b2 : (c.kd == 2) = false := by rw [beq_eq_false_iff_ne]; exact h2
   have H2 := Hd h2
   clear h2
   have hvv : vbV c.kd c.vl xv = c.vl := by unfold vbV; rw [if_neg (uh H2), if_neg (uh H3)]
   have hfi := full_iff (n := ls.length) (m := lvO o) (k := c.kd) (v := c.vl) (was := xv) (there := true) hnl hkl (fun e => by cases e) hgz (fun e => absurd e (uh H3))
   rw [hvv] at hfi HU2
   have HFI := Hd hfi
   have hvs : valS c.kd c.vl true xv = c.vl := by unfold valS; rw [if_neg (fun h => uh H2 h.1)]
   rw [hvs] at HFI
   clear hfi hvv hvs
   by_cases h50 : ls.length = 50
   ·have q50 : ((ls.length : Int) == 50) = true := by rw [h50]; rfl
    have H50 := Hd h50
    clear h50
    clear HLB HLE HSZ HPU HLD
    obtain ⟨⟨ox0, ox1, ox2, ox3, ox4, ox5⟩, of0, of1, of2, of3, of4, of5⟩ := Blk.c6 (uh O2)
    obtain ⟨⟨rx0, rx1, rx2⟩, rf0, rf1, rf2⟩ := Blk.c3 (uh R2)
    obtain ⟨HO9, HR9, HT9⟩ := end63 (uh O2) (uh R2) (by omega) (.slice la ls.length lc) (.string (brOf o).key) (.string (brOf o).val) (.int .i64 (brOf o).at_) (.slice ka kn kc) (.slice sa sn sc) (.int .i64 6) (.int .i64 0) (.string ⟨#[]⟩)
    go_wp2_with fail
    obtain ⟨⟨z0, z1, z2, z3, z4, z5⟩, _⟩ := Blk.c6 (uh HO9)
    obtain ⟨⟨y0, y1, y2⟩, _⟩ := Blk.c3 (uh HR9)
    refine bodyPost_ret (v := .tuple #[.agg #[.slice la ls.length lc, .string (brOf o).key, .string (brOf o).val, .int .i64 (brOf o).at_, .slice ka kn kc, .slice sa sn sc], .agg #[.int .i64 6, .int .i64 0, .string ⟨#[]⟩]]) (by simp [results, Tryz.results65, go_sem, z0, z1, z2, z3, z4, z5, y0, y1, y2]) rfl ?_
    have K9 := (uh K2).trans ((uh HT9).below (uh K2).size (fun k9 hk9 e => by rcases e with e | e <;> omega))
    refine ch_tell (by rw [uh HU2, if_neg (fun h => uh H3 h.1), if_pos ((uh HFI).2 (.inl (uh H50)))]) ⟨_, _, rfl, (uh HST).below K9, ((uh HBR).mono (T := fun x => S x ∨ w.heap.size ≤ x) (fun _ h => .inl h)).blw K9, K9, .inl rfl⟩
   have q50 : ((ls.length : Int) == 50) = false := by rw [beq_eq_false_iff_ne]; omega
   have H50 := Hd h50
   by_cases h60 : 60 < (c.vl).size
   ·have q60 : decide ((60 : Int) < ((c.vl).size : Int)) = true := by rw [decide_eq_true_eq]; omega
    have H60 := Hd h60
    clear h60
    clear HLB HLE HSZ HPU HLD
    obtain ⟨⟨ox0, ox1, ox2, ox3, ox4, ox5⟩, of0, of1, of2, of3, of4, of5⟩ := Blk.c6 (uh O2)
    obtain ⟨⟨rx0, rx1, rx2⟩, rf0, rf1, rf2⟩ := Blk.c3 (uh R2)
    obtain ⟨HO9, HR9, HT9⟩ := end63 (uh O2) (uh R2) (by omega) (.slice la ls.length lc) (.string (brOf o).key) (.string (brOf o).val) (.int .i64 (brOf o).at_) (.slice ka kn kc) (.slice sa sn sc) (.int .i64 6) (.int .i64 0) (.string ⟨#[]⟩)
    go_wp2_with fail
    obtain ⟨⟨z0, z1, z2, z3, z4, z5⟩, _⟩ := Blk.c6 (uh HO9)
    obtain ⟨⟨y0, y1, y2⟩, _⟩ := Blk.c3 (uh HR9)
    refine bodyPost_ret (v := .tuple #[.agg #[.slice la ls.length lc, .string (brOf o).key, .string (brOf o).val, .int .i64 (brOf o).at_, .slice ka kn kc, .slice sa sn sc], .agg #[.int .i64 6, .int .i64 0, .string ⟨#[]⟩]]) (by simp [results, Tryz.results65, go_sem, z0, z1, z2, z3, z4, z5, y0, y1, y2]) rfl ?_
    have K9 := (uh K2).trans ((uh HT9).below (uh K2).size (fun k9 hk9 e => by rcases e with e | e <;> omega))
    refine ch_tell (by rw [uh HU2, if_neg (fun h => uh H3 h.1), if_pos ((uh HFI).2 (.inr (.inl (uh H60))))]) ⟨_, _, rfl, (uh HST).below K9, ((uh HBR).mono (T := fun x => S x ∨ w.heap.size ≤ x) (fun _ h => .inl h)).blw K9, K9, .inl rfl⟩
   have q60 : decide ((60 : Int) < ((c.vl).size : Int)) = false := by rw [decide_eq_false_iff_not]; omega
   have hv60 : (c.vl).size ≤ 60 := by omega
   have H60 := Hd h60
   clear h60
   have HP1 := Hd (uh HPU w3 c.vl (hv60) (uh K2))
   rw [mpT_putO] at HP1
   have hobn : (putO o c.ky c.vl).toBr = brOf (some (putO o c.ky c.vl)) := rfl
   rw [hobn] at HP1
   clear hobn HPU HSZ HLD
   generalize some (putO o c.ky c.vl) = oN at *
   generalize leafC c = lf at *
   go_wp2_with fail
   refine (uh HP1).mono ?_
   rintro e w5 ⟨na, nn, nc, rfl, hbr, hb5⟩
   have hs5 := hb5.size
   have hub3 : ub < w3.heap.size := (uh U2).1
   obtain ⟨bN, hbN⟩ : ∃ bN, bN = brOf oN := ⟨_, rfl⟩
   rw [← hbN] at hbr ⊢
   have HBN := Hd hbN
   clear hbN HP1 x0 x1 x2 x3 x4 x5 y0 y1 y2 y3 y4 v1
   have UX := (uh U2).below hb5
   have ux1 := UX.cell 1 rfl
   have uf1 := UX.fro 1
   have ux2 := UX.cell 2 rfl
   have uf2 := UX.fro 2
   have ux3 := UX.cell 3 rfl
   have uf3 := UX.fro 3
   have ux4 := UX.cell 4 rfl
   have uf4 := UX.fro 4
   have TS := (((((Touch.refl (fun k => k = ub) w5).setCell ⟨ub, 1, none⟩ (.string bN.key) (fun _ => rfl)).setCell ⟨ub, 2, none⟩ (.string bN.val) (fun _ => rfl)).setCell ⟨ub, 3, none⟩ (.int .i64 bN.at_) (fun _ => rfl)).setCell ⟨ub, 4, none⟩ (.slice na nn nc) (fun _ => rfl))
   have U6 := Hd ((((UX.set 1 (.string bN.key) (by simp)).set 2 (.string bN.val) (by simp)).set 3 (.int .i64 bN.at_) (by simp)).set 4 (.slice na nn nc) (by simp))
   have K5 := (uh K2).trans (hb5.mono (uh K2).size)
   have K6 := Hd (K5.trans (TS.below K5.size (fun k hk e => by omega)))
   have X6 := Hd (((uh X2).below hb5).kept TS (fun e => by omega))
   have C6 := Hd (((uh C2).below hb5).kept TS (fun e => by omega))
   have O6 := Hd (((uh O2).below hb5).kept TS (fun e => by omega))
   have R6 := Hd (((uh R2).below hb5).kept TS (fun e => by omega))
   have V6 := Hd (((uh V2).below hb5).kept TS (fun e => by omega))
   have BR6 := Hd (hbr.touch (T := fun k => k = ub) TS (fun k hk e => by rcases hk with hk | hk; (have h8 := uh HSB k hk; omega); omega))
   clear UX TS K5 hbr hb5
   go_upto_region 14 with fail
   clear ux1 uf1 ux2 uf2 ux3 uf3 ux4 uf4
   generalize ((((w5.setCell ⟨ub, 1, none⟩ (.string bN.key)).setCell ⟨ub, 2, none⟩ (.string bN.val)).setCell ⟨ub, 3, none⟩ (.int .i64 bN.at_)).setCell ⟨ub, 4, none⟩ (.slice na nn nc)) = w6 at *
   have hlb : w.heap.size < w6.heap.size := (uh X6).1
   have hcb : w.heap.size + 1 < w6.heap.size := (uh C6).1
   have hub6 : ub < w6.heap.size := (uh U6).1
   have x0 := (uh X6).cell 0 rfl
   obtain ⟨y0, y1, y2, y3, y4⟩ := Blk.c5 (uh C6)
   have HST6 := Hd ((uh HST).below (uh K6))
   clear K2 X2 C2 O2 R2 U2 V2
   go_upto_region 14 with fail
   have HKS : Hid (∀ wx, Below w6.heap.size w6 wx → (fun wx => wx.cell? ⟨w.heap.size, 0, none⟩ = some (.slice la ls.length lc) ∧ wx.cell? ⟨w.heap.size + 1, 0, none⟩ = some (.int .i64 c.kd) ∧ wx.cell? ⟨w.heap.size + 1, 1, none⟩ = some (.int .i64 c.ss) ∧ wx.cell? ⟨w.heap.size + 1, 2, none⟩ = some (.int .i64 c.sq) ∧ wx.cell? ⟨w.heap.size + 1, 3, none⟩ = some (.string c.ky) ∧ wx.cell? ⟨w.heap.size + 1, 4, none⟩ = some (.string c.vl)) wx) := Hd (fun wx hx => ⟨(hx.cell (p := ⟨w.heap.size, 0, none⟩) hlb).trans x0, (hx.cell (p := ⟨w.heap.size + 1, 0, none⟩) hcb).trans y0, (hx.cell (p := ⟨w.heap.size + 1, 1, none⟩) hcb).trans y1, (hx.cell (p := ⟨w.heap.size + 1, 2, none⟩) hcb).trans y2, (hx.cell (p := ⟨w.heap.size + 1, 3, none⟩) hcb).trans y3, (hx.cell (p := ⟨w.heap.size + 1, 4, none⟩) hcb).trans y4⟩)
   refine wp_region_noPanic ?_
   refine wp_region_held_drew (S := (fun wx => wx.cell? ⟨w.heap.size, 0, none⟩ = some (.slice la ls.length lc) ∧ wx.cell? ⟨w.heap.size + 1, 0, none⟩ = some (.int .i64 c.kd) ∧ wx.cell? ⟨w.heap.size + 1, 1, none⟩ = some (.int .i64 c.ss) ∧ wx.cell? ⟨w.heap.size + 1, 2, none⟩ = some (.int .i64 c.sq) ∧ wx.cell? ⟨w.heap.size + 1, 3, none⟩ = some (.string c.ky) ∧ wx.cell? ⟨w.heap.size + 1, 4, none⟩ = some (.string c.vl))) (by kernel_rfl) ?_ (fun hHeld => ?_)
   ·exact ⟨x0, y0, y1, y2, y3, y4⟩
   refine tkH 1 rfl ?_
   refine tkH 2 rfl ?_
   refine tkH 4 rfl ?_
   have HBq := Hd (below_drewN (Below.refl w6.heap.size w6) 1)
   change Hid (Below w6.heap.size w6 w6.drew) at HBq
   generalize w6.drew = wq at *
   refine rdy1 0 rfl (fun K hK => ?_)
   go_simp
   have HBu := Hd ((uh HBq).alloc (uh HBq).size (.cells #[] 9))
   have HOu := Hd (show (wq.alloc (.cells #[] 9)).ownsRow w6.heap.size 9 1 (.slice (some ⟨wq.heap.size, 0, none⟩) 0 0) 0 [] from World.ownsRow_made wq #[] 0 (uh HBq).size (by unfold maxLen; omega) rfl)
   have hbX := uh HBu
   refine outH hK ?_ (fun hHeld => ?_)
   ·exact uh HKS _ hbX
   clear hK K
   clear hbX
   generalize wq.alloc (.cells #[] 9) = wu at *
   generalize wq.heap.size = bu at *
   refine rdy1 3 rfl (fun K hK => ?_)
   refine step_append_row rfl _ _ _ rfl w6.heap.size 9 i0 _ 1 16 Tryz.underlying27 hi hz0 hz1 hz2 rfl (by omega) _ 0 [] rfl (uh HOu) _ ls.length (ls.map Value.string) rfl ((uh HST6).below (uh HBu)).rw (by simp) (by simp [Value.oneCell']) (by unfold maxLen; omega) (by omega) (uh HBu).size ?_
   intro a2 c2 wv hown2 hgrow2 hat2
   have HBv := Hd ((uh HBu).grown hgrow2 (uh HBu).size (fun r hr => (World.ownsRow.lt (uh HOu) r hr).1))
   have HOv := Hd hown2
   have hbX := uh HBv
   clear hown2 hgrow2 hat2
   refine outH hK ?_ (fun hHeld => ?_)
   ·exact uh HKS _ hbX
   clear hK K
   clear hbX
   simp only [Nat.zero_add, List.nil_append] at HOv ⊢
   refine rdy1 5 rfl (fun K hK => ?_)
   go_simp
   refine (uh HLB wv).mono ?_
   rintro e wx ⟨v5, rfl, hOB, hbx⟩
   have HBx := hbt HBv hbx
   have HOx := Hd (own_kept (T := fun _ => False) (uh HOv) (Touch.ofBelow hbx) (fun _ _ e => e))
   have hcv := own_str hOB hbl1
   have hbX := uh HBx
   go_wp2_with fail
   refine outH hK ?_ (fun hHeld => ?_)
   ·exact uh HKS _ hbX
   clear hK K
   clear hbX hbx hOB
   refine rdy1 6 rfl (fun K hK => ?_)
   go_simp
   have hbX := uh HBx
   refine outH hK ?_ (fun hHeld => ?_)
   ·exact uh HKS _ hbX
   clear hK K
   clear hbX hcv
   refine rdy1 7 rfl (fun K hK => ?_)
   go_simp
   refine (uh HLE wx).mono ?_
   rintro e wy ⟨rfl, hby⟩
   have HBy := hbt HBx hby
   have HOy := Hd (own_kept (T := fun _ => False) (uh HOx) (Touch.ofBelow hby) (fun _ _ e => e))
   have hbX := uh HBy
   go_wp2_with fail
   refine outH hK ?_ (fun hHeld => ?_)
   ·exact uh HKS _ hbX
   clear hK K
   clear hbX hby
   refine rdy1 8 rfl (fun K hK => ?_)
   go_simp
   have HBz := Hd ((uh HBy).alloc (uh HBy).size (.cells #[.string lf] 9))
   have HOz := Hd (World.ownsRow.alloc (uh HOy) (.cells #[.string lf] 9))
   have HVz := Hd (Blk.new wy #[.string lf] 9 wy.heap.size rfl)
   have hbX := uh HBz
   refine outH hK ?_ (fun hHeld => ?_)
   ·exact uh HKS _ hbX
   clear hK K
   clear hbX
   generalize wy.alloc (.cells #[.string lf] 9) = wz at *
   generalize wy.heap.size = vb at *
   refine rdy1 9 rfl (fun K hK => ?_)
   refine step_append_row rfl _ _ _ rfl w6.heap.size 9 i0 _ 1 16 Tryz.underlying27 hi hz0 hz1 hz2 rfl (by omega) _ ls.length _ rfl (uh HOz) _ 1 [.string lf] rfl ⟨_, _, rfl, .inr ⟨_, rfl, blk_rw (uh HVz)⟩⟩ rfl (by simp [Value.oneCell']) (by unfold maxLen; omega) (by omega) (uh HBz).size ?_
   intro a7 c7 w7 hown7 hgrow7 hat7
   have HB7 := Hd ((uh HBz).grown hgrow7 (uh HBz).size (fun r hr => (World.ownsRow.lt (uh HOz) r hr).1))
   have HO7 := Hd (show OwnS w6.heap.size w7 (.slice a7 (ls.length + 1) c7) (ls ++ [lf]) by unfold OwnS; rw [List.length_append, List.map_append]; exact hown7)
   have hbX := uh HB7
   clear hown7 hgrow7 hat7
   refine outH hK ?_ (fun hHeld => ?_)
   ·exact uh HKS _ hbX
   clear hK K
   clear hbX
   refine tkH 10 rfl ?_
   have U7 := (uh U6).below (uh HB7)
   have u0 := U7.cell 0 rfl
   have g0 := U7.fro 0
   have TS := (Touch.refl (fun k => k = ub) w7).setCell ⟨ub, 0, none⟩ (.slice a7 (ls.length + 1) c7) (fun _ => rfl)
   have U8 := Hd (U7.set 0 (.slice a7 (ls.length + 1) c7) (by simp))
   have O8 := Hd (((uh O6).below (uh HB7)).kept TS (fun e => by omega))
   have R8 := Hd (((uh R6).below (uh HB7)).kept TS (fun e => by omega))
   have L8 := Hd ((uh HO7).kept TS (fun k hk e => by have := ((uh HO7).lt k hk).1; omega))
   have BR8 := Hd (((uh BR6).blw (uh HB7)).touch (T := fun k => k = ub) TS (fun k hk e => by rcases hk with hk | hk; (have h8 := uh HSB k hk; omega); omega))
   have hs7 := (uh HB7).size
   have K7 := (uh K6).trans ((uh HB7).mono (uh K6).size)
   have K8 := Hd (K7.trans (TS.below K7.size (fun k hk e => by omega)))
   have hkc := fun (bq i : Nat) (v : Value) (hb9 : bq < w6.heap.size) (hne : bq ≠ ub) (h : w6.cell? ⟨bq, i, none⟩ = some v) => (TS.cell (p := ⟨bq, i, none⟩) (show bq < w7.heap.size by omega) hne).trans (((uh HB7).cell (p := ⟨bq, i, none⟩) hb9).trans h)
   refine rdy1 11 rfl (fun K hK => ?_)
   go_simp
   refine outH hK ?_ (fun hHeld => ?_)
   ·exact ⟨hkc _ _ _ hlb (by omega) x0, hkc _ _ _ hcb (by omega) y0, hkc _ _ _ hcb (by omega) y1, hkc _ _ _ hcb (by omega) y2, hkc _ _ _ hcb (by omega) y3, hkc _ _ _ hcb (by omega) y4⟩
   clear hK K
   refine wpAnyH_done (by kernel_rfl) (NoPanic.normal ?_) _
   clear hkc hHeld U7 TS K7 u0 g0 x0 y0 y1 y2 y3 y4
   generalize w7.setCell ⟨ub, 0, none⟩ (.slice a7 (ls.length + 1) c7) = w8 at *
   have hw8 : w.heap.size + 1 + 1 + 1 < w8.heap.size := (uh R8).1
   have hub8 : ub < w8.heap.size := (uh U8).1
   obtain ⟨⟨u0, u1, u2, u3, u4, u5⟩, _⟩ := Blk.c6 (uh U8)
   go_upto_region 15 with fail
   refine wp_region_noPanic ?_
   refine wp_region_held_drew (S := (fun wx => wx.cell? ⟨ub, 0, none⟩ = some (.slice a7 (ls.length + 1) c7) ∧ wx.cell? ⟨ub, 1, none⟩ = some (.string bN.key) ∧ wx.cell? ⟨ub, 2, none⟩ = some (.string bN.val) ∧ wx.cell? ⟨ub, 3, none⟩ = some (.int .i64 bN.at_) ∧ wx.cell? ⟨ub, 4, none⟩ = some (.slice na nn nc) ∧ wx.cell? ⟨ub, 5, none⟩ = some (.slice sa sn sc))) (by kernel_rfl) ?_ (fun hHeld => ?_)
   ·exact ⟨u0, u1, u2, u3, u4, u5⟩
   refine tkH 0 rfl ?_
   refine tkH 1 rfl ?_
   refine tkH 2 rfl ?_
   refine tkH 3 rfl ?_
   refine tkH 4 rfl ?_
   refine tkH 5 rfl ?_
   have O9_ := Hd ((uh O8).drewN 1)
   have R9_ := Hd ((uh R8).drewN 1)
   have K9_ := Hd (below_drewN (uh K8) 1)
   have L9_ := Hd ((uh L8).below (below_drewN (Below.refl w8.heap.size w8) 1))
   have BR9_ := Hd ((uh BR8).blw (below_drewN (Below.refl w8.heap.size w8) 1))
   change Hid (Blk w8.drew _ _) at O9_
   change Hid (Blk w8.drew _ _) at R9_
   change Hid (Below w.heap.size w w8.drew) at K9_
   change Hid (OwnS _ w8.drew _ _) at L9_
   change Hid (Brs _ w8.drew _ _) at BR9_
   have hd8 : w8.heap.size = w8.drew.heap.size := rfl
   rw [hd8] at hw8 hub8
   clear hd8
   generalize w8.drew = w9 at *
   obtain ⟨⟨ox0, ox1, ox2, ox3, ox4, ox5⟩, of0, of1, of2, of3, of4, of5⟩ := Blk.c6 (uh O9_)
   obtain ⟨⟨rx0, rx1, rx2⟩, rf0, rf1, rf2⟩ := Blk.c3 (uh R9_)
   obtain ⟨HO9, HR9, HT9⟩ := end63 (uh O9_) (uh R9_) (by omega) (.slice a7 (ls.length + 1) c7) (.string bN.key) (.string bN.val) (.int .i64 bN.at_) (.slice na nn nc) (.slice sa sn sc) (.int .i64 1) (.int .i64 ((ls.length : Int) + 1)) (.string c.vl)
   refine rdy1 6 rfl (fun K hK => ?_)
   go_simp
   refine outH hK ?_ (fun hHeld => ?_)
   ·exact ⟨by go_simp, by go_simp, by go_simp, by go_simp, by go_simp, by go_simp⟩
   clear hK K
   refine rdy1 7 rfl (fun K hK => ?_)
   go_simp
   refine outH hK ?_ (fun hHeld => ?_)
   ·exact ⟨by go_simp, by go_simp, by go_simp, by go_simp, by go_simp, by go_simp⟩
   clear hK K
   refine wpAnyH_done (by kernel_rfl) (NoPanic.normal ?_) _
   clear hHeld
   go_wp2_with fail
   obtain ⟨⟨z0, z1, z2, z3, z4, z5⟩, _⟩ := Blk.c6 (uh HO9)
   obtain ⟨⟨y0, y1, y2⟩, _⟩ := Blk.c3 (uh HR9)
   refine bodyPost_ret (v := .tuple #[.agg #[.slice a7 (ls.length + 1) c7, .string bN.key, .string bN.val, .int .i64 bN.at_, .slice na nn nc, .slice sa sn sc], .agg #[.int .i64 1, .int .i64 ((ls.length : Int) + 1), .string c.vl]]) (by simp [results, Tryz.results65, go_sem, z0, z1, z2, z3, z4, z5, y0, y1, y2]) rfl ?_
   have K9 := (uh K9_).trans ((uh HT9).below (uh K9_).size (fun k9 hk9 e => by rcases e with e | e <;> omega))
   have hl9 := uh L9_
   have hbn := uh HBN
   clear HBN
   subst hbn
   refine ch_tell (by rw [uh HU2, if_neg (fun h => uh H3 h.1), if_neg (fun h => by rcases (uh HFI).1 h with h | h | h; exact uh H50 h; exact uh H60 h; exact absurd h.2.1 (by simp)), if_neg (uh H3)]) ?_
   refine ⟨_, _, rfl, (hl9.kept (uh HT9) (fun k hk e => by have := (hl9.lt k hk).1; rcases e with e | e <;> omega)).strs, ?_, K9, own_fresh hl9 (by omega)⟩
   exact ((uh BR9_).touch (uh HT9) (fun k hk e => by rcases hk with hk | hk; ((have h8 := uh HSB k hk); rcases e with e | e <;> omega); (rcases e with e | e <;> omega))).mono (fun k hk => hk.imp id (fun h => by omega))
end Go.Proofs.YtbchnheinnileaaGreatDoor.Sha
