/- What the proof of the claim needs (joined by program): ApD ApV. -/
import Derived.Test.YtbchnheinnileaaGreatDoorQca11
import Derived.Test.YtbchnheinnileaaGreatDoorQca01
import Derived.Test.YtbchnheinnileaaGreatDoorQca00
import Derived.Test.YtbchnheinnileaaGreatDoorQca04
import Derived.Deep.RegionHeld3
namespace Go.Proofs.YtbchnheinnileaaGreatDoor.Sha
set_option maxRecDepth 100000
set_option maxHeartbeats 8000000
open Go.ChangeShapes Go.WideShapes Go.ChangeAt Go.RowKit Go.Deep
set_option linter.unusedVariables false
set_option linter.unusedSimpArgs false
def Av (p : Nat) (lv sv : Value) (S : Nat → Prop) (r : Nat) : Prop := r ≠ p ∧ lv.ownBlock ≠ some r ∧ sv.ownBlock ≠ some r ∧ ¬ S r
theorem Bk.av {B : Nat} {w : World} {p : Nat} {lv : Value} {tp : Option Addr} {sv : Value} {S : Nat → Prop} {ls : List ByteArray} {o : Option Tr} {ss : List Se} (h : Bk B w p lv tp sv S ls o ss) (r : Nat) (hr : w.heap.size ≤ r) : Av p lv sv S r := by
 obtain ⟨h1, h2, h3, h4, h5, h6, h7, h8, h9⟩ := h
 have hp := h1.1
 exact ⟨by omega, fun e => by have := (h3.lt r e).2; omega, fun e => by have := (h4.lt r e).2; omega, fun e => by have := (h6 r e).2.1; omega⟩
theorem Bk.ge {B : Nat} {w : World} {p : Nat} {lv : Value} {tp : Option Addr} {sv : Value} {S : Nat → Prop} {ls : List ByteArray} {o : Option Tr} {ss : List Se} (h : Bk B w p lv tp sv S ls o ss) (r : Nat) (hr : ¬ Av p lv sv S r) : B ≤ r := by
 obtain ⟨h1, h2, h3, h4, h5, h6, h7, h8, h9⟩ := h
 by_cases e : B ≤ r
 ·exact e
 ·exact absurd ⟨by omega, fun e2 => by have := (h3.lt r e2).1; omega, fun e2 => by have := (h4.lt r e2).1; omega, fun e2 => by have := (h6 r e2).1; omega⟩ hr
theorem Bk.keep {T : Nat → Prop} {B : Nat} {w w' : World} {p : Nat} {lv : Value} {tp : Option Addr} {sv : Value} {S : Nat → Prop} {ls : List ByteArray} {o : Option Tr} {ss : List Se} (h : Bk B w p lv tp sv S ls o ss) (ht : Touch T w w') (hn : ∀ k, T k → Av p lv sv S k) : Bk B w' p lv tp sv S ls o ss := by
 obtain ⟨h1, h2, h3, h4, h5, h6, h7, h8, h9⟩ := h
 have hsz := ht.size
 refine ⟨h1.kept ht (fun e => (hn p e).1 rfl), h2, h3.kept ht (fun k hk e => (hn k e).2.1 hk), h4.kept ht (fun k hk e => (hn k e).2.2.1 hk), ?_, fun x hx => ⟨(h6 x hx).1, by have := (h6 x hx).2.1; omega, (h6 x hx).2.2⟩, h7, h8, h9⟩
 cases o with
 | none => exact h5
 | some t => obtain ⟨q, e, hq⟩ := h5; exact ⟨q, e, hq.touch ht (fun k hk e2 => (hn k e2).2.2.2 hk)⟩
theorem Bk.map {B : Nat} {w w' : World} {p : Nat} {lv : Value} {tp : Option Addr} {sv : Value} {S : Nat → Prop} {ls : List ByteArray} {o o' : Option Tr} {ss : List Se} (h : Bk B w p lv tp sv S ls o ss) (hB : B ≤ w.heap.size) (hm : MapR p lv sv S o' w w') : ∃ tp' S', Bk B w' p lv tp' sv S' ls o' ss ∧ (∀ r, r < w.heap.size → Av p lv sv S r → Av p lv sv S' r) ∧ Touch (fun q => ¬ Av p lv sv S q) w w' := by
 obtain ⟨h1, h2, h3, h4, h5, h6, h7, h8, h9⟩ := h
 obtain ⟨tp', S', m1, m2, m3, m4⟩ := hm
 refine ⟨tp', S', ⟨m1, h2, h3.kept m4 (fun k hk e => ?_), h4.kept m4 (fun k hk e => ?_), m2, fun x hx => ?_, h7, h8, h9⟩, fun r hr ha => ⟨ha.1, ha.2.1, ha.2.2.1, fun e => ?_⟩, ⟨m4.os, m4.tape, m4.output, m4.size, fun k hk hn => m4.block k hk (fun e => hn (fun ha => ?_))⟩⟩
 ·rcases e with e | e
  ·exact (h6 k e).2.2.2.1 hk
  ·exact h7 (by rw [hk, e])
 ·rcases e with e | e
  ·exact (h6 k e).2.2.2.2 hk
  ·exact h8 (by rw [hk, e])
 ·obtain ⟨a, b⟩ := m3 x hx
  have hl := h3.lt
  have hs := h4.lt
  rcases a with a | a
  ·exact ⟨(h6 x a).1, b, (h6 x a).2.2.1, (h6 x a).2.2.2.1, (h6 x a).2.2.2.2⟩
  ·have hp := h1.1
   exact ⟨by omega, b, by omega, fun e => by have := (hl x e).2; omega, fun e => by have := (hs x e).2; omega⟩
 ·rcases (m3 r e).1 with a | a
  ·exact ha.2.2.2 a
  ·omega
 ·rcases e with e | e
  ·exact ha.2.2.2 e
  ·exact ha.1 e
theorem Bk.log {B : Nat} {w w' : World} {p : Nat} {lv : Value} {tp : Option Addr} {sv : Value} {S : Nat → Prop} {ls ls' : List ByteArray} {o : Option Tr} {ss : List Se} (h : Bk B w p lv tp sv S ls o ss) (hB : B ≤ w.heap.size) (hm : LogR B p lv tp sv ls' w w') : ∃ lv', Bk B w' p lv' tp sv S ls' o ss ∧ (∀ r, r < w.heap.size → Av p lv sv S r → Av p lv' sv S r) ∧ Touch (fun q => ¬ Av p lv sv S q) w w' := by
 obtain ⟨h1, h2, h3, h4, h5, h6, h7, h8, h9⟩ := h
 obtain ⟨lv', m1, m2, m3, m4⟩ := hm
 have hs := h4.lt
 have hp := h1.1
 have hsz := m4.size
 have hTS : ∀ k, S k → ¬ (lv.ownBlock = some k ∨ k = p) := fun k hk e => by
  rcases e with e | e
  ·exact (h6 k hk).2.2.2.1 e
  ·exact (h6 k hk).2.2.1 e
 refine ⟨lv', ⟨m1, h2, m2, h4.kept m4 (fun k hk e => ?_), ?_, fun x hx => ?_, ?_, h8, ?_⟩, fun r hr ha => ⟨ha.1, ?_, ha.2.2.1, ha.2.2.2⟩, ⟨m4.os, m4.tape, m4.output, m4.size, fun k hk hn => m4.block k hk (fun e => hn (fun ha => ?_))⟩⟩
 ·rcases e with e | e
  ·exact h9 k e hk
  ·exact h8 (by rw [hk, e])
 ·cases o with
  | none => exact h5
  | some t => obtain ⟨q, e, hn⟩ := h5; exact ⟨q, e, hn.touch m4 hTS⟩
 ·obtain ⟨a1, a2, a3, a4, a5⟩ := h6 x hx
  refine ⟨a1, by omega, a3, ?_, a5⟩
  rcases m3 with e | ⟨g, e, hg⟩
  ·rw [e]; exact a4
  ·rw [e]; intro e2; simp only [Option.some.injEq] at e2; omega
 ·rcases m3 with e | ⟨g, e, hg⟩
  ·rw [e]; exact h7
  ·rw [e]; intro e2; simp only [Option.some.injEq] at e2; omega
 ·intro x hx
  rcases m3 with e | ⟨g, e, hg⟩
  ·exact h9 x (by rw [← e]; exact hx)
  ·rw [e] at hx
   simp only [Option.some.injEq] at hx
   intro e2
   have := (hs x e2).2
   omega
 ·rcases m3 with e | ⟨g, e, hg⟩
  ·rw [e]; exact ha.2.1
  ·rw [e]; intro e2; simp only [Option.some.injEq] at e2; omega
 ·rcases e with e | e
  ·exact ha.2.1 e
  ·exact ha.1 e
theorem valV_eq (o : Option Tr) (key : ByteArray) : valV o key = .tuple #[.string ((getV o key).getD ⟨#[]⟩), .bool (getV o key).isSome] := by
 unfold valV; cases getV o key <;> rfl
def chW (ls : List ByteArray) (o : Option Tr) (c : Cm) (there : Bool) (was : ByteArray) : List ByteArray × Option Tr × Re :=
 if c.kd = 3 ∧ there = false then (ls, o, ⟨2, 0, ⟨#[]⟩⟩)
 else if 0 < exV ls.length (lvO o) there (vbV c.kd c.vl was).size then (ls, o, ⟨6, 0, ⟨#[]⟩⟩)
 else (ls ++ [leafC c], if c.kd = 3 then dropO (kh c.ky) o else some (putO o c.ky (vbV c.kd c.vl was)), ⟨1, (ls.length : Int) + 1, vbV c.kd c.vl was⟩)
theorem chW_eq (ls : List ByteArray) (o : Option Tr) (c : Cm) (g : Option ByteArray) : chOut ls o c g = chW ls o c g.isSome (g.getD ⟨#[]⟩) := by
 unfold chOut chW
 cases g <;> simp
theorem vbV_size (k : Int) (v was : ByteArray) (h1 : v.size ≤ 60) (h2 : was.size ≤ 60) : (vbV k v was).size ≤ 120 := by
 unfold vbV
 split
 ·rw [ByteArray.size_append]; omega
 ·split <;> omega
def DoR (B p : Nat) (lv sv : Value) (S : Nat → Prop) (ls : List ByteArray) (o : Option Tr) (ss : List Se) (r : Re) (w : World) (e : Ending) (w' : World) : Prop :=
 e = .returned (.agg #[.int .i64 r.kd, .int .i64 r.pl, .string r.vl]) ∧ ∃ lv' tp' S', Bk B w' p lv' tp' sv S' ls o ss ∧ (∀ r, r < w.heap.size → Av p lv sv S r → Av p lv' sv S' r) ∧ Touch (fun q => ¬ Av p lv sv S q) w w'
theorem do_tell {B p : Nat} {lv sv : Value} {S : Nat → Prop} {x y : List ByteArray × Option Tr × Re} {ss : List Se} {w w' : World} {e : Ending} (he : x = y) (h : DoR B p lv sv S y.1 y.2.1 ss y.2.2 w e w') : DoR B p lv sv S x.1 x.2.1 ss x.2.2 w e w' := by rw [he]; exact h
theorem do_any (B p : Nat) (lv sv : Value) (tp : Option Addr) (S : Nat → Prop) (ls : List ByteArray) (o : Option Tr) (ss : List Se) (c : Cm) (w : World) (hk : Bk B w p lv tp sv S ls o ss) (hL : LOK ⟨ls, o, ss⟩) (hc : cmK c = true) (h4 : c.kd ≠ 4) (h5 : c.kd ≠ 5) (hB : B ≤ w.heap.size) (ht : Tab w) (hG1 : 0 < B) (hG2 : 1 < B) :
  Calls Tryz.prog 90 #[.pointer (some ⟨p, 0, none⟩), .agg #[.int .i64 c.kd, .int .i64 c.ss, .int .i64 c.sq, .string c.ky, .string c.vl]] w fun e w' => DoR B p lv sv S (chOut ls o c (getV o c.ky)).1 (chOut ls o c (getV o c.ky)).2.1 ss (chOut ls o c (getV o c.ky)).2.2 w e w' := by
 obtain ⟨k1, k2, k3, k4, k5⟩ := cmK_key hc h4 h5
 have hks := (okK_iff.1 k1).2
 have hgz : ((getV o c.ky).getD ⟨#[]⟩).size ≤ 60 := by
  cases hg : getV o c.ky with
  | none => show (⟨#[]⟩ : ByteArray).size ≤ 60; decide
  | some y => exact getV_size hL.ok hg
 have hvz := vbV_size c.kd c.vl _ k2 hgz
 have HSome : Hid ((getV o c.ky).isSome = true → ∃ t, o = some t) := Hd (fun h => by
  cases o with
  | none => cases h
  | some t => exact ⟨t, rfl⟩)
 have HVL := Hd (fun wx (hx : Bk B wx p lv tp sv S ls o ss) (htx : Tab wx) => value_any p c.ky hks wx S tp o (hx.1.cell 1 rfl) hx.2.2.2.2.1 hL.ri htx)
 rw [valV_eq] at HVL
 have HU := Hd (chW_eq ls o c (getV o c.ky))
 have HUW : Hid (∀ th ws, chW ls o c th ws = if c.kd = 3 ∧ th = false then (ls, o, ⟨2, 0, ⟨#[]⟩⟩) else if 0 < exV ls.length (lvO o) th (vbV c.kd c.vl ws).size then (ls, o, ⟨6, 0, ⟨#[]⟩⟩) else (ls ++ [leafC c], if c.kd = 3 then dropO (kh c.ky) o else some (putO o c.ky (vbV c.kd c.vl ws)), ⟨1, (ls.length : Int) + 1, vbV c.kd c.vl ws⟩)) := Hd (fun th ws => rfl)
 generalize (getV o c.ky).isSome = there at *
 generalize (getV o c.ky).getD ⟨#[]⟩ = was at *
 generalize chOut ls o c (getV o c.ky) = out at *
 have HBK := Hd hk
 have HT := Hd ht
 have HLK := Hd hL
 have HC := Hd (And.intro hc (And.intro hks k2))
 have hlk := hL.keys
 have hln := hL.n
 dsimp only at hlk hln
 obtain ⟨hpw, hBp⟩ := And.intro hk.1.1 hk.2.1
 have B0 := Hd ((bal w (.cells #[.int .i64 c.kd, .int .i64 c.ss, .int .i64 c.sq, .string c.ky, .string c.vl] 77)).alloc (by simp) (.cells #[.int .i64 0, .int .i64 0, .string ⟨#[]⟩] 82))
 have C0 := Hd ((Blk.new w #[.int .i64 c.kd, .int .i64 c.ss, .int .i64 c.sq, .string c.ky, .string c.vl] 77 w.heap.size rfl).alloc (.cells #[.int .i64 0, .int .i64 0, .string ⟨#[]⟩] 82))
 have R0 := Hd (Blk.new (w.alloc (.cells #[.int .i64 c.kd, .int .i64 c.ss, .int .i64 c.sq, .string c.ky, .string c.vl] 77)) #[.int .i64 0, .int .i64 0, .string ⟨#[]⟩] 82 (w.heap.size + 1) (by simp))
 clear hk ht hL hc k1 k5
 go_enter Tryz.func90, Tryz.ntmps90
 go_upto_region 1 with fail
 generalize (w.alloc (.cells #[.int .i64 c.kd, .int .i64 c.ss, .int .i64 c.sq, .string c.ky, .string c.vl] 77)).alloc (.cells #[.int .i64 0, .int .i64 0, .string ⟨#[]⟩] 82) = w0 at *
 have hw0 : w.heap.size + 1 < w0.heap.size := (uh R0).1
 have hb0 := below_drewN (Below.refl w0.heap.size w0) 1
 have K1 := hbt B0 hb0
 have C1 := Hd ((uh C0).below hb0)
 have R1 := Hd ((uh R0).below hb0)
 have BK1 := Hd ((uh HBK).below (uh K1))
 have HV0 := Hd (uh HVL w0.drew (uh BK1) ((uh HT).below (uh K1)))
 have c3 := (uh C0).cell 3 rfl
 have hcl : w.heap.size < w0.drew.heap.size := (uh C0).1
 clear HVL hb0 B0 C0 R0
 go_region_held3 (fun wx => wx.cell? ⟨w.heap.size, 3, none⟩ = some (.string c.ky))
  (first | go_keep | exact (hb1.cell (p := ⟨w.heap.size, 3, none⟩) hcl).trans c3)
  ((go_at_call 105; refine (uh HV0).mono ?_; rintro e w1 ⟨rfl, hb1⟩))
 have hs1 := hb1.size
 have K2 := hbt K1 hb1
 have C2 := Hd ((uh C1).below hb1)
 have R2 := Hd ((uh R1).below hb1)
 have BK2 := Hd ((uh BK1).below hb1)
 clear hb1 K1 C1 R1 BK1 HV0 c3 hcl
 have hw1 : w.heap.size + 1 < w1.heap.size := (uh R2).1
 have HVB := Hd (fun wx => valueBy_any c.kd c.ss c.sq c.ky c.vl was wx (by omega) (by omega))
 have HEX := Hd (fun wx (hx : Bk B wx p lv tp sv S ls o ss) => excess_of p ls.length (lvO o) there (vbV c.kd c.vl was) wx (by omega) (by omega) (by omega)
  (fun wy hy => by
   have h3 := (hx.below hy).2.2.1
   have h1 := (hx.below hy).1.cell 0 rfl
   rcases h3.2 with ⟨e, e0⟩ | ⟨g, cp, cu, e, _⟩
   ·rw [e] at h1
    have := places_any p none 0 0 wy h1 (by unfold maxLen; omega)
    rw [e0]
    exact this
   ·rw [e] at h1
    exact places_any p (some ⟨g, 0, none⟩) ls.length cp wy h1 (by unfold maxLen; omega))
  (fun wy hy => keys_any p tp S o wy ((hx.below hy).1.cell 1 rfl) (hx.below hy).2.2.2.2.1 (uh HLK).ok (by omega)))
 have HU2 := Hd ((uh HU).trans (uh HUW there was))
 clear HUW HU
 have x0 := (uh C2).cell 0 rfl
 by_cases hA : c.kd = 3 ∧ there = false
 ·rw [if_pos hA] at HU2
  obtain ⟨hA1, rfl⟩ := hA
  have b1 : (c.kd == 3) = true := by rw [hA1]; rfl
  clear hA1
  have RX := uh R2
  obtain ⟨⟨r0, r1, r2⟩, f0, f1, f2⟩ := Blk.c3 RX
  have HR9 := Hd (((RX.set 0 (.int .i64 2) (by simp)).set 1 (.int .i64 0) (by simp)).set 2 (.string ⟨#[]⟩) (by simp))
  have HT9 := Hd ((((Touch.refl (fun q => q = w.heap.size + 1) w1).setCell ⟨w.heap.size + 1, 0, none⟩ (.int .i64 2) (fun _ => rfl)).setCell ⟨w.heap.size + 1, 1, none⟩ (.int .i64 0) (fun _ => rfl)).setCell ⟨w.heap.size + 1, 2, none⟩ (.string ⟨#[]⟩) (fun _ => rfl))
  clear RX
  go_wp2_with fail
  have R9 := uh HR9
  have z0 := R9.cell 0 rfl
  have z1 := R9.cell 1 rfl
  have z2 := R9.cell 2 rfl
  refine bodyPost_ret (v := .agg #[.int .i64 2, .int .i64 0, .string ⟨#[]⟩]) (by simp [results, Tryz.results90, go_sem, z0, z1, z2]) rfl ?_
  refine do_tell (uh HU2) ⟨rfl, lv, tp, S, (uh BK2).keep (uh HT9) (fun k e => by rw [e]; exact (uh HBK).av _ (by omega)), fun r _ ha => ha, ?_⟩
  exact (Touch.ofBelow (uh K2)).trans (uh HT9) (fun j hj e => by omega)
 rw [if_neg hA] at HU2
 have HEZ := Hd (exV_le (n := ls.length) (k := lvO o) (z := (vbV c.kd c.vl was).size) (t := there))
 generalize vbV c.kd c.vl was = vv at *
 have HVB1 := Hd (uh HVB w1)
 have x1 := (uh C2).cell 1 rfl
 have x2 := (uh C2).cell 2 rfl
 have x3 := (uh C2).cell 3 rfl
 have x4 := (uh C2).cell 4 rfl
 clear HVB
 have HD : Hid (c.kd = 3 → there = true) := Hd (fun e => by
  cases there with
  | true => rfl
  | false => exact absurd ⟨e, rfl⟩ hA)
 by_cases h3 : c.kd = 3
 ·have b1 : (c.kd == 3) = true := by rw [h3]; rfl
  obtain rfl := uh HD h3
  have H3 := Hd h3
  clear hA h3
  go_wp2_with fail
  refine (uh HVB1).mono ?_
  rintro e w2 ⟨rfl, hb⟩
  clear x0 x1 x2 x3 x4 HVB1
  have K3 := hbt K2 hb
  have C3 := Hd ((uh C2).below hb)
  have R3 := Hd ((uh R2).below hb)
  have BK3 := Hd ((uh BK2).below hb)
  have hs3 := hb.size
  clear hb K2 C2 R2 BK2
  have HE1 := Hd (uh HEX w2 (uh BK3))
  generalize exV ls.length (lvO o) true vv.size = ex at *
  have HT3 := Hd ((uh HT).below (uh K3))
  clear HEX
  go_wp2_with fail
  refine (uh HE1).mono ?_
  rintro e w3 ⟨rfl, hb⟩
  clear HE1 HT3
  have K4 := hbt K3 hb
  have C4 := Hd ((uh C3).below hb)
  have R4 := Hd ((uh R3).below hb)
  have BK4 := Hd ((uh BK3).below hb)
  have hs4 := hb.size
  clear hb K3 C3 R3 BK3
  have hw3 : w.heap.size + 1 < w3.heap.size := (uh R4).1
  have x0 := (uh C4).cell 0 rfl
  by_cases hx : 0 < ex
  ·rw [if_pos hx] at HU2
   have RX := uh R4
   obtain ⟨⟨r0, r1, r2⟩, f0, f1, f2⟩ := Blk.c3 RX
   have HR9 := Hd (((RX.set 0 (.int .i64 6) (by simp)).set 1 (.int .i64 0) (by simp)).set 2 (.string ⟨#[]⟩) (by simp))
   have HT9 := Hd ((((Touch.refl (fun q => q = w.heap.size + 1) w3).setCell ⟨w.heap.size + 1, 0, none⟩ (.int .i64 6) (fun _ => rfl)).setCell ⟨w.heap.size + 1, 1, none⟩ (.int .i64 0) (fun _ => rfl)).setCell ⟨w.heap.size + 1, 2, none⟩ (.string ⟨#[]⟩) (fun _ => rfl))
   clear RX
   go_wp2_with fail
   have R9 := uh HR9
   have z0 := R9.cell 0 rfl
   have z1 := R9.cell 1 rfl
   have z2 := R9.cell 2 rfl
   refine bodyPost_ret (v := .agg #[.int .i64 6, .int .i64 0, .string ⟨#[]⟩]) (by simp [results, Tryz.results90, go_sem, z0, z1, z2]) rfl ?_
   refine do_tell (uh HU2) ⟨rfl, lv, tp, S, (uh BK4).keep (uh HT9) (fun k e => by rw [e]; exact (uh HBK).av _ (by omega)), fun r _ ha => ha, ?_⟩
   exact (Touch.ofBelow (uh K4)).trans (uh HT9) (fun j hj e => by omega)
  rw [if_neg hx, if_pos (uh H3)] at HU2
  have hb0 := below_drewN (Below.refl w3.heap.size w3) 1
  have K5 := hbt K4 hb0
  have BK5 := Hd ((uh BK4).below hb0)
  have HT5 := Hd ((uh HT).below (uh K5))
  change Hid (Bk B w3.drew p lv tp sv S ls o ss) at BK5
  change Hid (Tab w3.drew) at HT5
  change Hid (Below w.heap.size w w3.drew) at K5
  have C5 := Hd ((uh C4).below hb0)
  have R5 := Hd ((uh R4).below hb0)
  change Hid (Blk w3.drew _ _) at C5
  change Hid (Blk w3.drew _ _) at R5
  have hSz := Hd (fun x (hx : S x) => And.intro ((uh BK5).2.2.2.2.2.1 x hx).2.1 ((uh BK5).2.2.2.2.2.1 x hx).2.2.1)
  have HAv := Hd (fun r (hr : w.heap.size ≤ r) => (uh HBK).av r hr)
  have hB3 : B ≤ w3.drew.heap.size := by show B ≤ w3.heap.size; omega
  obtain ⟨t, ht⟩ := uh HSome (by first | trivial | rfl)
  obtain ⟨pt, hpt, hnd⟩ : ∃ pt, tp = some ⟨pt, 0, none⟩ ∧ Nd w3.drew S pt t := by
   have := (uh BK5).2.2.2.2.1
   rw [ht] at this
   exact this
  have HDR := Hd (drop_any p lv sv pt S t c.ky w3.drew (by rw [← hpt]; exact (uh BK5).1) hnd (by have := (uh HLK).ri; dsimp only at this; rw [ht] at this; exact this) (uh hSz) hks (uh HT5))
  have hdo : dropT (kh c.ky) t = dropO (kh c.ky) o := by rw [ht]; rfl
  rw [hdo] at HDR
  generalize dropO (kh c.ky) o = oN at *
  clear hnd hpt hdo
  have c3 := (uh C4).cell 3 rfl
  have hcl : w.heap.size < w3.drew.heap.size := (uh C4).1
  clear K4 C4 R4 BK4 HEZ HT5 hb0
  go_upto_region 8 with fail
  clear x0
  go_region_held3 (fun wx => wx.cell? ⟨w.heap.size, 3, none⟩ = some (.string c.ky))
   (first | go_keep | exact (touch_cell t4 _ _ hcl (fun h => h (uh HAv _ (Nat.le_refl _)))).trans c3)
   ((go_at_call 108; refine (uh HDR).mono ?_; rintro e w4 ⟨⟨v4, rfl⟩, hM⟩; obtain ⟨tp4, S4, bk4, av4, t4⟩ := (uh BK5).map hB3 hM))
  have hs4 := t4.size
  have A4 : Av p lv sv S4 w.heap.size ∧ Av p lv sv S4 (w.heap.size + 1) := ⟨av4 _ hcl (uh HAv _ (by omega)), av4 _ (by show w.heap.size + 1 < w3.heap.size; omega) (uh HAv _ (by omega))⟩
  have C6 := (uh C5).kept t4 (fun h => h (uh HAv _ (Nat.le_refl _)))
  have HC6 := Hd C6
  have R6 := Hd ((uh R5).kept t4 (fun h => h (uh HAv _ (by omega))))
  have T6 := Hd ((Touch.ofBelow (T := fun q => ¬ Av p lv sv S q) (uh K5)).trans t4 (fun _ _ e => e))
  have HAV4 := Hd (fun r (hr : r < w.heap.size) (ha : Av p lv sv S r) => av4 r (by show r < w3.heap.size; omega) ha)
  have hTb := Tab.kept ((uh HT).kept (uh T6) (fun h => absurd ((uh HBK).ge _ h) (by omega)) (fun h => absurd ((uh HBK).ge _ h) (by omega))) ((Touch.refl (fun _ => False) w4).drewN 1) (fun h => h) (fun h => h)
  have bk5 := bk4.below (below_drewN (Below.refl w4.heap.size w4) 1)
  change Tab w4.drew at hTb
  change Bk B w4.drew p lv tp4 sv S4 ls oN ss at bk5
  have BK7 := Hd bk5
  have hB4 : B ≤ w4.drew.heap.size := by show B ≤ w4.heap.size; have : w3.drew.heap.size = w3.heap.size := rfl; omega
  have HNO := Hd (note_any B p lv sv tp4 ls c w4.drew bk5.1 bk5.2.2.1 hB4 bk5.2.2.2.2.2.2.1 (uh HC).1 hks (uh HC).2.2 (by omega) hTb)
  have HA4 := Hd A4
  have hc4 : w.heap.size < w4.drew.heap.size := C6.1
  have hr4 : w.heap.size + 1 < w4.drew.heap.size := (uh R6).1
  obtain ⟨x0, x1, x2, x3, x4⟩ := Blk.c5 C6
  clear c3 hM bk4 av4 t4 C6 A4 bk5 hTb HDR C5 R5 K5 BK5 hSz hcl
  go_upto_region 10 with fail
  go_region_held3 (fun wx => wx.cell? ⟨w.heap.size, 0, none⟩ = some (.int .i64 c.kd) ∧ wx.cell? ⟨w.heap.size, 1, none⟩ = some (.int .i64 c.ss) ∧ wx.cell? ⟨w.heap.size, 2, none⟩ = some (.int .i64 c.sq) ∧ wx.cell? ⟨w.heap.size, 3, none⟩ = some (.string c.ky) ∧ wx.cell? ⟨w.heap.size, 4, none⟩ = some (.string c.vl))
   (first | go_keep | exact ⟨(touch_cell t5 _ _ hc4 (fun h => h (uh HA4).1)).trans x0, (touch_cell t5 _ _ hc4 (fun h => h (uh HA4).1)).trans x1, (touch_cell t5 _ _ hc4 (fun h => h (uh HA4).1)).trans x2, (touch_cell t5 _ _ hc4 (fun h => h (uh HA4).1)).trans x3, (touch_cell t5 _ _ hc4 (fun h => h (uh HA4).1)).trans x4⟩)
   ((go_at_call 110; refine (uh HNO).mono ?_; rintro e w5 ⟨⟨v5, rfl⟩, hM⟩; obtain ⟨lv5, bk5, av5, t5⟩ := (uh BK7).log hB4 hM))
  have hs5 := t5.size
  have R7 := Hd (((uh R6).drewN 1).kept t5 (fun h => h (uh HA4).2))
  have HR5 := Hd (av5 _ hr4 (uh HA4).2)
  have T7 := Hd (((uh T6).drewN 1).trans t5 (fun j hj h hav => h (uh HAV4 j hj hav)))
  have HAV5 := Hd (fun r (hr : r < w.heap.size) (ha : Av p lv sv S r) => av5 r (by show r < w4.heap.size; have : w4.drew.heap.size = w4.heap.size := rfl; omega) (uh HAV4 r hr ha))
  obtain ⟨g5, cp5, e5, _, _⟩ := World.ownsRow.form bk5.2.2.1 (by simp)
  have y0 := bk5.1.cell 0 rfl
  rw [e5] at y0
  have HPL := Hd (places_any p (some ⟨g5, 0, none⟩) (ls ++ [leafC c]).length cp5 w5 y0 (by simp; unfold maxLen; omega))
  have hll : (((ls ++ [leafC c]).length : Nat) : Int) = (ls.length : Int) + 1 := by simp
  rw [hll] at HPL
  have BK8 := Hd bk5
  have hw5 : w.heap.size + 1 < w5.heap.size := (uh R7).1
  clear hM bk5 av5 t5 y0 e5 hll x0 x1 x2 x3 x4 HNO BK7 R6 T6
  go_wp2_with fail
  refine (uh HPL).mono ?_
  rintro e w' ⟨rfl, hw'⟩
  have hw2 := hw'.symm
  clear hw' HPL
  subst hw2
  have RX := uh R7
  obtain ⟨⟨r0, r1, r2⟩, f0, f1, f2⟩ := Blk.c3 RX
  have HR9 := Hd (((RX.set 0 (.int .i64 1) (by simp)).set 1 (.int .i64 ((ls.length : Int) + 1)) (by simp)).set 2 (.string vv) (by simp))
  have HT9 := Hd ((((Touch.refl (fun q => q = w.heap.size + 1) w5).setCell ⟨w.heap.size + 1, 0, none⟩ (.int .i64 1) (fun _ => rfl)).setCell ⟨w.heap.size + 1, 1, none⟩ (.int .i64 ((ls.length : Int) + 1)) (fun _ => rfl)).setCell ⟨w.heap.size + 1, 2, none⟩ (.string vv) (fun _ => rfl))
  clear RX
  go_wp2_with fail
  have R9 := uh HR9
  have z0 := R9.cell 0 rfl
  have z1 := R9.cell 1 rfl
  have z2 := R9.cell 2 rfl
  refine bodyPost_ret (v := .agg #[.int .i64 1, .int .i64 ((ls.length : Int) + 1), .string vv]) (by simp [results, Tryz.results90, go_sem, z0, z1, z2]) rfl ?_
  refine do_tell (uh HU2) ⟨rfl, lv5, tp4, S4, (uh BK8).keep (uh HT9) (fun k e => by rw [e]; exact uh HR5), uh HAV5, ?_⟩
  exact (uh T7).trans (uh HT9) (fun j hj e => by omega)
 ·have b1 : (c.kd == 3) = false := by rw [beq_eq_false_iff_ne]; exact h3
  have H3 := Hd h3
  clear hA h3
  go_wp2_with fail
  refine (uh HVB1).mono ?_
  rintro e w2 ⟨rfl, hb⟩
  clear x0 x1 x2 x3 x4 HVB1
  have K3 := hbt K2 hb
  have C3 := Hd ((uh C2).below hb)
  have R3 := Hd ((uh R2).below hb)
  have BK3 := Hd ((uh BK2).below hb)
  have hs3 := hb.size
  clear hb K2 C2 R2 BK2
  have HE1 := Hd (uh HEX w2 (uh BK3))
  generalize exV ls.length (lvO o) there vv.size = ex at *
  have HT3 := Hd ((uh HT).below (uh K3))
  clear HEX
  go_wp2_with fail
  refine (uh HE1).mono ?_
  rintro e w3 ⟨rfl, hb⟩
  clear HE1 HT3
  have K4 := hbt K3 hb
  have C4 := Hd ((uh C3).below hb)
  have R4 := Hd ((uh R3).below hb)
  have BK4 := Hd ((uh BK3).below hb)
  have hs4 := hb.size
  clear hb K3 C3 R3 BK3
  have hw3 : w.heap.size + 1 < w3.heap.size := (uh R4).1
  have x0 := (uh C4).cell 0 rfl
  by_cases hx : 0 < ex
  ·rw [if_pos hx] at HU2
   have RX := uh R4
   obtain ⟨⟨r0, r1, r2⟩, f0, f1, f2⟩ := Blk.c3 RX
   have HR9 := Hd (((RX.set 0 (.int .i64 6) (by simp)).set 1 (.int .i64 0) (by simp)).set 2 (.string ⟨#[]⟩) (by simp))
   have HT9 := Hd ((((Touch.refl (fun q => q = w.heap.size + 1) w3).setCell ⟨w.heap.size + 1, 0, none⟩ (.int .i64 6) (fun _ => rfl)).setCell ⟨w.heap.size + 1, 1, none⟩ (.int .i64 0) (fun _ => rfl)).setCell ⟨w.heap.size + 1, 2, none⟩ (.string ⟨#[]⟩) (fun _ => rfl))
   clear RX
   go_wp2_with fail
   have R9 := uh HR9
   have z0 := R9.cell 0 rfl
   have z1 := R9.cell 1 rfl
   have z2 := R9.cell 2 rfl
   refine bodyPost_ret (v := .agg #[.int .i64 6, .int .i64 0, .string ⟨#[]⟩]) (by simp [results, Tryz.results90, go_sem, z0, z1, z2]) rfl ?_
   refine do_tell (uh HU2) ⟨rfl, lv, tp, S, (uh BK4).keep (uh HT9) (fun k e => by rw [e]; exact (uh HBK).av _ (by omega)), fun r _ ha => ha, ?_⟩
   exact (Touch.ofBelow (uh K4)).trans (uh HT9) (fun j hj e => by omega)
  rw [if_neg hx, if_neg (uh H3)] at HU2
  have hb0 := below_drewN (Below.refl w3.heap.size w3) 1
  have K5 := hbt K4 hb0
  have BK5 := Hd ((uh BK4).below hb0)
  have HT5 := Hd ((uh HT).below (uh K5))
  change Hid (Bk B w3.drew p lv tp sv S ls o ss) at BK5
  change Hid (Tab w3.drew) at HT5
  change Hid (Below w.heap.size w w3.drew) at K5
  have C5 := Hd ((uh C4).below hb0)
  have R5 := Hd ((uh R4).below hb0)
  change Hid (Blk w3.drew _ _) at C5
  change Hid (Blk w3.drew _ _) at R5
  have hSz := Hd (fun x (hx : S x) => And.intro ((uh BK5).2.2.2.2.2.1 x hx).2.1 ((uh BK5).2.2.2.2.2.1 x hx).2.2.1)
  have HAv := Hd (fun r (hr : w.heap.size ≤ r) => (uh HBK).av r hr)
  have hB3 : B ≤ w3.drew.heap.size := by show B ≤ w3.heap.size; omega
  have HDR := Hd (set_any p lv sv tp S o c.ky vv w3.drew (uh BK5).1 (uh BK5).2.2.2.2.1 (uh HLK).ri (uh HLK).sp (uh HLK).ok (uh hSz) hks (uh HT5))
  generalize some (putO o c.ky vv) = oN at *
  have c3 := (uh C4).cell 3 rfl
  have hcl : w.heap.size < w3.drew.heap.size := (uh C4).1
  clear K4 C4 R4 BK4 HEZ HT5 hb0
  go_upto_region 9 with fail
  clear x0
  go_region_held3 (fun wx => wx.cell? ⟨w.heap.size, 3, none⟩ = some (.string c.ky))
   (first | go_keep | exact (touch_cell t4 _ _ hcl (fun h => h (uh HAv _ (Nat.le_refl _)))).trans c3)
   ((go_at_call 109; refine (uh HDR).mono ?_; rintro e w4 ⟨⟨v4, rfl⟩, hM⟩; obtain ⟨tp4, S4, bk4, av4, t4⟩ := (uh BK5).map hB3 hM))
  have hs4 := t4.size
  have A4 : Av p lv sv S4 w.heap.size ∧ Av p lv sv S4 (w.heap.size + 1) := ⟨av4 _ hcl (uh HAv _ (by omega)), av4 _ (by show w.heap.size + 1 < w3.heap.size; omega) (uh HAv _ (by omega))⟩
  have C6 := (uh C5).kept t4 (fun h => h (uh HAv _ (Nat.le_refl _)))
  have HC6 := Hd C6
  have R6 := Hd ((uh R5).kept t4 (fun h => h (uh HAv _ (by omega))))
  have T6 := Hd ((Touch.ofBelow (T := fun q => ¬ Av p lv sv S q) (uh K5)).trans t4 (fun _ _ e => e))
  have HAV4 := Hd (fun r (hr : r < w.heap.size) (ha : Av p lv sv S r) => av4 r (by show r < w3.heap.size; omega) ha)
  have hTb := Tab.kept ((uh HT).kept (uh T6) (fun h => absurd ((uh HBK).ge _ h) (by omega)) (fun h => absurd ((uh HBK).ge _ h) (by omega))) ((Touch.refl (fun _ => False) w4).drewN 1) (fun h => h) (fun h => h)
  have bk5 := bk4.below (below_drewN (Below.refl w4.heap.size w4) 1)
  change Tab w4.drew at hTb
  change Bk B w4.drew p lv tp4 sv S4 ls oN ss at bk5
  have BK7 := Hd bk5
  have hB4 : B ≤ w4.drew.heap.size := by show B ≤ w4.heap.size; have : w3.drew.heap.size = w3.heap.size := rfl; omega
  have HNO := Hd (note_any B p lv sv tp4 ls c w4.drew bk5.1 bk5.2.2.1 hB4 bk5.2.2.2.2.2.2.1 (uh HC).1 hks (uh HC).2.2 (by omega) hTb)
  have HA4 := Hd A4
  have hc4 : w.heap.size < w4.drew.heap.size := C6.1
  have hr4 : w.heap.size + 1 < w4.drew.heap.size := (uh R6).1
  obtain ⟨x0, x1, x2, x3, x4⟩ := Blk.c5 C6
  clear c3 hM bk4 av4 t4 C6 A4 bk5 hTb HDR C5 R5 K5 BK5 hSz hcl
  go_upto_region 10 with fail
  go_region_held3 (fun wx => wx.cell? ⟨w.heap.size, 0, none⟩ = some (.int .i64 c.kd) ∧ wx.cell? ⟨w.heap.size, 1, none⟩ = some (.int .i64 c.ss) ∧ wx.cell? ⟨w.heap.size, 2, none⟩ = some (.int .i64 c.sq) ∧ wx.cell? ⟨w.heap.size, 3, none⟩ = some (.string c.ky) ∧ wx.cell? ⟨w.heap.size, 4, none⟩ = some (.string c.vl))
   (first | go_keep | exact ⟨(touch_cell t5 _ _ hc4 (fun h => h (uh HA4).1)).trans x0, (touch_cell t5 _ _ hc4 (fun h => h (uh HA4).1)).trans x1, (touch_cell t5 _ _ hc4 (fun h => h (uh HA4).1)).trans x2, (touch_cell t5 _ _ hc4 (fun h => h (uh HA4).1)).trans x3, (touch_cell t5 _ _ hc4 (fun h => h (uh HA4).1)).trans x4⟩)
   ((go_at_call 110; refine (uh HNO).mono ?_; rintro e w5 ⟨⟨v5, rfl⟩, hM⟩; obtain ⟨lv5, bk5, av5, t5⟩ := (uh BK7).log hB4 hM))
  have hs5 := t5.size
  have R7 := Hd (((uh R6).drewN 1).kept t5 (fun h => h (uh HA4).2))
  have HR5 := Hd (av5 _ hr4 (uh HA4).2)
  have T7 := Hd (((uh T6).drewN 1).trans t5 (fun j hj h hav => h (uh HAV4 j hj hav)))
  have HAV5 := Hd (fun r (hr : r < w.heap.size) (ha : Av p lv sv S r) => av5 r (by show r < w4.heap.size; have : w4.drew.heap.size = w4.heap.size := rfl; omega) (uh HAV4 r hr ha))
  obtain ⟨g5, cp5, e5, _, _⟩ := World.ownsRow.form bk5.2.2.1 (by simp)
  have y0 := bk5.1.cell 0 rfl
  rw [e5] at y0
  have HPL := Hd (places_any p (some ⟨g5, 0, none⟩) (ls ++ [leafC c]).length cp5 w5 y0 (by simp; unfold maxLen; omega))
  have hll : (((ls ++ [leafC c]).length : Nat) : Int) = (ls.length : Int) + 1 := by simp
  rw [hll] at HPL
  have BK8 := Hd bk5
  have hw5 : w.heap.size + 1 < w5.heap.size := (uh R7).1
  clear hM bk5 av5 t5 y0 e5 hll x0 x1 x2 x3 x4 HNO BK7 R6 T6
  go_wp2_with fail
  refine (uh HPL).mono ?_
  rintro e w' ⟨rfl, hw'⟩
  have hw2 := hw'.symm
  clear hw' HPL
  subst hw2
  have RX := uh R7
  obtain ⟨⟨r0, r1, r2⟩, f0, f1, f2⟩ := Blk.c3 RX
  have HR9 := Hd (((RX.set 0 (.int .i64 1) (by simp)).set 1 (.int .i64 ((ls.length : Int) + 1)) (by simp)).set 2 (.string vv) (by simp))
  have HT9 := Hd ((((Touch.refl (fun q => q = w.heap.size + 1) w5).setCell ⟨w.heap.size + 1, 0, none⟩ (.int .i64 1) (fun _ => rfl)).setCell ⟨w.heap.size + 1, 1, none⟩ (.int .i64 ((ls.length : Int) + 1)) (fun _ => rfl)).setCell ⟨w.heap.size + 1, 2, none⟩ (.string vv) (fun _ => rfl))
  clear RX
  go_wp2_with fail
  have R9 := uh HR9
  have z0 := R9.cell 0 rfl
  have z1 := R9.cell 1 rfl
  have z2 := R9.cell 2 rfl
  refine bodyPost_ret (v := .agg #[.int .i64 1, .int .i64 ((ls.length : Int) + 1), .string vv]) (by simp [results, Tryz.results90, go_sem, z0, z1, z2]) rfl ?_
  refine do_tell (uh HU2) ⟨rfl, lv5, tp4, S4, (uh BK8).keep (uh HT9) (fun k e => by rw [e]; exact uh HR5), uh HAV5, ?_⟩
  exact (uh T7).trans (uh HT9) (fun j hj e => by omega)
def Fin (w : World) (B n : Nat) : Prop := B < w.heap.size ∧ ∀ j, n ≤ j → w.cell? ⟨B, j, none⟩ = none
theorem Fin.new (w : World) (cs : Array Value) (t : TypeId) (B n : Nat) (hB : w.heap.size = B) (hn : cs.size ≤ n) : Fin (w.alloc (.cells cs t)) B n := by
 subst hB
 refine ⟨by simp, fun j hj => ?_⟩
 rw [World.cell?_alloc_at _ _ _ _ rfl]
 simp
 omega
theorem Fin.kept {T : Nat → Prop} {w w' : World} {B n : Nat} (h : Fin w B n) (ht : Touch T w w') (hn : ¬ T B) : Fin w' B n :=
 ⟨Nat.lt_of_lt_of_le h.1 ht.size, fun j hj => (ht.cell (p := ⟨B, j, none⟩) h.1 hn).trans (h.2 j hj)⟩
theorem Fin.below {w w' : World} {B n : Nat} (h : Fin w B n) (hb : Below w.heap.size w w') : Fin w' B n := h.kept (T := fun _ => False) (Touch.ofBelow hb) (fun h => h)
theorem Fin.alloc {w : World} {B n : Nat} (h : Fin w B n) (o : Obj) : Fin (w.alloc o) B n := h.kept (T := fun _ => False) ((Touch.refl _ _).alloc o) (fun h => h)
theorem Fin.set {w : World} {B n : Nat} (h : Fin w B n) (j : Nat) (v : Value) (hj : j < n) : Fin (w.setCell ⟨B, j, none⟩ v) B n :=
 ⟨by have := h.1; simpa using this, fun i hi => by rw [World.cell?_setCell_other _ _ _ _ (by simp; try omega)]; exact h.2 i hi⟩
theorem Brs.boundS {S : Nat → Prop} {w : World} {v : Value} {l : List Br} (h : Brs S w v l) : Brs (fun x => S x ∧ x < w.heap.size) w v l := by
 induction h with
 | nil a cap hc => exact .nil a cap hc
 | row b off cap l kv h0 h1 h2 h3 h4 h5 h6 h7 ih => exact .row b off cap l kv h0 h1 h2 h3 ⟨h4, h3⟩ h5 h6 ih
theorem Brs.small {S T : Nat → Prop} {w : World} (hT : ∀ k, T k → Fin w k 7) : ∀ (t : Tr) (v : Value), Brs S w v t.toBr.kids → Brs (fun x => S x ∧ ¬ T x) w v t.toBr.kids := by
 intro t
 induction t with
 | leaf k v =>
  intro v2 h
  have e : (Tr.leaf k v).toBr.kids = [] := rfl
  cases h with
  | nil a cap hc => exact .nil a cap hc
  | row b off cap l kv h0 h1 h2 h3 h4 h5 h6 h7 => exact absurd h0 (by rw [e]; simp)
 | fork a hh l r ihl ihr =>
  intro v h
  have e : (Tr.fork a hh l r).toBr.kids = [l.toBr, r.toBr] := rfl
  rw [e] at h ⊢
  cases h with
  | row b off cap l kv h0 h1 h2 h3 h4 h5 h6 h7 =>
   refine .row b off cap _ kv h0 h1 h2 h3 ⟨h4, fun ht => ?_⟩ h5 h6 (fun i hi => ?_)
   ·have := (h5 1 (by simp)).2.2.2
    rw [(hT b ht).2 _ (by omega)] at this
    cases this
   ·have hi2 : i = 0 ∨ i = 1 := by simp at hi; omega
    rcases hi2 with rfl | rfl
    ·exact ihl _ (h7 0 (by simp))
    ·exact ihr _ (h7 1 (by simp))
theorem Brs.smallO {S T : Nat → Prop} {w : World} (hT : ∀ k, T k → Fin w k 7) (o : Option Tr) (v : Value) (h : Brs S w v (brOf o).kids) : Brs (fun x => S x ∧ ¬ T x) w v (brOf o).kids := by
 cases o with
 | some t => exact Brs.small hT t v h
 | none =>
  have e : (brOf none).kids = [] := rfl
  rw [e] at h ⊢
  cases h with
  | nil a cap hc => exact .nil a cap hc
  | row b off cap l kv h0 h1 h2 h3 h4 h5 h6 h7 => exact absurd h0 (by simp)
def Fresh (H : Nat) (v0 v : Value) : Prop := v = v0 ∨ ∀ k, v.ownBlock = some k → H ≤ k
theorem own_fresh {B H : Nat} {e : TypeId} {sz n : Nat} {w : World} {v v0 : Value} {xs : List Value} (h : w.ownsRow B e sz v n xs) (hH : H ≤ B) : Fresh H v0 v := .inr (fun k hk => Nat.le_trans hH (World.ownsRow.lt h k hk).1)
end Go.Proofs.YtbchnheinnileaaGreatDoor.Sha
