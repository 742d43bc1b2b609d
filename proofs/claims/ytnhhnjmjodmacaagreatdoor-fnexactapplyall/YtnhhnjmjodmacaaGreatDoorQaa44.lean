/- What the proof of the claim needs (joined by program): LedM BrI LedH LwA LedV. -/
import Derived.Test.YtnhhnjmjodmacaaGreatDoorQaa25
import Derived.Test.YtnhhnjmjodmacaaGreatDoorQaa18
import Derived.Test.YtnhhnjmjodmacaaGreatDoorQaa00
import Derived.Test.YtnhhnjmjodmacaaGreatDoorQaa01
import Derived.Test.YtnhhnjmjodmacaaGreatDoorQaa26
import Derived.Test.YtnhhnjmjodmacaaGreatDoorQaa40
namespace Go.Proofs.YtnhhnjmjodmacaaGreatDoor.Sha
set_option maxRecDepth 100000
set_option maxHeartbeats 8000000
open Go.ChangeShapes Go.WideShapes Go.ChangeAt Go.RowKit
set_option linter.unusedVariables false
theorem markBranchK_any (c : Nat) (hc0 : 0 < c) (k v : ByteArray) (at_ : Int) (a : Option Addr) (n cap : Nat) {S : Nat → Prop} {w : World} {l : List Br} (h : BrO w S (.slice a n cap) l) (hc : c + 3 * cntL l ≤ 8388608) :
  Calls Tryz.prog 45 #[.agg #[.string k, .string v, .int .i64 at_, .slice a n cap], .int .i64 (c : Int)] w fun e w' => e = .returned (.int .i64 ((c + 3 * cntL l : Nat) : Int)) ∧ BrO w' S (.slice a n cap) (markL c l) ∧ Touch S w w' := by
 have T1 := Hd ((Touch.refl (fun _ => False) w).alloc (.cells #[.string k, .string v, .int .i64 at_, .slice a n cap] 35))
 have HE := Hd (markBranchS_any h _ (fun _ => False) c (uh T1) (fun _ _ h => h) hc0 hc)
 have TS := Hd ((Touch.refl S w).alloc (.cells #[.string k, .string v, .int .i64 at_, .slice a n cap] 35))
 clear h
 generalize c + 3 * cntL l = m at *
 go_enter Tryz.func45, Tryz.ntmps45
 go_wp2_with fail
 refine (uh HE).mono ?_
 rintro e w2 ⟨rfl, hO2, hT2⟩
 have R := Hd (And.intro hO2 ((uh TS).trans hT2 (fun _ _ h => h)))
 clear hO2 hT2 HE
 go_wp2_with fail
 go_ret
 exact ⟨rfl, (uh R).1, (uh R).2⟩
def LedU (B M : Nat) (w : World) (lv kv sv : Value) (ls : List ByteArray) (ks : List Br) (ss : List Se) : Prop :=
 OwnS B w lv ls ∧ OwnSe B w sv ss ∧ (∀ x, lv.ownBlock = some x → sv.ownBlock ≠ some x) ∧ (∀ x, lv.ownBlock = some x → x < M) ∧ (∀ x, sv.ownBlock = some x → x < M) ∧ ∃ S : Nat → Prop, BrO w S kv ks ∧ ∀ x, S x → B ≤ x ∧ x < M ∧ lv.ownBlock ≠ some x ∧ sv.ownBlock ≠ some x
theorem LedO.up {B : Nat} {w : World} {lv kv sv : Value} {ls : List ByteArray} {ks : List Br} {ss : List Se} (h : LedO B w lv kv sv ls ks ss) : LedU B w.heap.size w lv kv sv ls ks ss := by
 obtain ⟨h1, h2, h4, S, h3, h5⟩ := h
 exact ⟨h1, h2, h4, fun x hx => (h1.lt x hx).2, fun x hx => (h2.lt x hx).2, S, h3, h5⟩
theorem LedU.below {B M : Nat} {w w' : World} {lv kv sv : Value} {ls : List ByteArray} {ks : List Br} {ss : List Se} (h : LedU B M w lv kv sv ls ks ss) (hb : Below w.heap.size w w') : LedU B M w' lv kv sv ls ks ss := by
 obtain ⟨h1, h2, h4, h6, h7, S, h3, h5⟩ := h
 exact ⟨h1.below hb, h2.below hb, h4, h6, h7, S, h3.blw hb, h5⟩
theorem LedU.led {B M : Nat} {w : World} {lv kv sv : Value} {ls : List ByteArray} {ks : List Br} {ss : List Se} (h : LedU B M w lv kv sv ls ks ss) : LedR w lv kv sv ls ks ss := by
 obtain ⟨h1, h2, _, _, _, S, h3, _⟩ := h
 exact ⟨h1.strs, h3.brs.mono (fun _ _ => trivial), h2.read⟩
end Go.Proofs.YtnhhnjmjodmacaaGreatDoor.Sha
namespace Go.Proofs.YtnhhnjmjodmacaaGreatDoor.Sha
set_option maxRecDepth 100000
set_option maxHeartbeats 8000000
open Go.ChangeShapes Go.WideShapes Go.ChangeAt Go.RowKit
set_option linter.unusedVariables false
set_option linter.unusedSimpArgs false
theorem heldBranchS_any {S : Nat → Prop} {w0 : World} {v : Value} {L : List Br} (h : Brs S w0 v L) : ∀ (k : Nat) (l : List Br) (w : World), L = markL k l → Below w0.heap.size w0 w → 0 < k → k + 3 * cntL l ≤ 8388608 →
  Calls Tryz.prog 82 #[v, .int .i64 k] w fun e w' => e = .returned (.int .i64 ((k + 3 * cntL l : Nat) : Int)) ∧ Below w.heap.size w w' := by
 induction h with
 | nil a cap hc =>
  intro k l w hl hb0 hk0 hk1
  obtain rfl : l = [] := List.eq_nil_of_length_eq_zero (by rw [← markL_len k l, ← hl]; rfl)
  have hc0 : k + 3 * cntL [] = k := by unfold cntL; omega
  rw [hc0]
  clear hb0 hc hl hk1 hc0
  go_enter Tryz.func82, Tryz.ntmps82
  go_wp2_with fail
  go_loopw [1, 5] (fun kk i wr => kk = .int .i64 (k : Int) ∧ i = .int .i64 0 ∧ wr = w) (fun _ _ _ => 0)
  case atStart => exact ⟨rfl, rfl, rfl⟩
  case round =>
   obtain ⟨rfl, rfl, hwr⟩ := hrel
   subst wr
   go_wp2_with fail
   go_ret
   exact ⟨rfl, Below.refl _ _⟩
 | row b off cap L kv p0 p1 p2 p3 p4 p5 p6 p7 ih =>
  intro k l w hl hb0 hk0 hk1
  have HC := Hd (BrAt.mk p3 p4 p5 p6 p7 : BrAt S w0 b off L kv)
  have HI := Hd ih
  have HB0 := Hd hb0
  have hlen : L.length = l.length := by rw [hl, markL_len]
  have HMG := Hd (fun i (hi : i < l.length) => show L.getD i default = markB (k + 3 * cntL (l.take i)) (l.getD i default) by rw [hl]; exact markL_get l k i hi)
  have hlm : l.length ≤ 9223372036854775807 := by unfold maxLen at p2; omega
  rw [hlen]
  have HCT := Hd (fun i => cnt_take_le l i)
  clear p3 p4 p5 p6 p7 ih hb0 p1 p2 hl
  go_enter Tryz.func82, Tryz.ntmps82
  go_wp2_with fail
  go_loopw [1, 5] (fun kk i wr => ∃ j : Nat, j ≤ l.length ∧ kk = .int .i64 ((k + 3 * cntL (l.take j) : Nat) : Int) ∧ i = .int .i64 j ∧ Below w.heap.size w wr) (fun _ i _ => l.length - (intOf i).toNat)
  case atStart => exact ⟨0, Nat.zero_le _, by simp [cntL], rfl, Below.refl _ _⟩
  case round =>
   obtain ⟨j, hj, rfl, rfl, hb⟩ := hrel
   by_cases hlt : j < l.length
   ·have hltL : j < L.length := by omega
    obtain ⟨s0, s1, s2, s3⟩ := (uh HC).cells j hltL
    have hbl := (uh HC).lt
    have hb00 := (uh HB0).trans (hb.mono (uh HB0).size)
    have hmb := markB_key (k + 3 * cntL (l.take j)) (l.getD j default)
    have hct := cnt_take l j hlt
    have hcl := uh HCT (j + 1)
    have hce := Br.cnt_eq (l.getD j default)
    obtain ⟨ka, kc, hkv, _, _⟩ := ((uh HC).kids j hltL).shape
    have HR := Hd (fun wx (hx : Below w0.heap.size w0 wx) => uh HI j hltL (k + 3 * cntL (l.take j) + 3) (l.getD j default).kids wx (by rw [uh HMG j hlt]; exact hmb.2.2.2) hx (by omega) (by omega))
    rw [hkv] at HR s3
    rw [uh HMG j hlt, hmb.2.2.2, markL_len] at s3 HR
    rw [uh HMG j hlt, hmb.1] at s0
    rw [uh HMG j hlt, hmb.2.1] at s1
    rw [uh HMG j hlt, hmb.2.2.1] at s2
    have hnext : k + 3 * cntL (l.take j) + 3 + 3 * cntL (l.getD j default).kids = k + 3 * cntL (l.take (j + 1)) := by omega
    rw [hnext] at HR
    obtain ⟨q, hq⟩ : ∃ q, q = k + 3 * cntL (l.take j) := ⟨_, rfl⟩
    obtain ⟨nx, hnx⟩ : ∃ nx, nx = k + 3 * cntL (l.take (j + 1)) := ⟨_, rfl⟩
    rw [← hnx] at HR
    rw [← hq] at s0 s1 s2 HR ⊢
    have hq0 : 0 < q := by omega
    have hq1 : q + 3 ≤ 8388608 := by omega
    have HNX := Hd hnx
    have c0 := (hb00.cell (p := ⟨b, off + j * 4, none⟩) hbl).trans s0
    have c1 := (hb00.cell (p := ⟨b, off + j * 4 + 1, none⟩) hbl).trans s1
    have c2 := (hb00.cell (p := ⟨b, off + j * 4 + 2, none⟩) hbl).trans s2
    have c3 := (hb00.cell (p := ⟨b, off + j * 4 + 3, none⟩) hbl).trans s3
    have hk0' : (0 : Int) ≤ (j : Int) := by omega
    have hk1' : (j : Int) < (l.length : Int) := by omega
    have hz1 : b < wr.heap.size := Nat.lt_of_lt_of_le hbl hb00.size
    have HB := Hd hb
    have HB00 := Hd hb00
    have w1a : IntKind.i64.wrap ((q : Int) + 1) = ((q + 1 : Nat) : Int) := by simp only [IntKind.wrap, IntKind.bits, IntKind.signed]; simp; omega
    have w2a : IntKind.i64.wrap (((q + 1 : Nat) : Int) + 1) = ((q + 2 : Nat) : Int) := by simp only [IntKind.wrap, IntKind.bits, IntKind.signed]; simp; omega
    have w3a : IntKind.i64.wrap (((q + 2 : Nat) : Int) + 1) = ((q + 3 : Nat) : Int) := by simp only [IntKind.wrap, IntKind.bits, IntKind.signed]; simp; omega
    clear hb00 s0 s1 s2 s3 hb hkv hbl hmb hct hcl hce hnext hnx hq hk1
    generalize hq1n : q + 1 = qa at *
    generalize hq2n : q + 2 = qb at *
    generalize hq3n : q + 3 = qc at *
    have HQN := Hd (And.intro hq1n (And.intro hq2n hq3n))
    clear hq1n hq2n hq3n
    generalize (l.getD j default).kids.length = fn at *
    obtain ⟨m0, hm0⟩ : ∃ m0, m0 = mtx q := ⟨_, rfl⟩
    obtain ⟨m1, hm1⟩ : ∃ m1, m1 = mtx qa := ⟨_, rfl⟩
    have MT0 := Hd (fun wx => markText_int (q : Int) q rfl wx (by omega) (by have := (uh HQN).2.2; omega))
    have MT1 := Hd (fun wx => markText_int (qa : Int) qa rfl wx (by have := (uh HQN).1; omega) (by have := (uh HQN).1; have := (uh HQN).2.2; omega))
    rw [← hm0] at MT0 c0
    rw [← hm1] at MT1 c1
    clear hm0 hm1
    go_wp2_with fail
    go_region_held3 (fun wx => wx.cell? ⟨b, off + j * 4, none⟩ = some (.string m0)) (first | go_keep | exact (hb2.cell (p := ⟨b, off + j * 4, none⟩) hz1).trans c0) ((go_at_call 51; refine (uh MT0 _).mono ?_; rintro e w2 ⟨rfl, hb2⟩))
    all_goals
     have hb2' : Below wr.heap.size wr w2 := (below_drewN (Below.refl _ wr) 1).trans hb2
     have d1 := (hb2'.cell (p := ⟨b, off + j * 4 + 1, none⟩) hz1).trans c1
     have d2 := (hb2'.cell (p := ⟨b, off + j * 4 + 2, none⟩) hz1).trans c2
     have d3 := (hb2'.cell (p := ⟨b, off + j * 4 + 3, none⟩) hz1).trans c3
     have hz2 : b < w2.heap.size := Nat.lt_of_lt_of_le hz1 hb2'.size
     have HB2 := Hd ((uh HB).trans (hb2'.mono (uh HB).size))
     have HB02 := Hd ((uh HB00).trans (hb2'.mono (uh HB00).size))
     clear hb2 hb2' c0 c1 c2 c3 HB HB00
     go_wp2_with fail
     go_region_held3 (fun wx => wx.cell? ⟨b, off + j * 4 + 1, none⟩ = some (.string m1)) (first | go_keep | exact (hb3.cell (p := ⟨b, off + j * 4 + 1, none⟩) hz2).trans d1) ((go_at_call 51; refine (uh MT1 _).mono ?_; rintro e w3 ⟨rfl, hb3⟩))
     all_goals
      have hb3' : Below w2.heap.size w2 w3 := (below_drewN (Below.refl _ w2) 1).trans hb3
      have e2 := (hb3'.cell (p := ⟨b, off + j * 4 + 2, none⟩) hz2).trans d2
      have e3 := (hb3'.cell (p := ⟨b, off + j * 4 + 3, none⟩) hz2).trans d3
      have HB3 := Hd ((uh HB2).trans (hb3'.mono (uh HB2).size))
      have HB03 := Hd ((uh HB02).trans (hb3'.mono (uh HB02).size))
      clear hb3 hb3' d1 d2 d3 HB2 HB02
      go_wp2_with fail
      refine (uh HR w3 (uh HB03)).mono ?_
      rintro e w4 ⟨rfl, hb4⟩
      have HB4 := hbt HB3 hb4
      clear hb4 HB3 HB03 e2 e3
      have hnn : ¬ (nx : Int) < 0 := by omega
      go_wp2_with fail
      refine ⟨⟨j + 1, by omega, by rw [uh HNX], by go_num, uh HB4⟩, ?_⟩
      simp [intOf]; omega
   ·obtain rfl : j = l.length := by omega
    have HB := Hd hb
    clear hb
    rw [List.take_length]
    go_wp2_with fail
    go_ret
    exact ⟨rfl, uh HB⟩
end Go.Proofs.YtnhhnjmjodmacaaGreatDoor.Sha
namespace Go.Proofs.YtnhhnjmjodmacaaGreatDoor.Sha
set_option maxRecDepth 100000
set_option maxHeartbeats 8000000
open Go.ChangeShapes Go.WideShapes Go.ChangeAt Go.RowKit
set_option linter.unusedVariables false
def ledC3 (ls : List ByteArray) (ks : List Br) (ss : List Se) : Nat := 1 + ls.length + 3 * cntL ks + 5 * ss.length
def LedK (B M : Nat) (w : World) (lv kv sv : Value) (ls : List ByteArray) (ks : List Br) (ss : List Se) : Prop :=
 LedU B M w lv kv sv (marksS ls.length) (markL (1 + ls.length) ks) (zmks (1 + ls.length + 3 * cntL ks) ss.length)
theorem LedU.touch {T : Nat → Prop} {B M : Nat} {w w' : World} {lv kv sv : Value} {ls : List ByteArray} {ks : List Br} {ss : List Se} (h : LedU B M w lv kv sv ls ks ss) (ht : Touch T w w') (hn : ∀ k, B ≤ k → k < M → ¬ T k) : LedU B M w' lv kv sv ls ks ss := by
 obtain ⟨h1, h2, h4, h6, h7, S, h3, h5⟩ := h
 exact ⟨h1.kept ht (fun k hk => hn k (h1.lt k hk).1 (h6 k hk)), h2.kept ht (fun k hk => hn k (h2.lt k hk).1 (h7 k hk)), h4, h6, h7, S, h3.touch ht (fun k hk => hn k (h5 k hk).1 (h5 k hk).2.1), h5⟩
theorem heldBranchK_any (c : Nat) (hc0 : 0 < c) (k v : ByteArray) (at_ : Int) (a : Option Addr) (n cap : Nat) {S : Nat → Prop} {w : World} {l : List Br} (h : Brs S w (.slice a n cap) (markL c l)) (hc : c + 3 * cntL l ≤ 8388608) :
  Calls Tryz.prog 48 #[.agg #[.string k, .string v, .int .i64 at_, .slice a n cap], .int .i64 (c : Int)] w fun e w' => e = .returned (.int .i64 ((c + 3 * cntL l : Nat) : Int)) ∧ Below w.heap.size w w' := by
 have B1 := Hd (bal w (.cells #[.string k, .string v, .int .i64 at_, .slice a n cap] 35))
 have HE := Hd (heldBranchS_any h c l _ rfl (uh B1) hc0 hc)
 clear h
 generalize c + 3 * cntL l = m at *
 go_enter Tryz.func48, Tryz.ntmps48
 go_wp2_with fail
 refine (uh HE).mono ?_
 rintro e w2 ⟨rfl, hb2⟩
 have B2 := hbt B1 hb2
 clear hb2 HE
 have hn : ¬ (m : Int) < 0 := by omega
 go_wp2_with fail
 go_ret
 exact ⟨rfl, uh B2⟩
theorem heldLedger_any (ls : List ByteArray) (k v : ByteArray) (a : Int) (ks : List Br) (ss : List Se) (la : Option Addr) (lc : Nat) (ka : Option Addr) (kc : Nat) (sa : Option Addr) (sc : Nat) (B M : Nat) (w : World) (h : LedK B M w (.slice la ls.length lc) (.slice ka ks.length kc) (.slice sa ss.length sc) ls ks ss)
  (h1 : ls.length ≤ 1048576) (h2 : cntL ks ≤ 1048576) (h3 : ss.length ≤ 1048576) (h9 : 1 + ls.length + 3 * cntL ks ≤ 4194304) :
  Calls Tryz.prog 15 #[.agg #[.slice la ls.length lc, .string k, .string v, .int .i64 a, .slice ka ks.length kc, .slice sa ss.length sc], .int .i64 1] w fun e w' => e = .returned (.int .i64 ((ledC3 ls ks ss : Nat) : Int)) ∧ Below w.heap.size w w' := by
 obtain ⟨hL, hZ, hd, hLM, hZM, S, hK, hS⟩ := h
 have B0 := Hd (bal w (.cells #[.slice la ls.length lc, .string k, .string v, .int .i64 a, .slice ka ks.length kc, .slice sa ss.length sc] 38))
 have X0 := Hd (Blk.new w #[.slice la ls.length lc, .string k, .string v, .int .i64 a, .slice ka ks.length kc, .slice sa ss.length sc] 38 w.heap.size rfl)
 have HM1 := Hd (fun wx (hx : Below w.heap.size w wx) => heldStringS_any B _ ls.length wx (hL.below hx) h1)
 have HM2 := Hd (fun wx (hx : Below w.heap.size w wx) => heldBranchK_any (1 + ls.length) (by omega) k v a ka ks.length kc (hK.blw hx).brs (by omega))
 have HM3 := Hd (fun wx (hx : Below w.heap.size w wx) => heldSessionS_any (1 + ls.length + 3 * cntL ks) (by omega) (by omega) B _ ss.length wx (hZ.below hx) h3)
 have HCC : Hid (((1 + ls.length + 3 * cntL ks : Nat) : Int) + 5 * (ss.length : Int) = ((ledC3 ls ks ss : Nat) : Int)) := Hd (by unfold ledC3; omega)
 clear hL hZ hd hLM hZM hK hS
 generalize ledC3 ls ks ss = c3 at *
 go_enter Tryz.func15, Tryz.ntmps15
 go_wp2_with fail
 generalize w.alloc (.cells #[.slice la ls.length lc, .string k, .string v, .int .i64 a, .slice ka ks.length kc, .slice sa ss.length sc] 38) = w0 at *
 refine (uh HM1 w0 (uh B0)).mono ?_
 rintro e w1 ⟨rfl, hb1⟩
 have hX1 := (uh X0).below hb1
 have K1 := hbt B0 hb1
 have hc1 : (1 : Int) + (ls.length : Int) = ((1 + ls.length : Nat) : Int) := by omega
 rw [hc1]
 have y1 := hX1.cell 1 rfl
 have y2 := hX1.cell 2 rfl
 have y3 := hX1.cell 3 rfl
 have y4 := hX1.cell 4 rfl
 have C1 := Hd (uh HM2 w1 (uh K1))
 have X1 := Hd hX1
 clear hb1 hX1 hc1 HM1 HM2 B0 X0
 generalize 1 + ls.length = c1 at *
 have hn1 : ¬ (c1 : Int) < 0 := by omega
 go_wp2_with fail
 refine (uh C1).mono ?_
 rintro e w2 ⟨rfl, hb2⟩
 have hX2 := (uh X1).below hb2
 have K2 := hbt K1 hb2
 have y5 := hX2.cell 5 rfl
 have C2 := Hd (uh HM3 w2 (uh K2))
 clear hb2 hX2 C1 X1 HM3 y1 y2 y3 y4 K1 hn1
 generalize c1 + 3 * cntL ks = c2 at *
 have hn2 : ¬ (c2 : Int) < 0 := by omega
 go_wp2_with fail
 refine (uh C2).mono ?_
 rintro e w3 ⟨rfl, hb3⟩
 have K3 := hbt K2 hb3
 clear hb3 C2
 rw [uh HCC]
 have hn3 : ¬ (c3 : Int) < 0 := by omega
 go_wp2_with fail
 go_ret
 exact ⟨rfl, uh K3⟩
abbrev V6 (la : Option Addr) (lc : Nat) (ka : Option Addr) (kc : Nat) (sa : Option Addr) (sc : Nat) (ls : List ByteArray) (ks : List Br) (ss : List Se) (k v : ByteArray) (a : Int) : Value := .agg #[.slice la ls.length lc, .string k, .string v, .int .i64 a, .slice ka ks.length kc, .slice sa ss.length sc]
def LedT (lv sv : Value) (S : Nat → Prop) (q : Nat) : Prop := lv.ownBlock = some q ∨ sv.ownBlock = some q ∨ S q
def LedV (B M : Nat) (S : Nat → Prop) (w : World) (lv kv sv : Value) (ls : List ByteArray) (ks : List Br) (ss : List Se) : Prop :=
 OwnS B w lv ls ∧ OwnSe B w sv ss ∧ (∀ x, lv.ownBlock = some x → sv.ownBlock ≠ some x) ∧ (∀ x, lv.ownBlock = some x → x < M) ∧ (∀ x, sv.ownBlock = some x → x < M) ∧ BrO w S kv ks ∧ ∀ x, S x → B ≤ x ∧ x < M ∧ lv.ownBlock ≠ some x ∧ sv.ownBlock ≠ some x
theorem LedV.u {B M : Nat} {S : Nat → Prop} {w : World} {lv kv sv : Value} {ls : List ByteArray} {ks : List Br} {ss : List Se} (h : LedV B M S w lv kv sv ls ks ss) : LedU B M w lv kv sv ls ks ss := by
 obtain ⟨h1, h2, h3, h4, h5, h6, h7⟩ := h
 exact ⟨h1, h2, h3, h4, h5, S, h6, h7⟩
theorem LedV.led {B M : Nat} {S : Nat → Prop} {w : World} {lv kv sv : Value} {ls : List ByteArray} {ks : List Br} {ss : List Se} (h : LedV B M S w lv kv sv ls ks ss) : LedR w lv kv sv ls ks ss := h.u.led
theorem LedV.touch {T : Nat → Prop} {B M : Nat} {S : Nat → Prop} {w w' : World} {lv kv sv : Value} {ls : List ByteArray} {ks : List Br} {ss : List Se} (h : LedV B M S w lv kv sv ls ks ss) (ht : Touch T w w') (hn : ∀ q, LedT lv sv S q → ¬ T q) : LedV B M S w' lv kv sv ls ks ss := by
 obtain ⟨h1, h2, h3, h4, h5, h6, h7⟩ := h
 exact ⟨h1.kept ht (fun q hq => hn q (.inl hq)), h2.kept ht (fun q hq => hn q (.inr (.inl hq))), h3, h4, h5, h6.touch ht (fun q hq => hn q (.inr (.inr hq))), h7⟩
theorem LedV.below {B M : Nat} {S : Nat → Prop} {w w' : World} {lv kv sv : Value} {ls : List ByteArray} {ks : List Br} {ss : List Se} (h : LedV B M S w lv kv sv ls ks ss) (hb : Below w.heap.size w w') : LedV B M S w' lv kv sv ls ks ss := h.touch (T := fun _ => False) (Touch.ofBelow hb) (fun _ _ h => h)
theorem LedV.lt {B M : Nat} {S : Nat → Prop} {w : World} {lv kv sv : Value} {ls : List ByteArray} {ks : List Br} {ss : List Se} (h : LedV B M S w lv kv sv ls ks ss) : ∀ q, LedT lv sv S q → B ≤ q ∧ q < M := by
 obtain ⟨h1, h2, h3, h4, h5, h6, h7⟩ := h
 intro q hq
 rcases hq with e | e | e
 ·exact ⟨(h1.lt q e).1, h4 q e⟩
 ·exact ⟨(h2.lt q e).1, h5 q e⟩
 ·exact ⟨(h7 q e).1, (h7 q e).2.1⟩
def LedVK (B M : Nat) (S : Nat → Prop) (w : World) (lv kv sv : Value) (ls : List ByteArray) (ks : List Br) (ss : List Se) : Prop :=
 LedV B M S w lv kv sv (marksS ls.length) (markL (1 + ls.length) ks) (zmks (1 + ls.length + 3 * cntL ks) ss.length)
theorem LedVK.touch {T : Nat → Prop} {B M : Nat} {S : Nat → Prop} {w w' : World} {lv kv sv : Value} {ls : List ByteArray} {ks : List Br} {ss : List Se} (h : LedVK B M S w lv kv sv ls ks ss) (ht : Touch T w w') (hn : ∀ q, LedT lv sv S q → ¬ T q) : LedVK B M S w' lv kv sv ls ks ss := LedV.touch h ht hn
theorem LedVK.below {B M : Nat} {S : Nat → Prop} {w w' : World} {lv kv sv : Value} {ls : List ByteArray} {ks : List Br} {ss : List Se} (h : LedVK B M S w lv kv sv ls ks ss) (hb : Below w.heap.size w w') : LedVK B M S w' lv kv sv ls ks ss := LedV.below h hb
theorem LedVK.k {B M : Nat} {S : Nat → Prop} {w : World} {lv kv sv : Value} {ls : List ByteArray} {ks : List Br} {ss : List Se} (h : LedVK B M S w lv kv sv ls ks ss) : LedK B M w lv kv sv ls ks ss := LedV.u h
def AaU (B M : Nat) (S : Nat → Prop) (w : World) (lv kv sv rv : Value) (ls : List ByteArray) (ks : List Br) (ss : List Se) (rs : List Re) : Prop :=
 LedV B M S w lv kv sv ls ks ss ∧ OwnRe B w rv rs ∧ ∀ y, rv.ownBlock = some y → y < M ∧ ¬ LedT lv sv S y
theorem AaU.touch {T : Nat → Prop} {B M : Nat} {S : Nat → Prop} {w w' : World} {lv kv sv rv : Value} {ls : List ByteArray} {ks : List Br} {ss : List Se} {rs : List Re} (h : AaU B M S w lv kv sv rv ls ks ss rs) (ht : Touch T w w') (hn : ∀ q, B ≤ q → q < M → ¬ T q) : AaU B M S w' lv kv sv rv ls ks ss rs :=
 ⟨h.1.touch ht (fun q hq => hn q (h.1.lt q hq).1 (h.1.lt q hq).2), h.2.1.kept ht (fun q hq => hn q (h.2.1.lt q hq).1 (h.2.2 q hq).1), h.2.2⟩
theorem AaU.below {B M : Nat} {S : Nat → Prop} {w w' : World} {lv kv sv rv : Value} {ls : List ByteArray} {ks : List Br} {ss : List Se} {rs : List Re} (h : AaU B M S w lv kv sv rv ls ks ss rs) (hb : Below w.heap.size w w') : AaU B M S w' lv kv sv rv ls ks ss rs := ⟨h.1.below hb, h.2.1.below hb, h.2.2⟩
theorem AaR.u {B : Nat} {w : World} {lv kv sv rv : Value} {x : Lst} {rs : List Re} (h : AaR B w lv kv sv rv x rs) : ∃ S, AaU B w.heap.size S w lv kv sv rv x.ls (brOf x.o).kids x.ss rs := by
 obtain ⟨h1, h2, h3, h4, h5, S, h6, h7⟩ := h
 refine ⟨S, ⟨h1, h2, h3, fun x hx => (h1.lt x hx).2, fun x hx => (h2.lt x hx).2, h6, fun x hx => ⟨(h7 x hx).1, (h7 x hx).2.1, (h7 x hx).2.2.1, (h7 x hx).2.2.2.1⟩⟩, h4, fun y hy => ⟨(h4.lt y hy).2, fun e => ?_⟩⟩
 rcases e with e | e | e
 ·exact (h5 y hy).1 e
 ·exact (h5 y hy).2 e
 ·exact (h7 y e).2.2.2.2 hy
theorem markLedgerV_any (ls : List ByteArray) (k v : ByteArray) (a : Int) (ks : List Br) (ss : List Se) (la : Option Addr) (lc : Nat) (ka : Option Addr) (kc : Nat) (sa : Option Addr) (sc : Nat) (B M : Nat) (S : Nat → Prop) (w : World) (h : LedV B M S w (.slice la ls.length lc) (.slice ka ks.length kc) (.slice sa ss.length sc) ls ks ss) (hB : M ≤ w.heap.size)
  (h1 : ls.length ≤ 1048576) (h2 : cntL ks ≤ 1048576) (h3 : ss.length ≤ 1048576) (h9 : 1 + ls.length + 3 * cntL ks ≤ 4194304) :
  Calls Tryz.prog 14 #[.agg #[.slice la ls.length lc, .string k, .string v, .int .i64 a, .slice ka ks.length kc, .slice sa ss.length sc], .int .i64 1] w fun e w' => e = .returned (.int .i64 ((ledC3 ls ks ss : Nat) : Int)) ∧ LedVK B M S w' (.slice la ls.length lc) (.slice ka ks.length kc) (.slice sa ss.length sc) ls ks ss ∧ Touch (LedT (.slice la ls.length lc) (.slice sa ss.length sc) S) w w' := by
 obtain ⟨hL, hZ, hd, hLM, hZM, hK, hS⟩ := h
 have BA := bal w (.cells #[.slice la ls.length lc, .string k, .string v, .int .i64 a, .slice ka ks.length kc, .slice sa ss.length sc] 38)
 have X0 := Blk.new w #[.slice la ls.length lc, .string k, .string v, .int .i64 a, .slice ka ks.length kc, .slice sa ss.length sc] 38 w.heap.size rfl
 have T0 := (Touch.refl (LedT (.slice la ls.length lc) (.slice sa ss.length sc) S) w).alloc (.cells #[.slice la ls.length lc, .string k, .string v, .int .i64 a, .slice ka ks.length kc, .slice sa ss.length sc] 38)
 have hLlt : ∀ q, (Value.slice la ls.length lc).ownBlock = some q → B ≤ q ∧ q < M := fun q hq => ⟨(hL.lt q hq).1, hLM q hq⟩
 have hZlt : ∀ q, (Value.slice sa ss.length sc).ownBlock = some q → B ≤ q ∧ q < M := fun q hq => ⟨(hZ.lt q hq).1, hZM q hq⟩
 have HM1 := Hd (markStringS_any B _ ls _ (hL.below BA) h1)
 have H1 := Hd (show ∀ w1, Touch (fun q => (Value.slice la ls.length lc).ownBlock = some q) (w.alloc (.cells #[.slice la ls.length lc, .string k, .string v, .int .i64 a, .slice ka ks.length kc, .slice sa ss.length sc] 38)) w1 → Blk w1 w.heap.size [.slice la ls.length lc, .string k, .string v, .int .i64 a, .slice ka ks.length kc, .slice sa ss.length sc] ∧ BrO w1 S (.slice ka ks.length kc) ks ∧ OwnSe B w1 (.slice sa ss.length sc) ss ∧ Touch (LedT (.slice la ls.length lc) (.slice sa ss.length sc) S) w w1 from fun w1 hT =>
  ⟨X0.kept hT (fun e => by have := (hLlt _ e).2; omega), (hK.blw BA).touch hT (fun q hq e => (hS q hq).2.2.1 e), (hZ.below BA).kept hT (fun q hq e => hd q e hq), T0.trans hT (fun q _ e => .inl e)⟩)
 have HM2 := Hd (fun w1 (hK1 : BrO w1 S (.slice ka ks.length kc) ks) => markBranchK_any (1 + ls.length) (by omega) k v a ka ks.length kc hK1 (by omega))
 have H2 := Hd (show ∀ w1 w2, Blk w1 w.heap.size [.slice la ls.length lc, .string k, .string v, .int .i64 a, .slice ka ks.length kc, .slice sa ss.length sc] → OwnS B w1 (.slice la ls.length lc) (marksS ls.length) → OwnSe B w1 (.slice sa ss.length sc) ss → Touch (LedT (.slice la ls.length lc) (.slice sa ss.length sc) S) w w1 → Touch S w1 w2 → Blk w2 w.heap.size [.slice la ls.length lc, .string k, .string v, .int .i64 a, .slice ka ks.length kc, .slice sa ss.length sc] ∧ OwnS B w2 (.slice la ls.length lc) (marksS ls.length) ∧ OwnSe B w2 (.slice sa ss.length sc) ss ∧ Touch (LedT (.slice la ls.length lc) (.slice sa ss.length sc) S) w w2 from fun w1 w2 hX hL1 hZ1 hT1 hT =>
  ⟨hX.kept hT (fun e => by have := (hS _ e).2.1; omega), hL1.kept hT (fun q hq e => (hS q e).2.2.1 hq), hZ1.kept hT (fun q hq e => (hS q e).2.2.2 hq), hT1.trans hT (fun q _ e => .inr (.inr e))⟩)
 have HM3 := Hd (fun w2 (hZ2 : OwnSe B w2 (.slice sa ss.length sc) ss) => markSessionS_any (1 + ls.length + 3 * cntL ks) (by omega) (by omega) B _ ss w2 hZ2 h3)
 have H3 := Hd (show ∀ w2 w3, OwnS B w2 (.slice la ls.length lc) (marksS ls.length) → BrO w2 S (.slice ka ks.length kc) (markL (1 + ls.length) ks) → OwnSe B w3 (.slice sa ss.length sc) (zmks (1 + ls.length + 3 * cntL ks) ss.length) → Touch (LedT (.slice la ls.length lc) (.slice sa ss.length sc) S) w w2 → Touch (fun q => (Value.slice sa ss.length sc).ownBlock = some q) w2 w3 → LedVK B M S w3 (.slice la ls.length lc) (.slice ka ks.length kc) (.slice sa ss.length sc) ls ks ss ∧ Touch (LedT (.slice la ls.length lc) (.slice sa ss.length sc) S) w w3 from fun w2 w3 hL2 hK2 hZ3 hT2 hT =>
  ⟨⟨hL2.kept hT (fun q hq e => hd q hq e), hZ3, hd, hLM, hZM, hK2.touch hT (fun q hq e => (hS q hq).2.2.2 e), hS⟩, hT2.trans hT (fun q _ e => .inr (.inl e))⟩)
 have HCC : Hid (((1 + ls.length + 3 * cntL ks : Nat) : Int) + 5 * (ss.length : Int) = ((ledC3 ls ks ss : Nat) : Int)) := Hd (by unfold ledC3; omega)
 clear hL hZ hd hLM hZM hK hS BA X0 T0 hLlt hZlt
 generalize ledC3 ls ks ss = c3 at *
 go_enter Tryz.func14, Tryz.ntmps14
 go_wp2_with fail
 refine (uh HM1).mono ?_
 rintro e w1 ⟨rfl, hL1, hT1⟩
 obtain ⟨hX1, hK1, hZ1, hTT1⟩ := uh H1 w1 hT1
 have hc1 : (1 : Int) + (ls.length : Int) = ((1 + ls.length : Nat) : Int) := by omega
 rw [hc1]
 have y1 := hX1.cell 1 rfl
 have y2 := hX1.cell 2 rfl
 have y3 := hX1.cell 3 rfl
 have y4 := hX1.cell 4 rfl
 have C1 := Hd (uh HM2 w1 hK1)
 have G1 := Hd (And.intro hX1 (And.intro hL1 (And.intro hZ1 hTT1)))
 clear hT1 hX1 hL1 hK1 hZ1 hTT1 hc1 HM1 H1 HM2
 generalize 1 + ls.length = c1 at *
 go_wp2_with fail
 refine (uh C1).mono ?_
 rintro e w2 ⟨rfl, hK2, hT2⟩
 obtain ⟨hX2, hL2, hZ2, hTT2⟩ := uh H2 w1 w2 (uh G1).1 (uh G1).2.1 (uh G1).2.2.1 (uh G1).2.2.2 hT2
 have y5 := hX2.cell 5 rfl
 have C2 := Hd (uh HM3 w2 hZ2)
 have G2 := Hd (And.intro hL2 (And.intro hK2 hTT2))
 clear hT2 hX2 hL2 hK2 hZ2 hTT2 C1 G1 H2 HM3 y1 y2 y3 y4
 generalize c1 + 3 * cntL ks = c2 at *
 go_wp2_with fail
 refine (uh C2).mono ?_
 rintro e w3 ⟨rfl, hZ3, hT3⟩
 have G3 := Hd (uh H3 w2 w3 (uh G2).1 (uh G2).2.1 hZ3 (uh G2).2.2 hT3)
 clear hT3 C2 hZ3
 rw [uh HCC]
 go_wp2_with fail
 go_ret
 exact ⟨rfl, (uh G3).1, (uh G3).2⟩
end Go.Proofs.YtnhhnjmjodmacaaGreatDoor.Sha
