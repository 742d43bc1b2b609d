/- What the proof of the claim needs (joined by program): BrI LedH LwA LawC Csl. -/
import Derived.Test.YtnhhnjmjodmacaaGreatDoorQap22
import Derived.Test.YtnhhnjmjodmacaaGreatDoorQap49
import Derived.Test.YtnhhnjmjodmacaaGreatDoorQap01
import Derived.Test.YtnhhnjmjodmacaaGreatDoorQap33
import Derived.Test.YtnhhnjmjodmacaaGreatDoorQap27
import Derived.Test.YtnhhnjmjodmacaaGreatDoorQap03
import Derived.Test.YtnhhnjmjodmacaaGreatDoorQap00
import Derived.Deep.Fields
import Derived.Deep.Slices
import Derived.Deep.RegionHeld3
namespace Go.Proofs.YtnhhnjmjodmacaaGreatDoor.Sha
set_option maxRecDepth 100000
set_option maxHeartbeats 8000000
open Go.ChangeShapes Go.WideShapes Go.ChangeAt Go.RowKit
set_option linter.unusedVariables false
set_option linter.unusedSimpArgs false
theorem heldBranchS_any {S : Nat → Prop} {w0 : World} {v : Value} {L : List Br} (h : Brs S w0 v L) : ∀ (k : Nat) (l : List Br) (w : World), L = markL k l → Below w0.heap.size w0 w → 0 < k → k + 3 * cntL l ≤ 8388608 →
  Calls Tryz.prog 82 #[v, .int .i64 k] w fun e w' => e = .returned (.int .i64 ((k + 3 * cntL l : Nat) : Int)) ∧ Below w.heap.size w w' := by
 induction h with
 | nil a cap hc =>
  intro k l w hl hb0 hk0 hk1
  obtain rfl : l = [] := List.eq_nil_of_length_eq_zero (by rw [← markL_len k l, ← hl]; rfl)
  have hc0 : k + 3 * cntL [] = k := by unfold cntL; omega
  rw [hc0]
  clear hb0 hc hl hk1 hc0
  go_enter Tryz.func82, Tryz.ntmps82
  go_wp2_with fail
  go_loopw [1, 5] (fun kk i wr => kk = .int .i64 (k : Int) ∧ i = .int .i64 0 ∧ wr = w) (fun _ _ _ => 0)
  case atStart => exact ⟨rfl, rfl, rfl⟩
  case round =>
   obtain ⟨rfl, rfl, hwr⟩ := hrel
   subst wr
   go_wp2_with fail
   go_ret
   exact ⟨rfl, Below.refl _ _⟩
 | row b off cap L kv p0 p1 p2 p3 p4 p5 p6 p7 ih =>
  intro k l w hl hb0 hk0 hk1
  have HC := Hd (BrAt.mk p3 p4 p5 p6 p7 : BrAt S w0 b off L kv)
  have HI := Hd ih
  have HB0 := Hd hb0
  have hlen : L.length = l.length := by rw [hl, markL_len]
  have HMG := Hd (fun i (hi : i < l.length) => show L.getD i default = markB (k + 3 * cntL (l.take i)) (l.getD i default) by rw [hl]; exact markL_get l k i hi)
  have hlm : l.length ≤ 9223372036854775807 := by unfold maxLen at p2; omega
  rw [hlen]
  have HCT := Hd (fun i => cnt_take_le l i)
  clear p3 p4 p5 p6 p7 ih hb0 p1 p2 hl
  go_enter Tryz.func82, Tryz.ntmps82
  go_wp2_with fail
  go_loopw [1, 5] (fun kk i wr => ∃ j : Nat, j ≤ l.length ∧ kk = .int .i64 ((k + 3 * cntL (l.take j) : Nat) : Int) ∧ i = .int .i64 j ∧ Below w.heap.size w wr) (fun _ i _ => l.length - (intOf i).toNat)
  case atStart => exact ⟨0, Nat.zero_le _, by simp [cntL], rfl, Below.refl _ _⟩
  case round =>
   obtain ⟨j, hj, rfl, rfl, hb⟩ := hrel
   by_cases hlt : j < l.length
   ·have hltL : j < L.length := by omega
    obtain ⟨s0, s1, s2, s3⟩ := (uh HC).cells j hltL
    have hbl := (uh HC).lt
    have hb00 := (uh HB0).trans (hb.mono (uh HB0).size)
    have hmb := markB_key (k + 3 * cntL (l.take j)) (l.getD j default)
    have hct := cnt_take l j hlt
    have hcl := uh HCT (j + 1)
    have hce := Br.cnt_eq (l.getD j default)
    obtain ⟨ka, kc, hkv, _, _⟩ := ((uh HC).kids j hltL).shape
    have HR := Hd (fun wx (hx : Below w0.heap.size w0 wx) => uh HI j hltL (k + 3 * cntL (l.take j) + 3) (l.getD j default).kids wx (by rw [uh HMG j hlt]; exact hmb.2.2.2) hx (by omega) (by omega))
    rw [hkv] at HR s3
    rw [uh HMG j hlt, hmb.2.2.2, markL_len] at s3 HR
    rw [uh HMG j hlt, hmb.1] at s0
    rw [uh HMG j hlt, hmb.2.1] at s1
    rw [uh HMG j hlt, hmb.2.2.1] at s2
    have hnext : k + 3 * cntL (l.take j) + 3 + 3 * cntL (l.getD j default).kids = k + 3 * cntL (l.take (j + 1)) := by omega
    rw [hnext] at HR
    obtain ⟨q, hq⟩ : ∃ q, q = k + 3 * cntL (l.take j) := ⟨_, rfl⟩
    obtain ⟨nx, hnx⟩ : ∃ nx, nx = k + 3 * cntL (l.take (j + 1)) := ⟨_, rfl⟩
    rw [← hnx] at HR
    rw [← hq] at s0 s1 s2 HR ⊢
    have hq0 : 0 < q := by omega
    have hq1 : q + 3 ≤ 8388608 := by omega
    have HNX := Hd hnx
    have c0 := (hb00.cell (p := ⟨b, off + j * 4, none⟩) hbl).trans s0
    have c1 := (hb00.cell (p := ⟨b, off + j * 4 + 1, none⟩) hbl).trans s1
    have c2 := (hb00.cell (p := ⟨b, off + j * 4 + 2, none⟩) hbl).trans s2
    have c3 := (hb00.cell (p := ⟨b, off + j * 4 + 3, none⟩) hbl).trans s3
    have hk0' : (0 : Int) ≤ (j : Int) := by omega
    have hk1' : (j : Int) < (l.length : Int) := by omega
    have hz1 : b < wr.heap.size := Nat.lt_of_lt_of_le hbl hb00.size
    have HB := Hd hb
    have HB00 := Hd hb00
    have w1a : IntKind.i64.wrap ((q : Int) + 1) = ((q + 1 : Nat) : Int) := by simp only [IntKind.wrap, IntKind.bits, IntKind.signed]; simp; omega
    have w2a : IntKind.i64.wrap (((q + 1 : Nat) : Int) + 1) = ((q + 2 : Nat) : Int) := by simp only [IntKind.wrap, IntKind.bits, IntKind.signed]; simp; omega
    have w3a : IntKind.i64.wrap (((q + 2 : Nat) : Int) + 1) = ((q + 3 : Nat) : Int) := by simp only [IntKind.wrap, IntKind.bits, IntKind.signed]; simp; omega
    clear hb00 s0 s1 s2 s3 hb hkv hbl hmb hct hcl hce hnext hnx hq hk1
    generalize hq1n : q + 1 = qa at *
    generalize hq2n : q + 2 = qb at *
    generalize hq3n : q + 3 = qc at *
    have HQN := Hd (And.intro hq1n (And.intro hq2n hq3n))
    clear hq1n hq2n hq3n
    generalize (l.getD j default).kids.length = fn at *
    obtain ⟨m0, hm0⟩ : ∃ m0, m0 = mtx q := ⟨_, rfl⟩
    obtain ⟨m1, hm1⟩ : ∃ m1, m1 = mtx qa := ⟨_, rfl⟩
    have MT0 := Hd (fun wx => markText_int (q : Int) q rfl wx (by omega) (by have := (uh HQN).2.2; omega))
    have MT1 := Hd (fun wx => markText_int (qa : Int) qa rfl wx (by have := (uh HQN).1; omega) (by have := (uh HQN).1; have := (uh HQN).2.2; omega))
    rw [← hm0] at MT0 c0
    rw [← hm1] at MT1 c1
    clear hm0 hm1
    go_wp2_with fail
    go_region_held3 (fun wx => wx.cell? ⟨b, off + j * 4, none⟩ = some (.string m0)) (first | go_keep | exact (hb2.cell (p := ⟨b, off + j * 4, none⟩) hz1).trans c0) ((go_at_call 51; refine (uh MT0 _).mono ?_; rintro e w2 ⟨rfl, hb2⟩))
    all_goals
     have hb2' : Below wr.heap.size wr w2 := (below_drewN (Below.refl _ wr) 1).trans hb2
     have d1 := (hb2'.cell (p := ⟨b, off + j * 4 + 1, none⟩) hz1).trans c1
     have d2 := (hb2'.cell (p := ⟨b, off + j * 4 + 2, none⟩) hz1).trans c2
     have d3 := (hb2'.cell (p := ⟨b, off + j * 4 + 3, none⟩) hz1).trans c3
     have hz2 : b < w2.heap.size := Nat.lt_of_lt_of_le hz1 hb2'.size
     have HB2 := Hd ((uh HB).trans (hb2'.mono (uh HB).size))
     have HB02 := Hd ((uh HB00).trans (hb2'.mono (uh HB00).size))
     clear hb2 hb2' c0 c1 c2 c3 HB HB00
     go_wp2_with fail
     go_region_held3 (fun wx => wx.cell? ⟨b, off + j * 4 + 1, none⟩ = some (.string m1)) (first | go_keep | exact (hb3.cell (p := ⟨b, off + j * 4 + 1, none⟩) hz2).trans d1) ((go_at_call 51; refine (uh MT1 _).mono ?_; rintro e w3 ⟨rfl, hb3⟩))
     all_goals
      have hb3' : Below w2.heap.size w2 w3 := (below_drewN (Below.refl _ w2) 1).trans hb3
      have e2 := (hb3'.cell (p := ⟨b, off + j * 4 + 2, none⟩) hz2).trans d2
      have e3 := (hb3'.cell (p := ⟨b, off + j * 4 + 3, none⟩) hz2).trans d3
      have HB3 := Hd ((uh HB2).trans (hb3'.mono (uh HB2).size))
      have HB03 := Hd ((uh HB02).trans (hb3'.mono (uh HB02).size))
      clear hb3 hb3' d1 d2 d3 HB2 HB02
      go_wp2_with fail
      refine (uh HR w3 (uh HB03)).mono ?_
      rintro e w4 ⟨rfl, hb4⟩
      have HB4 := hbt HB3 hb4
      clear hb4 HB3 HB03 e2 e3
      have hnn : ¬ (nx : Int) < 0 := by omega
      go_wp2_with fail
      refine ⟨⟨j + 1, by omega, by rw [uh HNX], by go_num, uh HB4⟩, ?_⟩
      simp [intOf]; omega
   ·obtain rfl : j = l.length := by omega
    have HB := Hd hb
    clear hb
    rw [List.take_length]
    go_wp2_with fail
    go_ret
    exact ⟨rfl, uh HB⟩
end Go.Proofs.YtnhhnjmjodmacaaGreatDoor.Sha
namespace Go.Proofs.YtnhhnjmjodmacaaGreatDoor.Sha
set_option maxRecDepth 100000
set_option maxHeartbeats 8000000
open Go.ChangeShapes Go.WideShapes Go.ChangeAt Go.RowKit
set_option linter.unusedVariables false
def ledC3 (ls : List ByteArray) (ks : List Br) (ss : List Se) : Nat := 1 + ls.length + 3 * cntL ks + 5 * ss.length
def LedK (B M : Nat) (w : World) (lv kv sv : Value) (ls : List ByteArray) (ks : List Br) (ss : List Se) : Prop :=
 LedU B M w lv kv sv (marksS ls.length) (markL (1 + ls.length) ks) (zmks (1 + ls.length + 3 * cntL ks) ss.length)
theorem LedU.touch {T : Nat → Prop} {B M : Nat} {w w' : World} {lv kv sv : Value} {ls : List ByteArray} {ks : List Br} {ss : List Se} (h : LedU B M w lv kv sv ls ks ss) (ht : Touch T w w') (hn : ∀ k, B ≤ k → k < M → ¬ T k) : LedU B M w' lv kv sv ls ks ss := by
 obtain ⟨h1, h2, h4, h6, h7, S, h3, h5⟩ := h
 exact ⟨h1.kept ht (fun k hk => hn k (h1.lt k hk).1 (h6 k hk)), h2.kept ht (fun k hk => hn k (h2.lt k hk).1 (h7 k hk)), h4, h6, h7, S, h3.touch ht (fun k hk => hn k (h5 k hk).1 (h5 k hk).2.1), h5⟩
theorem markLedgerK_any (ls : List ByteArray) (k v : ByteArray) (a : Int) (ks : List Br) (ss : List Se) (la : Option Addr) (lc : Nat) (ka : Option Addr) (kc : Nat) (sa : Option Addr) (sc : Nat) (B M : Nat) (w : World) (h : LedU B M w (.slice la ls.length lc) (.slice ka ks.length kc) (.slice sa ss.length sc) ls ks ss) (hB : M ≤ w.heap.size)
  (h1 : ls.length ≤ 1048576) (h2 : cntL ks ≤ 1048576) (h3 : ss.length ≤ 1048576) (h9 : 1 + ls.length + 3 * cntL ks ≤ 4194304) :
  Calls Tryz.prog 14 #[.agg #[.slice la ls.length lc, .string k, .string v, .int .i64 a, .slice ka ks.length kc, .slice sa ss.length sc], .int .i64 1] w fun e w' => e = .returned (.int .i64 ((ledC3 ls ks ss : Nat) : Int)) ∧ LedK B M w' (.slice la ls.length lc) (.slice ka ks.length kc) (.slice sa ss.length sc) ls ks ss ∧ Touch (fun q => B ≤ q ∧ q < M) w w' := by
 obtain ⟨hL, hZ, hd, hLM, hZM, S, hK, hS⟩ := h
 have BA := bal w (.cells #[.slice la ls.length lc, .string k, .string v, .int .i64 a, .slice ka ks.length kc, .slice sa ss.length sc] 38)
 have X0 := Blk.new w #[.slice la ls.length lc, .string k, .string v, .int .i64 a, .slice ka ks.length kc, .slice sa ss.length sc] 38 w.heap.size rfl
 have T0 := (Touch.refl (fun q => B ≤ q ∧ q < M) w).alloc (.cells #[.slice la ls.length lc, .string k, .string v, .int .i64 a, .slice ka ks.length kc, .slice sa ss.length sc] 38)
 have hLlt : ∀ q, (Value.slice la ls.length lc).ownBlock = some q → B ≤ q ∧ q < M := fun q hq => ⟨(hL.lt q hq).1, hLM q hq⟩
 have hZlt : ∀ q, (Value.slice sa ss.length sc).ownBlock = some q → B ≤ q ∧ q < M := fun q hq => ⟨(hZ.lt q hq).1, hZM q hq⟩
 have HM1 := Hd (markStringS_any B _ ls _ (hL.below BA) h1)
 have H1 := Hd (show ∀ w1, Touch (fun q => (Value.slice la ls.length lc).ownBlock = some q) (w.alloc (.cells #[.slice la ls.length lc, .string k, .string v, .int .i64 a, .slice ka ks.length kc, .slice sa ss.length sc] 38)) w1 → Blk w1 w.heap.size [.slice la ls.length lc, .string k, .string v, .int .i64 a, .slice ka ks.length kc, .slice sa ss.length sc] ∧ BrO w1 S (.slice ka ks.length kc) ks ∧ OwnSe B w1 (.slice sa ss.length sc) ss ∧ Touch (fun q => B ≤ q ∧ q < M) w w1 from fun w1 hT =>
  ⟨X0.kept hT (fun e => by have := (hLlt _ e).2; omega), (hK.blw BA).touch hT (fun q hq e => (hS q hq).2.2.1 e), (hZ.below BA).kept hT (fun q hq e => hd q e hq), T0.trans hT (fun q _ e => hLlt q e)⟩)
 have HM2 := Hd (fun w1 (hK1 : BrO w1 S (.slice ka ks.length kc) ks) => markBranchK_any (1 + ls.length) (by omega) k v a ka ks.length kc hK1 (by omega))
 have H2 := Hd (show ∀ w1 w2, Blk w1 w.heap.size [.slice la ls.length lc, .string k, .string v, .int .i64 a, .slice ka ks.length kc, .slice sa ss.length sc] → OwnS B w1 (.slice la ls.length lc) (marksS ls.length) → OwnSe B w1 (.slice sa ss.length sc) ss → Touch (fun q => B ≤ q ∧ q < M) w w1 → Touch S w1 w2 → Blk w2 w.heap.size [.slice la ls.length lc, .string k, .string v, .int .i64 a, .slice ka ks.length kc, .slice sa ss.length sc] ∧ OwnS B w2 (.slice la ls.length lc) (marksS ls.length) ∧ OwnSe B w2 (.slice sa ss.length sc) ss ∧ Touch (fun q => B ≤ q ∧ q < M) w w2 from fun w1 w2 hX hL1 hZ1 hT1 hT =>
  ⟨hX.kept hT (fun e => by have := (hS _ e).2.1; omega), hL1.kept hT (fun q hq e => (hS q e).2.2.1 hq), hZ1.kept hT (fun q hq e => (hS q e).2.2.2 hq), hT1.trans hT (fun q _ e => ⟨(hS q e).1, (hS q e).2.1⟩)⟩)
 have HM3 := Hd (fun w2 (hZ2 : OwnSe B w2 (.slice sa ss.length sc) ss) => markSessionS_any (1 + ls.length + 3 * cntL ks) (by omega) (by omega) B _ ss w2 hZ2 h3)
 have H3 := Hd (show ∀ w2 w3, OwnS B w2 (.slice la ls.length lc) (marksS ls.length) → BrO w2 S (.slice ka ks.length kc) (markL (1 + ls.length) ks) → OwnSe B w3 (.slice sa ss.length sc) (zmks (1 + ls.length + 3 * cntL ks) ss.length) → Touch (fun q => B ≤ q ∧ q < M) w w2 → Touch (fun q => (Value.slice sa ss.length sc).ownBlock = some q) w2 w3 → LedK B M w3 (.slice la ls.length lc) (.slice ka ks.length kc) (.slice sa ss.length sc) ls ks ss ∧ Touch (fun q => B ≤ q ∧ q < M) w w3 from fun w2 w3 hL2 hK2 hZ3 hT2 hT =>
  ⟨⟨hL2.kept hT (fun q hq e => hd q hq e), hZ3, hd, hLM, hZM, S, hK2.touch hT (fun q hq e => (hS q hq).2.2.2 e), hS⟩, hT2.trans hT (fun q _ e => hZlt q e)⟩)
 have HCC : Hid (((1 + ls.length + 3 * cntL ks : Nat) : Int) + 5 * (ss.length : Int) = ((ledC3 ls ks ss : Nat) : Int)) := Hd (by unfold ledC3; omega)
 clear hL hZ hd hLM hZM hK hS BA X0 T0 hLlt hZlt
 generalize ledC3 ls ks ss = c3 at *
 go_enter Tryz.func14, Tryz.ntmps14
 go_wp2_with fail
 refine (uh HM1).mono ?_
 rintro e w1 ⟨rfl, hL1, hT1⟩
 obtain ⟨hX1, hK1, hZ1, hTT1⟩ := uh H1 w1 hT1
 have hc1 : (1 : Int) + (ls.length : Int) = ((1 + ls.length : Nat) : Int) := by omega
 rw [hc1]
 have y1 := hX1.cell 1 rfl
 have y2 := hX1.cell 2 rfl
 have y3 := hX1.cell 3 rfl
 have y4 := hX1.cell 4 rfl
 have C1 := Hd (uh HM2 w1 hK1)
 have G1 := Hd (And.intro hX1 (And.intro hL1 (And.intro hZ1 hTT1)))
 clear hT1 hX1 hL1 hK1 hZ1 hTT1 hc1 HM1 H1 HM2
 generalize 1 + ls.length = c1 at *
 go_wp2_with fail
 refine (uh C1).mono ?_
 rintro e w2 ⟨rfl, hK2, hT2⟩
 obtain ⟨hX2, hL2, hZ2, hTT2⟩ := uh H2 w1 w2 (uh G1).1 (uh G1).2.1 (uh G1).2.2.1 (uh G1).2.2.2 hT2
 have y5 := hX2.cell 5 rfl
 have C2 := Hd (uh HM3 w2 hZ2)
 have G2 := Hd (And.intro hL2 (And.intro hK2 hTT2))
 clear hT2 hX2 hL2 hK2 hZ2 hTT2 C1 G1 H2 HM3 y1 y2 y3 y4
 generalize c1 + 3 * cntL ks = c2 at *
 go_wp2_with fail
 refine (uh C2).mono ?_
 rintro e w3 ⟨rfl, hZ3, hT3⟩
 have G3 := Hd (uh H3 w2 w3 (uh G2).1 (uh G2).2.1 hZ3 (uh G2).2.2 hT3)
 clear hT3 C2 hZ3
 rw [uh HCC]
 go_wp2_with fail
 go_ret
 exact ⟨rfl, (uh G3).1, (uh G3).2⟩
theorem heldBranchK_any (c : Nat) (hc0 : 0 < c) (k v : ByteArray) (at_ : Int) (a : Option Addr) (n cap : Nat) {S : Nat → Prop} {w : World} {l : List Br} (h : Brs S w (.slice a n cap) (markL c l)) (hc : c + 3 * cntL l ≤ 8388608) :
  Calls Tryz.prog 48 #[.agg #[.string k, .string v, .int .i64 at_, .slice a n cap], .int .i64 (c : Int)] w fun e w' => e = .returned (.int .i64 ((c + 3 * cntL l : Nat) : Int)) ∧ Below w.heap.size w w' := by
 have B1 := Hd (bal w (.cells #[.string k, .string v, .int .i64 at_, .slice a n cap] 35))
 have HE := Hd (heldBranchS_any h c l _ rfl (uh B1) hc0 hc)
 clear h
 generalize c + 3 * cntL l = m at *
 go_enter Tryz.func48, Tryz.ntmps48
 go_wp2_with fail
 refine (uh HE).mono ?_
 rintro e w2 ⟨rfl, hb2⟩
 have B2 := hbt B1 hb2
 clear hb2 HE
 have hn : ¬ (m : Int) < 0 := by omega
 go_wp2_with fail
 go_ret
 exact ⟨rfl, uh B2⟩
theorem heldLedger_any (ls : List ByteArray) (k v : ByteArray) (a : Int) (ks : List Br) (ss : List Se) (la : Option Addr) (lc : Nat) (ka : Option Addr) (kc : Nat) (sa : Option Addr) (sc : Nat) (B M : Nat) (w : World) (h : LedK B M w (.slice la ls.length lc) (.slice ka ks.length kc) (.slice sa ss.length sc) ls ks ss)
  (h1 : ls.length ≤ 1048576) (h2 : cntL ks ≤ 1048576) (h3 : ss.length ≤ 1048576) (h9 : 1 + ls.length + 3 * cntL ks ≤ 4194304) :
  Calls Tryz.prog 15 #[.agg #[.slice la ls.length lc, .string k, .string v, .int .i64 a, .slice ka ks.length kc, .slice sa ss.length sc], .int .i64 1] w fun e w' => e = .returned (.int .i64 ((ledC3 ls ks ss : Nat) : Int)) ∧ Below w.heap.size w w' := by
 obtain ⟨hL, hZ, hd, hLM, hZM, S, hK, hS⟩ := h
 have B0 := Hd (bal w (.cells #[.slice la ls.length lc, .string k, .string v, .int .i64 a, .slice ka ks.length kc, .slice sa ss.length sc] 38))
 have X0 := Hd (Blk.new w #[.slice la ls.length lc, .string k, .string v, .int .i64 a, .slice ka ks.length kc, .slice sa ss.length sc] 38 w.heap.size rfl)
 have HM1 := Hd (fun wx (hx : Below w.heap.size w wx) => heldStringS_any B _ ls.length wx (hL.below hx) h1)
 have HM2 := Hd (fun wx (hx : Below w.heap.size w wx) => heldBranchK_any (1 + ls.length) (by omega) k v a ka ks.length kc (hK.blw hx).brs (by omega))
 have HM3 := Hd (fun wx (hx : Below w.heap.size w wx) => heldSessionS_any (1 + ls.length + 3 * cntL ks) (by omega) (by omega) B _ ss.length wx (hZ.below hx) h3)
 have HCC : Hid (((1 + ls.length + 3 * cntL ks : Nat) : Int) + 5 * (ss.length : Int) = ((ledC3 ls ks ss : Nat) : Int)) := Hd (by unfold ledC3; omega)
 clear hL hZ hd hLM hZM hK hS
 generalize ledC3 ls ks ss = c3 at *
 go_enter Tryz.func15, Tryz.ntmps15
 go_wp2_with fail
 generalize w.alloc (.cells #[.slice la ls.length lc, .string k, .string v, .int .i64 a, .slice ka ks.length kc, .slice sa ss.length sc] 38) = w0 at *
 refine (uh HM1 w0 (uh B0)).mono ?_
 rintro e w1 ⟨rfl, hb1⟩
 have hX1 := (uh X0).below hb1
 have K1 := hbt B0 hb1
 have hc1 : (1 : Int) + (ls.length : Int) = ((1 + ls.length : Nat) : Int) := by omega
 rw [hc1]
 have y1 := hX1.cell 1 rfl
 have y2 := hX1.cell 2 rfl
 have y3 := hX1.cell 3 rfl
 have y4 := hX1.cell 4 rfl
 have C1 := Hd (uh HM2 w1 (uh K1))
 have X1 := Hd hX1
 clear hb1 hX1 hc1 HM1 HM2 B0 X0
 generalize 1 + ls.length = c1 at *
 have hn1 : ¬ (c1 : Int) < 0 := by omega
 go_wp2_with fail
 refine (uh C1).mono ?_
 rintro e w2 ⟨rfl, hb2⟩
 have hX2 := (uh X1).below hb2
 have K2 := hbt K1 hb2
 have y5 := hX2.cell 5 rfl
 have C2 := Hd (uh HM3 w2 (uh K2))
 clear hb2 hX2 C1 X1 HM3 y1 y2 y3 y4 K1 hn1
 generalize c1 + 3 * cntL ks = c2 at *
 have hn2 : ¬ (c2 : Int) < 0 := by omega
 go_wp2_with fail
 refine (uh C2).mono ?_
 rintro e w3 ⟨rfl, hb3⟩
 have K3 := hbt K2 hb3
 clear hb3 C2
 rw [uh HCC]
 have hn3 : ¬ (c3 : Int) < 0 := by omega
 go_wp2_with fail
 go_ret
 exact ⟨rfl, uh K3⟩
def Low (n : Nat) (w : World) : Prop := n ≤ w.heap.size
theorem Low.below {n : Nat} {w w' : World} (h : Low n w) (hb : Below w.heap.size w w') : Low n w' := Nat.le_trans h hb.size
def Out3 (W0 : World) (nb rb : Nat) (N6 R3 : List Value) (lv kv sv : Value) (ls : List ByteArray) (ks : List Br) (ss : List Se) (BW MW : Nat) (wx : World) : Prop :=
 Below W0.heap.size W0 wx ∧ W0.heap.size ≤ BW ∧ MW ≤ wx.heap.size ∧ (W0.heap.size ≤ nb ∧ (nb < BW ∨ MW ≤ nb)) ∧ (W0.heap.size ≤ rb ∧ (rb < BW ∨ MW ≤ rb)) ∧ Blk wx nb N6 ∧ Blk wx rb R3 ∧ LedU BW MW wx lv kv sv ls ks ss
theorem out3_of {W0 w : World} {nb rb : Nat} {a0 a1 a2 a3 a4 a5 b0 b1 b2 : Value} {lv kv sv : Value} {ls : List ByteArray} {ks : List Br} {ss : List Se} {BW MW : Nat} (hne : nb ≠ rb) (hB : Below W0.heap.size W0 w) (h1 : W0.heap.size ≤ BW) (h2 : MW ≤ w.heap.size) (h3 : W0.heap.size ≤ nb ∧ (nb < BW ∨ MW ≤ nb)) (h4 : W0.heap.size ≤ rb ∧ (rb < BW ∨ MW ≤ rb)) (hN : Blk w nb [a0, a1, a2, a3, a4, a5]) (hR : Blk w rb [b0, b1, b2]) (hL : LedU BW MW w lv kv sv ls ks ss) (x0 x1 x2 x3 x4 x5 y0 y1 y2 : Value) :
  Below W0.heap.size W0 (set6 w nb x0 x1 x2 x3 x4 x5) ∧ Out3 W0 nb rb [x0, x1, x2, x3, x4, x5] [y0, y1, y2] lv kv sv ls ks ss BW MW (set3 (set6 w nb x0 x1 x2 x3 x4 x5) rb y0 y1 y2) := by
 have t6 := tc6 (Touch.refl (fun q => q = nb ∨ q = rb) w) nb (.inl rfl) x0 x1 x2 x3 x4 x5
 have t3 := tc3 t6 rb (.inr rfl) y0 y1 y2
 have b6 := hB.trans (t6.below hB.size (fun x hx e => by rcases e with e | e <;> omega))
 have b3 := hB.trans (t3.below hB.size (fun x hx e => by rcases e with e | e <;> omega))
 have hR6 := hR.kept (tc6 (Touch.refl (fun q => q = nb) w) nb rfl x0 x1 x2 x3 x4 x5) (fun e => hne e.symm)
 have hN6 := st6 hN x0 x1 x2 x3 x4 x5
 refine ⟨b6, b3, h1, Nat.le_trans h2 t3.size, h3, h4, ?_, st3 hR6 y0 y1 y2, hL.touch t3 (fun k hk1 hk2 e => by rcases e with e | e <;> omega)⟩
 exact hN6.kept (tc3 (Touch.refl (fun q => q = rb) _) rb rfl y0 y1 y2) (fun e => hne e)
theorem LedO.kn {B : Nat} {w : World} {lv sv : Value} {ka : Option Addr} {kn kc : Nat} {ls : List ByteArray} {ks : List Br} {ss : List Se} (h : LedO B w lv (.slice ka kn kc) sv ls ks ss) : kn = ks.length := by
 obtain ⟨_, _, _, S, hb, _⟩ := h
 obtain ⟨a, cap, e, _⟩ := hb.shape
 cases e
 rfl
def ToO (B : Nat) (w : World) (u1 u2 u3 : Nat) (ls : List ByteArray) (ks : List Br) (ss : List Se) : Prop := LedO B w (.slice (some ⟨u1, 0, none⟩) ls.length ls.length) (.slice (some ⟨u2, 0, none⟩) ks.length ks.length) (.slice (some ⟨u3, 0, none⟩) ss.length ss.length) ls ks ss
theorem ToO.below {B : Nat} {w w' : World} {u1 u2 u3 : Nat} {ls : List ByteArray} {ks : List Br} {ss : List Se} (h : ToO B w u1 u2 u3 ls ks ss) (hb : Below w.heap.size w w') : ToO B w' u1 u2 u3 ls ks ss := LedO.below h hb
def TlU (BW MW : Nat) (w : World) (la : Option Addr) (lc : Nat) (ka : Option Addr) (kc : Nat) (sa : Option Addr) (sc : Nat) (ls : List ByteArray) (ks : List Br) (ss : List Se) : Prop := LedU BW MW w (.slice la ls.length lc) (.slice ka ks.length kc) (.slice sa ss.length sc) ls ks ss
theorem TlU.below {BW MW : Nat} {w w' : World} {la : Option Addr} {lc : Nat} {ka : Option Addr} {kc : Nat} {sa : Option Addr} {sc : Nat} {ls : List ByteArray} {ks : List Br} {ss : List Se} (h : TlU BW MW w la lc ka kc sa sc ls ks ss) (hb : Below w.heap.size w w') : TlU BW MW w' la lc ka kc sa sc ls ks ss := LedU.below h hb
abbrev V6 (la : Option Addr) (lc : Nat) (ka : Option Addr) (kc : Nat) (sa : Option Addr) (sc : Nat) (ls : List ByteArray) (ks : List Br) (ss : List Se) (k v : ByteArray) (a : Int) : Value := .agg #[.slice la ls.length lc, .string k, .string v, .int .i64 a, .slice ka ks.length kc, .slice sa ss.length sc]
abbrev V3 (r1 r2 : Int) (r3 : ByteArray) : Value := .agg #[.int .i64 r1, .int .i64 r2, .string r3]
end Go.Proofs.YtnhhnjmjodmacaaGreatDoor.Sha
namespace Go.Proofs.YtnhhnjmjodmacaaGreatDoor
set_option maxRecDepth 100000
set_option maxHeartbeats 8000000
open Go.ChangeShapes Go.WideShapes Go.ChangeAt Go.RowKit Go.Deep
set_option linter.unusedVariables false
set_option maxRecDepth 100000
theorem array5 {α : Type} {cs : Array α} (h : cs.size = 5) : ∃ c0 c1 c2 c3 c4, cs = #[c0, c1, c2, c3, c4] := by
 obtain ⟨l⟩ := cs
 match l, h with
 | [c0, c1, c2, c3, c4], _ => exact ⟨c0, c1, c2, c3, c4, rfl⟩
theorem open_cmd {H : Type} {enc : TypeId × Value → H} {W : World} {base b0 : Nat} {r : Reach} {sp : Nat → Bool} {held : Bool} {v : Value} {d : DataW H} {p : List MemPlace}
  (hv : Value.okWide Tryz.prog W r b0 30 v) (h : DataW.Trod enc Tryz.prog W base sp held 30 v d p) :
  ∃ (k s q : Int) (key val : ByteArray), v = .agg #[.int .i64 k, .int .i64 s, .int .i64 q, .string key, .string val] ∧ (Lit.int .i64 k).wf = true ∧ (Lit.int .i64 s).wf = true ∧ (Lit.int .i64 q).wf = true ∧ key.size ≤ maxLen ∧ val.size ≤ maxLen := by
 obtain ⟨cs, rfl, hsz⟩ := okWide_struct Tryz.underlying30 hv
 have hC : Tryz.prog.cellsOf 30 = 5 := by kernel_rfl
 obtain ⟨c0, c1, c2, c3, c4, rfl⟩ := array5 (hsz.trans hC)
 obtain ⟨fuel, hf⟩ := h
 obtain ⟨xs, n, _, _, _, hlen, hfl⟩ := DataW.trod_struct Tryz.underlying30 hf
 have i3 : Tryz.prog.cellsOf 3 = 1 := by kernel_rfl
 have i9 : Tryz.prog.cellsOf 9 = 1 := by kernel_rfl
 obtain ⟨y0, e0⟩ := get_some hlen (show 0 < 5 by omega)
 obtain ⟨y1, e1⟩ := get_some hlen (show 1 < 5 by omega)
 obtain ⟨y2, e2⟩ := get_some hlen (show 2 < 5 by omega)
 obtain ⟨y3, e3⟩ := get_some hlen (show 3 < 5 by omega)
 obtain ⟨y4, e4⟩ := get_some hlen (show 4 < 5 by omega)
 have g0 : DataW.trod enc Tryz.prog W base sp held n 3 [c0] = some y0 := by simpa [Value.cells, i3] using (hfl 0 _ rfl).trans e0
 have g1 : DataW.trod enc Tryz.prog W base sp held n 3 [c1] = some y1 := by simpa [Value.cells, i3] using (hfl 1 _ rfl).trans e1
 have g2 : DataW.trod enc Tryz.prog W base sp held n 3 [c2] = some y2 := by simpa [Value.cells, i3] using (hfl 2 _ rfl).trans e2
 have g3 : DataW.trod enc Tryz.prog W base sp held n 9 [c3] = some y3 := by simpa [Value.cells, i9] using (hfl 3 _ rfl).trans e3
 have g4 : DataW.trod enc Tryz.prog W base sp held n 9 [c4] = some y4 := by simpa [Value.cells, i9] using (hfl 4 _ rfl).trans e4
 obtain ⟨a0, f0, _, q0⟩ := DataW.trod_int Tryz.underlying3 g0
 obtain ⟨a1, f1, _, q1⟩ := DataW.trod_int Tryz.underlying3 g1
 obtain ⟨a2, f2, _, q2⟩ := DataW.trod_int Tryz.underlying3 g2
 obtain ⟨a3, f3, _, q3⟩ := DataW.trod_string Tryz.underlying9 g3
 obtain ⟨a4, f4, _, q4⟩ := DataW.trod_string Tryz.underlying9 g4
 simp only [List.cons.injEq, and_true] at f0 f1 f2 f3 f4
 subst f0 f1 f2 f3 f4
 exact ⟨a0, a1, a2, a3, a4, rfl, q0, q1, q2, q3, q4⟩

end Go.Proofs.YtnhhnjmjodmacaaGreatDoor
namespace Go.Proofs.YtnhhnjmjodmacaaGreatDoor
set_option maxRecDepth 100000
set_option maxHeartbeats 8000000
open Go.ChangeShapes Go.WideShapes Go.ChangeAt Go.RowKit Go.Deep
set_option linter.unusedVariables false
set_option linter.unusedSimpArgs false
def kcwF (f : Cm) : Int := (f.ky.size : Int) + (f.vl.size : Int)
def kcszF (f : Cm) (left : Int) : Int := if left - kcwF f < 0 then -1 else left - kcwF f
theorem szCm_any (f : Cm) (left : Int) (w : World) (h0 : 0 ≤ left) (h1 : left ≤ 1048576) (hd3 : f.ky.size ≤ maxLen) (hd4 : f.vl.size ≤ maxLen) :
  Calls Tryz.prog 7 #[.agg #[.int .i64 f.kd, .int .i64 f.ss, .int .i64 f.sq, .string f.ky, .string f.vl], .int .i64 left] w fun e w' => e = .returned (.int .i64 (kcszF f left)) ∧ Below w.heap.size w w' := by
 obtain ⟨f0, f1, f2, f3, f4⟩ := f
 dsimp only at hd3 hd4 ⊢
 have E : Hid (∀ r : Int, ((left - ((f3.size : Int) + (f4.size : Int)) < 0 → r = -1) ∧ (¬ left - ((f3.size : Int) + (f4.size : Int)) < 0 → r = left - ((f3.size : Int) + (f4.size : Int)))) → r = kcszF ⟨f0, f1, f2, f3, f4⟩ left) := Hd (fun r hr => by unfold kcszF kcwF; dsimp only; split <;> omega)
 have B0 := Hd (bal w (.cells #[.int .i64 f0, .int .i64 f1, .int .i64 f2, .string f3, .string f4] 30))
 have A0 := Hd (Blk.new w #[.int .i64 f0, .int .i64 f1, .int .i64 f2, .string f3, .string f4] 30 w.heap.size rfl)
 unfold maxLen at hd3 hd4
 by_cases r0 : left - (f3.size : Int) < 0
 ·have E1 := Hd (uh E (-1) ⟨fun _ => rfl, fun h => by omega⟩)
  clear E
  go_enter Tryz.func7, Tryz.ntmps7
  go_wp2_with fail
  go_ret
  exact ⟨ret_int (uh E1), uh B0⟩
 by_cases r1 : left - (f3.size : Int) - (f4.size : Int) < 0
 ·have E1 := Hd (uh E (-1) ⟨fun _ => rfl, fun h => by omega⟩)
  clear E
  go_enter Tryz.func7, Tryz.ntmps7
  go_wp2_with fail
  go_ret
  exact ⟨ret_int (uh E1), uh B0⟩
 have E1 := Hd (uh E (left - (f3.size : Int) - (f4.size : Int)) ⟨fun h => by omega, fun h => by omega⟩)
 clear E
 go_enter Tryz.func7, Tryz.ntmps7
 go_wp2_with fail
 go_ret
 exact ⟨ret_int (uh E1), uh B0⟩
theorem toCm_any (f : Cm) (w : World) :
  Calls Tryz.prog 10 #[.agg #[.int .i64 f.kd, .int .i64 f.ss, .int .i64 f.sq, .string f.ky, .string f.vl]] w fun e w' => e = .returned (.agg #[.int .i64 f.kd, .int .i64 f.ss, .int .i64 f.sq, .string f.ky, .string f.vl]) ∧ Below w.heap.size w w' := by
 obtain ⟨f0, f1, f2, f3, f4⟩ := f
 dsimp only
 go_enter Tryz.func10, Tryz.ntmps10
 go_wp2_with fail
 refine bodyPost_ret (v := .agg #[.int .i64 f0, .int .i64 f1, .int .i64 f2, .string f3, .string f4]) (by simp [results, Tryz.results10, go_sem]) rfl ⟨rfl, ?_⟩
 exact (((Below.refl _ _).alloc (Nat.le_refl _) _).alloc (by simp) _).alloc (by simp; omega) _
end Go.Proofs.YtnhhnjmjodmacaaGreatDoor
