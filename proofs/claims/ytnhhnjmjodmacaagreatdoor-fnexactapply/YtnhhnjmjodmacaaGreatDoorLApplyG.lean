/- For every ledger and every command that can be read, laws.FnExactApply returns true, both read as they did, and so do the two tables of words, which the card ties to the program's text. Condition: the listed tables start as the program's text lays them. (Written by py/lap.py.) -/
import Derived.Test.YtnhhnjmjodmacaaGreatDoorQap49
import Derived.Test.YtnhhnjmjodmacaaGreatDoorQap50
import Derived.Test.YtnhhnjmjodmacaaGreatDoorQap03
import Derived.Test.YtnhhnjmjodmacaaGreatDoorQap01
import Derived.Test.YtnhhnjmjodmacaaGreatDoorQap33
import Derived.Test.YtnhhnjmjodmacaaGreatDoorCards
import Derived.Test.YtnhhnjmjodmacaaGreatDoorTie
import Derived.Deep.DeepCutAuto
namespace Go.Proofs.YtnhhnjmjodmacaaGreatDoor.fnExactApply
set_option maxRecDepth 100000
set_option maxHeartbeats 8000000
open Go.ChangeShapes Go.WideShapes Go.ChangeAt Go.RowKit Go.Deep Sha
open Go.ChangeMaps (open_string shut_string)
set_option linter.unusedVariables false
set_option linter.unusedSimpArgs false
theorem apy_small (ls : List ByteArray) (b : Br) (ss : List Se) (c : Cm) : (apyO ls b ss c).1.ls.length ≤ 50 ∧ cntL (brOf (apyO ls b ss c).1.o).kids ≤ 80 ∧ (apyO ls b ss c).1.ss.length ≤ 8 := by
 by_cases h : ledB ls b ss = true ∧ cmK c = true
 ·obtain ⟨o, ho⟩ := ledB_map h.1
  rw [apyO_good h.1 h.2 ho]
  have h1 := (ap_ok (lok_of h.1 ho) h.2).1
  exact ⟨h1.n, lok_cnt h1, h1.m⟩
 ·rw [apyO_bad h]
  exact ⟨Nat.zero_le _, (by show cntL [] ≤ 80; unfold cntL; omega), Nat.zero_le _⟩
theorem walk (lv : Value) (k v : ByteArray) (a : Int) (kv sv : Value) (ls : List ByteArray) (ks : List Br) (ss : List Se) (ck cs cq : Int) (ckey cval : ByteArray) (w : World) (hR : LedR w lv kv sv ls ks ss) (hk : k.size ≤ maxLen) (hv : v.size ≤ maxLen) (z1 : ∀ i, i < ls.length → (ls.getD i ByteArray.empty).size ≤ maxLen) (z3 : ∀ i, i < ss.length → (ss.getD i default).vl.size ≤ maxLen) (wk : (Lit.int .i64 ck).wf = true) (ws : (Lit.int .i64 cs).wf = true) (wq : (Lit.int .i64 cq).wf = true) (hck : ckey.size ≤ maxLen) (hcv : cval.size ≤ maxLen) (hF : First w) (hT : Table w) :
  Calls Tryz.prog 3 #[.agg #[lv, .string k, .string v, .int .i64 a, kv, sv], .agg #[.int .i64 ck, .int .i64 cs, .int .i64 cq, .string ckey, .string cval]] w fun e w' => e = .returned (.bool true) ∧ Below w.heap.size w w' := by
 have HT := Hd (show Tab w from ⟨hF, hT⟩)
 obtain ⟨la, lc, ka, kc, sa, sc, rfl, rfl, rfl, hm1, hm2, hm3⟩ := hR.shape
 have HCK := Hd (And.intro hck hcv)
 have HS := Hd (fun wx (hx : Below w.heap.size w wx) => szLedger_any ls k v a ks ss la lc ka kc sa sc 1048576 wx (hR.below hx) (by omega) (by omega) z1 hk hv z3)
 have HW := Hd (Br.wt_eq (.mk k v a ks))
 have hwl := Br.wt_lo (.mk k v a ks)
 have HC := Hd (ledR_cases 1048576 (by omega) ls (Br.mk k v a ks).wt ss hwl)
 have HSUM := Hd (fun h => ledR_sum 1048576 ls (Br.mk k v a ks).wt ss h)
 have HCN := Hd (fun (hs : LedS ls (Br.mk k v a ks).wt ss) => show wtL ks ≤ 1048576 by have h2 := hs.w2; have := uh HW; simp only [Br.key, Br.val, Br.kids] at this; omega)
 have HTO1 := Hd (fun (hs : LedS ls (Br.mk k v a ks).wt ss) wx (hx : Below w.heap.size w wx) => toLedger_any ls k v a ks ss la lc ka kc sa sc wx (hR.below hx) hs.n1 (uh HCN hs) hs.n3)
 have HSP1 := Hd (fun (hs : LedS ls (Br.mk k v a ks).wt ss) wx (p1 p2 p3 B : Nat) (hO : LedO B wx (.slice (some ⟨p1, 0, none⟩) ls.length ls.length) (.slice (some ⟨p2, 0, none⟩) ks.length ks.length) (.slice (some ⟨p3, 0, none⟩) ss.length ss.length) ls ks ss) => specApply_any ls k v a ks ss p1 0 ls.length (some ⟨p2, 0, none⟩) ks.length (some ⟨p3, 0, none⟩) ss.length ⟨ck, cs, cq, ckey, cval⟩ wx (SA.own hO.1) hO.led hs.t1 hk hv hs.t3 (uh HCK))
 have HIM1 := Hd (fun (hs : LedS ls (Br.mk k v a ks).wt ss) wx (p1 p2 p3 B : Nat) (hO : LedO B wx (.slice (some ⟨p1, 0, none⟩) ls.length ls.length) (.slice (some ⟨p2, 0, none⟩) ks.length ks.length) (.slice (some ⟨p3, 0, none⟩) ss.length ss.length) ls ks ss) (hx : Below w.heap.size w wx) => implApply_any ls k v a ks ss p1 0 ls.length (some ⟨p2, 0, none⟩) ks.length ⟨p3, 0, none⟩ ss.length ⟨ck, cs, cq, ckey, cval⟩ wx (SA.own hO.1) hO.led hs.t1 hk hv hs.t3 (uh HCK) ((uh HT).below hx))
 obtain ⟨hsm1, hsm2, hsm3⟩ := apy_small ls (.mk k v a ks) ss ⟨ck, cs, cq, ckey, cval⟩
 clear hF hT hR hk hv hwl hm1 hm2 hm3 z1 z3 wk ws wq hck hcv
 generalize ledR 1048576 ls (Br.mk k v a ks).wt ss = r at *
 generalize apyO ls (Br.mk k v a ks) ss ⟨ck, cs, cq, ckey, cval⟩ = out at *
 obtain ⟨⟨lsN, oN, ssN⟩, ⟨r1, r2, r3⟩, code⟩ := out
 unfold ApyE at HSP1 HIM1
 dsimp only at HSP1 HIM1 hsm1 hsm2 hsm3
 generalize brOf oN = bN at *
 obtain ⟨kN, vN, aN, ksN⟩ := bN
 dsimp only [Br.key, Br.val, Br.at_, Br.kids] at HSP1 HIM1 hsm2
 have HN := Hd (show lsN.length ≤ 1048576 ∧ cntL ksN ≤ 1048576 ∧ ssN.length ≤ 1048576 ∧ 1 + lsN.length + 3 * cntL ksN ≤ 4194304 from ⟨by omega, by omega, by omega, by omega⟩)
 clear hsm1 hsm2 hsm3
 have KW := Hd ((bal w (.cells #[.slice la ls.length lc, .string k, .string v, .int .i64 a, .slice ka ks.length kc, .slice sa ss.length sc] 28)).alloc (by simp) (.cells #[.int .i64 ck, .int .i64 cs, .int .i64 cq, .string ckey, .string cval] 30))
 have XL := Hd ((Blk.new w #[.slice la ls.length lc, .string k, .string v, .int .i64 a, .slice ka ks.length kc, .slice sa ss.length sc] 28 w.heap.size rfl).alloc (.cells #[.int .i64 ck, .int .i64 cs, .int .i64 cq, .string ckey, .string cval] 30))
 have XC := Hd (Blk.new (w.alloc (.cells #[.slice la ls.length lc, .string k, .string v, .int .i64 a, .slice ka ks.length kc, .slice sa ss.length sc] 28)) #[.int .i64 ck, .int .i64 cs, .int .i64 cq, .string ckey, .string cval] 30 (w.heap.size + 1) (by simp))
 go_enter Tryz.func3, Tryz.ntmps3
 go_wp2_with fail
 generalize (w.alloc (.cells #[.slice la ls.length lc, .string k, .string v, .int .i64 a, .slice ka ks.length kc, .slice sa ss.length sc] 28)).alloc (.cells #[.int .i64 ck, .int .i64 cs, .int .i64 cq, .string ckey, .string cval] 30) = w0 at *
 refine (uh HS w0 (uh KW)).mono ?_
 rintro e w1 ⟨rfl, hb⟩
 replace KW := hbt KW hb
 replace XL := Hd ((uh XL).below hb)
 replace XC := Hd ((uh XC).below hb)
 clear hb HS
 rcases uh HC with hr | ⟨hr, hrl, hrs⟩
 ·subst hr
  go_wp2_with fail
  go_ret
  exact ⟨rfl, uh KW⟩
 have HSM := Hd hrs
 have HTO := Hd (uh HTO1 hrs)
 have HSP := Hd (uh HSP1 hrs)
 have HIM := Hd (uh HIM1 hrs)
 have HCX := Hd (show cntL ks ≤ 1048576 ∧ 1 + ls.length + 3 * cntL ks ≤ 4194304 from by have h1 := cntL_wt ks; have h4 := uh HSUM hr; have h5 := uh HW; simp only [Br.key, Br.val, Br.kids] at h5; exact ⟨by omega, by omega⟩)
 have hr2 : ¬ r < 0 := by omega
 clear HTO1 HSP1 HIM1 hrs HC HCN
 have hLb : w.heap.size < w1.heap.size := (uh XL).1
 have hCb : w.heap.size + 1 < w1.heap.size := (uh XC).1
 obtain ⟨b0, b1, b2, b3, b4⟩ := Blk.c5 (uh XC)
 go_wp2_with fail
 refine (szCm_any ⟨ck, cs, cq, ckey, cval⟩ r w1 hr hrl (uh HCK).1 (uh HCK).2).mono ?_
 rintro e w2 ⟨rfl, hb⟩
 replace KW := hbt KW hb
 replace XL := Hd ((uh XL).below hb)
 replace XC := Hd ((uh XC).below hb)
 clear hb b0 b1 b2 b3 b4 hLb hCb
 generalize kcszF ⟨ck, cs, cq, ckey, cval⟩ r = r9 at *
 by_cases h9 : r9 < 0
 ·go_wp2_with fail
  go_ret
  exact ⟨rfl, uh KW⟩
 have hLb : w.heap.size < w2.heap.size := (uh XL).1
 have hCb : w.heap.size + 1 < w2.heap.size := (uh XC).1
 obtain ⟨⟨a0, a1, a2, a3, a4, a5⟩, _⟩ := Blk.c6 (uh XL)
 obtain ⟨b0, b1, b2, b3, b4⟩ := Blk.c5 (uh XC)
 go_upto_region 8 with fail
 go_cut [6, 7, 8] (fun s6 s7 s8 wx => ∃ nb rb sla slc ska skc ssa ssc BW MW, s6 = .pointer (some ⟨nb, 0, none⟩) ∧ s7 = .pointer (some ⟨rb, 0, none⟩) ∧ s8 = .int .i64 code ∧ Hid (Out3 w2 nb rb [.slice sla lsN.length slc, .string kN, .string vN, .int .i64 aN, .slice ska ksN.length skc, .slice ssa ssN.length ssc] [.int .i64 r1, .int .i64 r2, .string r3] (.slice sla lsN.length slc) (.slice ska ksN.length skc) (.slice ssa ssN.length ssc) lsN ksN ssN BW MW wx))
 case first =>
  have HKS : Hid (∀ wx, Below w2.heap.size w2 wx → (fun wx => wx.cell? ⟨w.heap.size, 0, none⟩ = some (.slice la ls.length lc) ∧ wx.cell? ⟨w.heap.size, 1, none⟩ = some (.string k) ∧ wx.cell? ⟨w.heap.size, 2, none⟩ = some (.string v) ∧ wx.cell? ⟨w.heap.size, 3, none⟩ = some (.int .i64 a) ∧ wx.cell? ⟨w.heap.size, 4, none⟩ = some (.slice ka ks.length kc) ∧ wx.cell? ⟨w.heap.size, 5, none⟩ = some (.slice sa ss.length sc) ∧ wx.cell? ⟨w.heap.size + 1, 0, none⟩ = some (.int .i64 ck) ∧ wx.cell? ⟨w.heap.size + 1, 1, none⟩ = some (.int .i64 cs) ∧ wx.cell? ⟨w.heap.size + 1, 2, none⟩ = some (.int .i64 cq) ∧ wx.cell? ⟨w.heap.size + 1, 3, none⟩ = some (.string ckey) ∧ wx.cell? ⟨w.heap.size + 1, 4, none⟩ = some (.string cval)) wx) := Hd (fun wx hx => ⟨(hx.cell (p := ⟨w.heap.size, 0, none⟩) hLb).trans a0, (hx.cell (p := ⟨w.heap.size, 1, none⟩) hLb).trans a1, (hx.cell (p := ⟨w.heap.size, 2, none⟩) hLb).trans a2, (hx.cell (p := ⟨w.heap.size, 3, none⟩) hLb).trans a3, (hx.cell (p := ⟨w.heap.size, 4, none⟩) hLb).trans a4, (hx.cell (p := ⟨w.heap.size, 5, none⟩) hLb).trans a5, (hx.cell (p := ⟨w.heap.size + 1, 0, none⟩) hCb).trans b0, (hx.cell (p := ⟨w.heap.size + 1, 1, none⟩) hCb).trans b1, (hx.cell (p := ⟨w.heap.size + 1, 2, none⟩) hCb).trans b2, (hx.cell (p := ⟨w.heap.size + 1, 3, none⟩) hCb).trans b3, (hx.cell (p := ⟨w.heap.size + 1, 4, none⟩) hCb).trans b4⟩)
  refine wp_region_noPanic ?_
  refine wp_region_held_drew (S := (fun wx => wx.cell? ⟨w.heap.size, 0, none⟩ = some (.slice la ls.length lc) ∧ wx.cell? ⟨w.heap.size, 1, none⟩ = some (.string k) ∧ wx.cell? ⟨w.heap.size, 2, none⟩ = some (.string v) ∧ wx.cell? ⟨w.heap.size, 3, none⟩ = some (.int .i64 a) ∧ wx.cell? ⟨w.heap.size, 4, none⟩ = some (.slice ka ks.length kc) ∧ wx.cell? ⟨w.heap.size, 5, none⟩ = some (.slice sa ss.length sc) ∧ wx.cell? ⟨w.heap.size + 1, 0, none⟩ = some (.int .i64 ck) ∧ wx.cell? ⟨w.heap.size + 1, 1, none⟩ = some (.int .i64 cs) ∧ wx.cell? ⟨w.heap.size + 1, 2, none⟩ = some (.int .i64 cq) ∧ wx.cell? ⟨w.heap.size + 1, 3, none⟩ = some (.string ckey) ∧ wx.cell? ⟨w.heap.size + 1, 4, none⟩ = some (.string cval))) (by kernel_rfl) ?_ (fun hHeld => ?_)
  ·exact uh HKS _ (below_drewN (Below.refl _ _) 1)
  refine tkH 0 rfl ?_
  refine tkH 2 rfl ?_
  refine nameAt2 (f := wpAnyH _ _ _ _ _) (x' := 12) (y' := #[true, false, true, false, false, false, false, false, false, false, false, false, false, false]) (by kernel_rfl) (by kernel_rfl) ?_
  intro F aP hF hA
  have HF := Hd hF
  have HA := Hd hA
  clear hF hA hHeld a0 a1 a2 a3 a4 a5 b0 b1 b2 b3 b4
  have st301 : Hid (∀ (wx : World) (HBx : Hid (Below w2.heap.size w2 wx)) (u1 : Nat) (u2 : Nat) (u3 : Nat) (BO : Nat) (OT : Hid (ToO BO wx u1 u2 u3 ls ks ss)) (sla : Option Addr) (slc : Nat) (ska : Option Addr) (skc : Nat) (ssa : Option Addr) (ssc : Nat) (BW : Nat) (MW : Nat) (hBW : w2.heap.size ≤ BW) (LU : Hid (TlU BW MW wx sla slc ska skc ssa ssc lsN ksN ssN)) (LOW : Hid (Low MW wx)) (nb : Nat) (Bnb : Hid (Blk wx nb [.slice none 0 0, .string ⟨#[]⟩, .string ⟨#[]⟩, .int .i64 0, .slice none 0 0, .slice none 0 0])) (hnb : w2.heap.size ≤ nb) (qnb : nb < BW ∨ MW ≤ nb) (rb : Nat) (Brb : Hid (Blk wx rb [.int .i64 0, .int .i64 0, .string ⟨#[]⟩])) (hrb : w2.heap.size ≤ rb) (qrb : rb < BW ∨ MW ≤ rb) (hne : nb ≠ rb), F 3 #[true, true, true, true, true, true, true, true, true, true, true, false, false, false] (((((((((aP.put (some 31) (V6 (some ⟨u1, 0, none⟩) ls.length (some ⟨u2, 0, none⟩) ks.length (some ⟨u3, 0, none⟩) ss.length ls ks ss k v a)).put (some 33) (.agg #[.int .i64 ck, .int .i64 cs, .int .i64 cq, .string ckey, .string cval])).put (some 34) (.tuple #[V6 sla slc ska skc ssa ssc lsN ksN ssN kN vN aN, V3 r1 r2 r3, .int .i64 code])).put (some 29) (.tuple #[V6 sla slc ska skc ssa ssc lsN ksN ssN kN vN aN, V3 r1 r2 r3, .int .i64 code])).put (some 35) (V6 sla slc ska skc ssa ssc lsN ksN ssN kN vN aN)).put (some 36) (V3 r1 r2 r3)).put (some 37) (.int .i64 code)).put (some 6) (.pointer (some ⟨nb, 0, none⟩))).put (some 7) (.pointer (some ⟨rb, 0, none⟩))) wx) := by
   refine Hd ?_
   intro wx HBx u1 u2 u3 BO OT sla slc ska skc ssa ssc BW MW hBW LU LOW nb Bnb hnb qnb rb Brb hrb qrb hne
   rw [uh HF, uh HA]
   refine nrm ?_
   dsimp only [V6, V3]
   obtain ⟨⟨c0, c1, c2, c3, c4, c5⟩, g0, g1, g2, g3, g4, g5⟩ := Blk.c6 (uh Bnb)
   obtain ⟨⟨d0, d1, d2⟩, e0, e1, e2⟩ := Blk.c3 (uh Brb)
   have hne2 : rb ≠ nb := fun e => hne e.symm
   have HO := Hd (out3_of hne (uh HBx) hBW (uh LOW) ⟨hnb, qnb⟩ ⟨hrb, qrb⟩ (uh Bnb) (uh Brb) (uh LU) (.slice sla lsN.length slc) (.string kN) (.string vN) (.int .i64 aN) (.slice ska ksN.length skc) (.slice ssa ssN.length ssc) (.int .i64 r1) (.int .i64 r2) (.string r3))
   refine rdy1 11 rfl (fun K hK => ?_)
   go_simp
   refine outH hK ?_ (fun hHeld => ?_)
   ·exact uh HKS _ (uh HO).1
   clear hK K
   refine rdy1 12 rfl (fun K hK => ?_)
   go_simp
   refine outH hK ?_ (fun hHeld => ?_)
   ·exact uh HKS _ (uh HO).2.1
   clear hK K
   refine tkH 13 rfl ?_
   refine wpAnyH_done (by kernel_rfl) (NoPanic.normal ?_) _
   clear hHeld
   have HQ := Hd (uh HO).2
   clear HO
   go_wp2_with fail
   go_meet
   exact ⟨nb, rb, _, _, _, _, _, _, BW, MW, rfl, rfl, rfl, HQ⟩
  have st30 : Hid (∀ (wx : World) (HBx : Hid (Below w2.heap.size w2 wx)) (u1 : Nat) (u2 : Nat) (u3 : Nat) (BO : Nat) (OT : Hid (ToO BO wx u1 u2 u3 ls ks ss)) (sla : Option Addr) (slc : Nat) (ska : Option Addr) (skc : Nat) (ssa : Option Addr) (ssc : Nat) (BW : Nat) (MW : Nat) (hBW : w2.heap.size ≤ BW) (LU : Hid (TlU BW MW wx sla slc ska skc ssa ssc lsN ksN ssN)) (LOW : Hid (Low MW wx)) (nb : Nat) (Bnb : Hid (Blk wx nb [.slice none 0 0, .string ⟨#[]⟩, .string ⟨#[]⟩, .int .i64 0, .slice none 0 0, .slice none 0 0])) (hnb : w2.heap.size ≤ nb) (qnb : nb < BW ∨ MW ≤ nb), F 4 #[true, true, true, true, true, true, true, true, true, true, false, false, false, false] ((((((((aP.put (some 31) (V6 (some ⟨u1, 0, none⟩) ls.length (some ⟨u2, 0, none⟩) ks.length (some ⟨u3, 0, none⟩) ss.length ls ks ss k v a)).put (some 33) (.agg #[.int .i64 ck, .int .i64 cs, .int .i64 cq, .string ckey, .string cval])).put (some 34) (.tuple #[V6 sla slc ska skc ssa ssc lsN ksN ssN kN vN aN, V3 r1 r2 r3, .int .i64 code])).put (some 29) (.tuple #[V6 sla slc ska skc ssa ssc lsN ksN ssN kN vN aN, V3 r1 r2 r3, .int .i64 code])).put (some 35) (V6 sla slc ska skc ssa ssc lsN ksN ssN kN vN aN)).put (some 36) (V3 r1 r2 r3)).put (some 37) (.int .i64 code)).put (some 6) (.pointer (some ⟨nb, 0, none⟩))) wx) := by
   refine Hd ?_
   intro wx HBx u1 u2 u3 BO OT sla slc ska skc ssa ssc BW MW hBW LU LOW nb Bnb hnb qnb
   rw [uh HF, uh HA]
   refine nrm ?_
   refine rdy1 10 rfl (fun K hK => ?_)
   go_simp
   obtain ⟨hbs, hB⟩ := newBox wx #[.int .i64 0, .int .i64 0, .string ⟨#[]⟩] 40
   refine outH hK (uh HKS _ (uh (hbtr HBx hbs))) (fun hHeld => ?_)
   clear hK K
   have fin := uh st301 _ (hbtr HBx hbs) u1 u2 u3 BO (Hd ((uh OT).below hbs)) sla slc ska skc ssa ssc BW MW hBW (Hd ((uh LU).below hbs)) (Hd ((uh LOW).below hbs)) nb (Hd ((uh Bnb).below hbs)) hnb qnb wx.heap.size hB (uh HBx).size (.inr (uh LOW)) (fun e => by have := (uh Bnb).1; omega)
   rw [uh HF, uh HA] at fin
   exact nrmR fin
  have st31 : Hid (∀ (wx : World) (HBx : Hid (Below w2.heap.size w2 wx)) (u1 : Nat) (u2 : Nat) (u3 : Nat) (BO : Nat) (OT : Hid (ToO BO wx u1 u2 u3 ls ks ss)) (sla : Option Addr) (slc : Nat) (ska : Option Addr) (skc : Nat) (ssa : Option Addr) (ssc : Nat) (BW : Nat) (MW : Nat) (hBW : w2.heap.size ≤ BW) (LU : Hid (TlU BW MW wx sla slc ska skc ssa ssc lsN ksN ssN)) (LOW : Hid (Low MW wx)) (rb : Nat) (Brb : Hid (Blk wx rb [.int .i64 0, .int .i64 0, .string ⟨#[]⟩])) (hrb : w2.heap.size ≤ rb) (qrb : rb < BW ∨ MW ≤ rb), F 4 #[true, true, true, true, true, true, true, true, true, false, true, false, false, false] ((((((((aP.put (some 31) (V6 (some ⟨u1, 0, none⟩) ls.length (some ⟨u2, 0, none⟩) ks.length (some ⟨u3, 0, none⟩) ss.length ls ks ss k v a)).put (some 33) (.agg #[.int .i64 ck, .int .i64 cs, .int .i64 cq, .string ckey, .string cval])).put (some 34) (.tuple #[V6 sla slc ska skc ssa ssc lsN ksN ssN kN vN aN, V3 r1 r2 r3, .int .i64 code])).put (some 29) (.tuple #[V6 sla slc ska skc ssa ssc lsN ksN ssN kN vN aN, V3 r1 r2 r3, .int .i64 code])).put (some 35) (V6 sla slc ska skc ssa ssc lsN ksN ssN kN vN aN)).put (some 36) (V3 r1 r2 r3)).put (some 37) (.int .i64 code)).put (some 7) (.pointer (some ⟨rb, 0, none⟩))) wx) := by
   clear st30
   refine Hd ?_
   intro wx HBx u1 u2 u3 BO OT sla slc ska skc ssa ssc BW MW hBW LU LOW rb Brb hrb qrb
   rw [uh HF, uh HA]
   refine nrm ?_
   refine rdy1 9 rfl (fun K hK => ?_)
   go_simp
   obtain ⟨hbs, hB⟩ := newBox wx #[.slice none 0 0, .string ⟨#[]⟩, .string ⟨#[]⟩, .int .i64 0, .slice none 0 0, .slice none 0 0] 38
   refine outH hK (uh HKS _ (uh (hbtr HBx hbs))) (fun hHeld => ?_)
   clear hK K
   have fin := uh st301 _ (hbtr HBx hbs) u1 u2 u3 BO (Hd ((uh OT).below hbs)) sla slc ska skc ssa ssc BW MW hBW (Hd ((uh LU).below hbs)) (Hd ((uh LOW).below hbs)) wx.heap.size hB (uh HBx).size (.inr (uh LOW)) rb (Hd ((uh Brb).below hbs)) hrb qrb (fun e => by have := (uh Brb).1; omega)
   rw [uh HF, uh HA] at fin
   exact nrmR fin
  have st201 : Hid (∀ (wx : World) (HBx : Hid (Below w2.heap.size w2 wx)) (u1 : Nat) (u2 : Nat) (u3 : Nat) (BO : Nat) (OT : Hid (ToO BO wx u1 u2 u3 ls ks ss)) (nb : Nat) (Bnb : Hid (Blk wx nb [.slice none 0 0, .string ⟨#[]⟩, .string ⟨#[]⟩, .int .i64 0, .slice none 0 0, .slice none 0 0])) (hnb : w2.heap.size ≤ nb) (rb : Nat) (Brb : Hid (Blk wx rb [.int .i64 0, .int .i64 0, .string ⟨#[]⟩])) (hrb : w2.heap.size ≤ rb) (hne : nb ≠ rb), F 8 #[true, true, true, true, false, false, false, false, false, true, true, false, false, false] ((((aP.put (some 31) (V6 (some ⟨u1, 0, none⟩) ls.length (some ⟨u2, 0, none⟩) ks.length (some ⟨u3, 0, none⟩) ss.length ls ks ss k v a)).put (some 33) (.agg #[.int .i64 ck, .int .i64 cs, .int .i64 cq, .string ckey, .string cval])).put (some 6) (.pointer (some ⟨nb, 0, none⟩))).put (some 7) (.pointer (some ⟨rb, 0, none⟩))) wx) := by
   clear st30 st31
   refine Hd ?_
   intro wx HBx u1 u2 u3 BO OT nb Bnb hnb rb Brb hrb hne
   rw [uh HF, uh HA]
   refine nrm ?_
   refine rdy1 4 rfl (fun K hK => ?_)
   go_simp
   (try dsimp only [V6])
   refine (uh HSP wx u1 u2 u3 _ (uh OT)).mono ?_
   rintro e wy ⟨sla, slc, ska, skn, skc, ssa, ssc, rfl, hO, hbs⟩
   dsimp only [Br.key, Br.val, Br.at_, Br.kids] at hO ⊢
   obtain rfl := hO.kn
   have LU := Hd hO.up
   obtain ⟨BW, hBWe⟩ : ∃ BW, BW = wx.heap.size := ⟨_, rfl⟩
   rw [← hBWe] at LU
   have hBW : w2.heap.size ≤ BW := by rw [hBWe]; exact (uh HBx).size
   obtain ⟨MW, hMWe⟩ : ∃ MW, MW = wy.heap.size := ⟨_, rfl⟩
   rw [← hMWe] at LU
   replace LU : Hid (TlU BW MW wy sla slc ska skc ssa ssc lsN ksN ssN) := LU
   have LOW : Hid (Low MW wy) := Hd (Nat.le_of_eq hMWe)
   have HBWe := Hd hBWe
   clear hO hMWe hBWe
   go_wp2_with fail
   refine outH hK (uh HKS _ (uh (hbtr HBx hbs))) (fun hHeld => ?_)
   clear hK K
   refine tkH 5 rfl ?_
   refine tkH 6 rfl ?_
   refine tkH 7 rfl ?_
   refine tkH 8 rfl ?_
   have fin := uh st301 _ (hbtr HBx hbs) u1 u2 u3 BO (Hd ((uh OT).below hbs)) sla slc ska skc ssa ssc BW MW hBW LU LOW nb (Hd ((uh Bnb).below hbs)) hnb (.inl (by rw [uh HBWe]; exact (uh Bnb).1)) rb (Hd ((uh Brb).below hbs)) hrb (.inl (by rw [uh HBWe]; exact (uh Brb).1)) hne
   rw [uh HF, uh HA] at fin
   exact nrmR fin
  have st3 : Hid (∀ (wx : World) (HBx : Hid (Below w2.heap.size w2 wx)) (u1 : Nat) (u2 : Nat) (u3 : Nat) (BO : Nat) (OT : Hid (ToO BO wx u1 u2 u3 ls ks ss)) (sla : Option Addr) (slc : Nat) (ska : Option Addr) (skc : Nat) (ssa : Option Addr) (ssc : Nat) (BW : Nat) (MW : Nat) (hBW : w2.heap.size ≤ BW) (LU : Hid (TlU BW MW wx sla slc ska skc ssa ssc lsN ksN ssN)) (LOW : Hid (Low MW wx)), F 5 #[true, true, true, true, true, true, true, true, true, false, false, false, false, false] (((((((aP.put (some 31) (V6 (some ⟨u1, 0, none⟩) ls.length (some ⟨u2, 0, none⟩) ks.length (some ⟨u3, 0, none⟩) ss.length ls ks ss k v a)).put (some 33) (.agg #[.int .i64 ck, .int .i64 cs, .int .i64 cq, .string ckey, .string cval])).put (some 34) (.tuple #[V6 sla slc ska skc ssa ssc lsN ksN ssN kN vN aN, V3 r1 r2 r3, .int .i64 code])).put (some 29) (.tuple #[V6 sla slc ska skc ssa ssc lsN ksN ssN kN vN aN, V3 r1 r2 r3, .int .i64 code])).put (some 35) (V6 sla slc ska skc ssa ssc lsN ksN ssN kN vN aN)).put (some 36) (V3 r1 r2 r3)).put (some 37) (.int .i64 code)) wx) := by
   clear st301 st201
   refine Hd ?_
   intro wx HBx u1 u2 u3 BO OT sla slc ska skc ssa ssc BW MW hBW LU LOW
   rw [uh HF, uh HA]
   refine nrm ?_
   refine rdy2 9 10 rfl rfl (fun K hK => ?_) (fun K hK => ?_)
   ·go_simp
    obtain ⟨hbs, hB⟩ := newBox wx #[.slice none 0 0, .string ⟨#[]⟩, .string ⟨#[]⟩, .int .i64 0, .slice none 0 0, .slice none 0 0] 38
    refine outH hK (uh HKS _ (uh (hbtr HBx hbs))) (fun hHeld => ?_)
    clear hK K
    have fin := uh st30 _ (hbtr HBx hbs) u1 u2 u3 BO (Hd ((uh OT).below hbs)) sla slc ska skc ssa ssc BW MW hBW (Hd ((uh LU).below hbs)) (Hd ((uh LOW).below hbs)) wx.heap.size hB (uh HBx).size (.inr (uh LOW))
    rw [uh HF, uh HA] at fin
    exact nrmR fin
   ·go_simp
    obtain ⟨hbs, hB⟩ := newBox wx #[.int .i64 0, .int .i64 0, .string ⟨#[]⟩] 40
    refine outH hK (uh HKS _ (uh (hbtr HBx hbs))) (fun hHeld => ?_)
    clear hK K
    have fin := uh st31 _ (hbtr HBx hbs) u1 u2 u3 BO (Hd ((uh OT).below hbs)) sla slc ska skc ssa ssc BW MW hBW (Hd ((uh LU).below hbs)) (Hd ((uh LOW).below hbs)) wx.heap.size hB (uh HBx).size (.inr (uh LOW))
    rw [uh HF, uh HA] at fin
    exact nrmR fin
  have st20 : Hid (∀ (wx : World) (HBx : Hid (Below w2.heap.size w2 wx)) (u1 : Nat) (u2 : Nat) (u3 : Nat) (BO : Nat) (OT : Hid (ToO BO wx u1 u2 u3 ls ks ss)) (nb : Nat) (Bnb : Hid (Blk wx nb [.slice none 0 0, .string ⟨#[]⟩, .string ⟨#[]⟩, .int .i64 0, .slice none 0 0, .slice none 0 0])) (hnb : w2.heap.size ≤ nb), F 9 #[true, true, true, true, false, false, false, false, false, true, false, false, false, false] (((aP.put (some 31) (V6 (some ⟨u1, 0, none⟩) ls.length (some ⟨u2, 0, none⟩) ks.length (some ⟨u3, 0, none⟩) ss.length ls ks ss k v a)).put (some 33) (.agg #[.int .i64 ck, .int .i64 cs, .int .i64 cq, .string ckey, .string cval])).put (some 6) (.pointer (some ⟨nb, 0, none⟩))) wx) := by
   clear st301 st31 st3
   refine Hd ?_
   intro wx HBx u1 u2 u3 BO OT nb Bnb hnb
   rw [uh HF, uh HA]
   refine nrm ?_
   refine rdy2 4 10 rfl rfl (fun K hK => ?_) (fun K hK => ?_)
   ·go_simp
    (try dsimp only [V6])
    refine (uh HSP wx u1 u2 u3 _ (uh OT)).mono ?_
    rintro e wy ⟨sla, slc, ska, skn, skc, ssa, ssc, rfl, hO, hbs⟩
    dsimp only [Br.key, Br.val, Br.at_, Br.kids] at hO ⊢
    obtain rfl := hO.kn
    have LU := Hd hO.up
    obtain ⟨BW, hBWe⟩ : ∃ BW, BW = wx.heap.size := ⟨_, rfl⟩
    rw [← hBWe] at LU
    have hBW : w2.heap.size ≤ BW := by rw [hBWe]; exact (uh HBx).size
    obtain ⟨MW, hMWe⟩ : ∃ MW, MW = wy.heap.size := ⟨_, rfl⟩
    rw [← hMWe] at LU
    replace LU : Hid (TlU BW MW wy sla slc ska skc ssa ssc lsN ksN ssN) := LU
    have LOW : Hid (Low MW wy) := Hd (Nat.le_of_eq hMWe)
    have HBWe := Hd hBWe
    clear hO hMWe hBWe
    go_wp2_with fail
    refine outH hK (uh HKS _ (uh (hbtr HBx hbs))) (fun hHeld => ?_)
    clear hK K
    refine tkH 5 rfl ?_
    refine tkH 6 rfl ?_
    refine tkH 7 rfl ?_
    refine tkH 8 rfl ?_
    have fin := uh st30 _ (hbtr HBx hbs) u1 u2 u3 BO (Hd ((uh OT).below hbs)) sla slc ska skc ssa ssc BW MW hBW LU LOW nb (Hd ((uh Bnb).below hbs)) hnb (.inl (by rw [uh HBWe]; exact (uh Bnb).1))
    rw [uh HF, uh HA] at fin
    exact nrmR fin
   ·go_simp
    obtain ⟨hbs, hB⟩ := newBox wx #[.int .i64 0, .int .i64 0, .string ⟨#[]⟩] 40
    refine outH hK (uh HKS _ (uh (hbtr HBx hbs))) (fun hHeld => ?_)
    clear hK K
    have fin := uh st201 _ (hbtr HBx hbs) u1 u2 u3 BO (Hd ((uh OT).below hbs)) nb (Hd ((uh Bnb).below hbs)) hnb wx.heap.size hB (uh HBx).size (fun e => by have := (uh Bnb).1; omega)
    rw [uh HF, uh HA] at fin
    exact nrmR fin
  have st21 : Hid (∀ (wx : World) (HBx : Hid (Below w2.heap.size w2 wx)) (u1 : Nat) (u2 : Nat) (u3 : Nat) (BO : Nat) (OT : Hid (ToO BO wx u1 u2 u3 ls ks ss)) (rb : Nat) (Brb : Hid (Blk wx rb [.int .i64 0, .int .i64 0, .string ⟨#[]⟩])) (hrb : w2.heap.size ≤ rb), F 9 #[true, true, true, true, false, false, false, false, false, false, true, false, false, false] (((aP.put (some 31) (V6 (some ⟨u1, 0, none⟩) ls.length (some ⟨u2, 0, none⟩) ks.length (some ⟨u3, 0, none⟩) ss.length ls ks ss k v a)).put (some 33) (.agg #[.int .i64 ck, .int .i64 cs, .int .i64 cq, .string ckey, .string cval])).put (some 7) (.pointer (some ⟨rb, 0, none⟩))) wx) := by
   clear st301 st30 st3 st20
   refine Hd ?_
   intro wx HBx u1 u2 u3 BO OT rb Brb hrb
   rw [uh HF, uh HA]
   refine nrm ?_
   refine rdy2 4 9 rfl rfl (fun K hK => ?_) (fun K hK => ?_)
   ·go_simp
    (try dsimp only [V6])
    refine (uh HSP wx u1 u2 u3 _ (uh OT)).mono ?_
    rintro e wy ⟨sla, slc, ska, skn, skc, ssa, ssc, rfl, hO, hbs⟩
    dsimp only [Br.key, Br.val, Br.at_, Br.kids] at hO ⊢
    obtain rfl := hO.kn
    have LU := Hd hO.up
    obtain ⟨BW, hBWe⟩ : ∃ BW, BW = wx.heap.size := ⟨_, rfl⟩
    rw [← hBWe] at LU
    have hBW : w2.heap.size ≤ BW := by rw [hBWe]; exact (uh HBx).size
    obtain ⟨MW, hMWe⟩ : ∃ MW, MW = wy.heap.size := ⟨_, rfl⟩
    rw [← hMWe] at LU
    replace LU : Hid (TlU BW MW wy sla slc ska skc ssa ssc lsN ksN ssN) := LU
    have LOW : Hid (Low MW wy) := Hd (Nat.le_of_eq hMWe)
    have HBWe := Hd hBWe
    clear hO hMWe hBWe
    go_wp2_with fail
    refine outH hK (uh HKS _ (uh (hbtr HBx hbs))) (fun hHeld => ?_)
    clear hK K
    refine tkH 5 rfl ?_
    refine tkH 6 rfl ?_
    refine tkH 7 rfl ?_
    refine tkH 8 rfl ?_
    have fin := uh st31 _ (hbtr HBx hbs) u1 u2 u3 BO (Hd ((uh OT).below hbs)) sla slc ska skc ssa ssc BW MW hBW LU LOW rb (Hd ((uh Brb).below hbs)) hrb (.inl (by rw [uh HBWe]; exact (uh Brb).1))
    rw [uh HF, uh HA] at fin
    exact nrmR fin
   ·go_simp
    obtain ⟨hbs, hB⟩ := newBox wx #[.slice none 0 0, .string ⟨#[]⟩, .string ⟨#[]⟩, .int .i64 0, .slice none 0 0, .slice none 0 0] 38
    refine outH hK (uh HKS _ (uh (hbtr HBx hbs))) (fun hHeld => ?_)
    clear hK K
    have fin := uh st201 _ (hbtr HBx hbs) u1 u2 u3 BO (Hd ((uh OT).below hbs)) wx.heap.size hB (uh HBx).size rb (Hd ((uh Brb).below hbs)) hrb (fun e => by have := (uh Brb).1; omega)
    rw [uh HF, uh HA] at fin
    exact nrmR fin
  have st101 : Hid (∀ (wx : World) (HBx : Hid (Below w2.heap.size w2 wx)) (u1 : Nat) (u2 : Nat) (u3 : Nat) (BO : Nat) (OT : Hid (ToO BO wx u1 u2 u3 ls ks ss)) (nb : Nat) (Bnb : Hid (Blk wx nb [.slice none 0 0, .string ⟨#[]⟩, .string ⟨#[]⟩, .int .i64 0, .slice none 0 0, .slice none 0 0])) (hnb : w2.heap.size ≤ nb) (rb : Nat) (Brb : Hid (Blk wx rb [.int .i64 0, .int .i64 0, .string ⟨#[]⟩])) (hrb : w2.heap.size ≤ rb) (hne : nb ≠ rb), F 9 #[true, true, true, false, false, false, false, false, false, true, true, false, false, false] (((aP.put (some 31) (V6 (some ⟨u1, 0, none⟩) ls.length (some ⟨u2, 0, none⟩) ks.length (some ⟨u3, 0, none⟩) ss.length ls ks ss k v a)).put (some 6) (.pointer (some ⟨nb, 0, none⟩))).put (some 7) (.pointer (some ⟨rb, 0, none⟩))) wx) := by
   clear st301 st30 st31 st3 st20 st21
   refine Hd ?_
   intro wx HBx u1 u2 u3 BO OT nb Bnb hnb rb Brb hrb hne
   rw [uh HF, uh HA]
   refine nrm ?_
   refine rdy1 3 rfl (fun K hK => ?_)
   go_simp
   refine (toCm_any ⟨ck, cs, cq, ckey, cval⟩ wx).mono ?_
   rintro e wy ⟨rfl, hbs⟩
   go_wp2_with fail
   refine outH hK (uh HKS _ (uh (hbtr HBx hbs))) (fun hHeld => ?_)
   clear hK K
   have fin := uh st201 _ (hbtr HBx hbs) u1 u2 u3 BO (Hd ((uh OT).below hbs)) nb (Hd ((uh Bnb).below hbs)) hnb rb (Hd ((uh Brb).below hbs)) hrb hne
   rw [uh HF, uh HA] at fin
   exact nrmR fin
  have st2 : Hid (∀ (wx : World) (HBx : Hid (Below w2.heap.size w2 wx)) (u1 : Nat) (u2 : Nat) (u3 : Nat) (BO : Nat) (OT : Hid (ToO BO wx u1 u2 u3 ls ks ss)), F 10 #[true, true, true, true, false, false, false, false, false, false, false, false, false, false] ((aP.put (some 31) (V6 (some ⟨u1, 0, none⟩) ls.length (some ⟨u2, 0, none⟩) ks.length (some ⟨u3, 0, none⟩) ss.length ls ks ss k v a)).put (some 33) (.agg #[.int .i64 ck, .int .i64 cs, .int .i64 cq, .string ckey, .string cval])) wx) := by
   clear st301 st30 st31 st201 st101
   refine Hd ?_
   intro wx HBx u1 u2 u3 BO OT
   rw [uh HF, uh HA]
   refine nrm ?_
   refine rdy3 4 9 10 rfl rfl rfl (fun K hK => ?_) (fun K hK => ?_) (fun K hK => ?_)
   ·go_simp
    (try dsimp only [V6])
    refine (uh HSP wx u1 u2 u3 _ (uh OT)).mono ?_
    rintro e wy ⟨sla, slc, ska, skn, skc, ssa, ssc, rfl, hO, hbs⟩
    dsimp only [Br.key, Br.val, Br.at_, Br.kids] at hO ⊢
    obtain rfl := hO.kn
    have LU := Hd hO.up
    obtain ⟨BW, hBWe⟩ : ∃ BW, BW = wx.heap.size := ⟨_, rfl⟩
    rw [← hBWe] at LU
    have hBW : w2.heap.size ≤ BW := by rw [hBWe]; exact (uh HBx).size
    obtain ⟨MW, hMWe⟩ : ∃ MW, MW = wy.heap.size := ⟨_, rfl⟩
    rw [← hMWe] at LU
    replace LU : Hid (TlU BW MW wy sla slc ska skc ssa ssc lsN ksN ssN) := LU
    have LOW : Hid (Low MW wy) := Hd (Nat.le_of_eq hMWe)
    have HBWe := Hd hBWe
    clear hO hMWe hBWe
    go_wp2_with fail
    refine outH hK (uh HKS _ (uh (hbtr HBx hbs))) (fun hHeld => ?_)
    clear hK K
    refine tkH 5 rfl ?_
    refine tkH 6 rfl ?_
    refine tkH 7 rfl ?_
    refine tkH 8 rfl ?_
    have fin := uh st3 _ (hbtr HBx hbs) u1 u2 u3 BO (Hd ((uh OT).below hbs)) sla slc ska skc ssa ssc BW MW hBW LU LOW
    rw [uh HF, uh HA] at fin
    exact nrmR fin
   ·go_simp
    obtain ⟨hbs, hB⟩ := newBox wx #[.slice none 0 0, .string ⟨#[]⟩, .string ⟨#[]⟩, .int .i64 0, .slice none 0 0, .slice none 0 0] 38
    refine outH hK (uh HKS _ (uh (hbtr HBx hbs))) (fun hHeld => ?_)
    clear hK K
    have fin := uh st20 _ (hbtr HBx hbs) u1 u2 u3 BO (Hd ((uh OT).below hbs)) wx.heap.size hB (uh HBx).size
    rw [uh HF, uh HA] at fin
    exact nrmR fin
   ·go_simp
    obtain ⟨hbs, hB⟩ := newBox wx #[.int .i64 0, .int .i64 0, .string ⟨#[]⟩] 40
    refine outH hK (uh HKS _ (uh (hbtr HBx hbs))) (fun hHeld => ?_)
    clear hK K
    have fin := uh st21 _ (hbtr HBx hbs) u1 u2 u3 BO (Hd ((uh OT).below hbs)) wx.heap.size hB (uh HBx).size
    rw [uh HF, uh HA] at fin
    exact nrmR fin
  have st10 : Hid (∀ (wx : World) (HBx : Hid (Below w2.heap.size w2 wx)) (u1 : Nat) (u2 : Nat) (u3 : Nat) (BO : Nat) (OT : Hid (ToO BO wx u1 u2 u3 ls ks ss)) (nb : Nat) (Bnb : Hid (Blk wx nb [.slice none 0 0, .string ⟨#[]⟩, .string ⟨#[]⟩, .int .i64 0, .slice none 0 0, .slice none 0 0])) (hnb : w2.heap.size ≤ nb), F 10 #[true, true, true, false, false, false, false, false, false, true, false, false, false, false] ((aP.put (some 31) (V6 (some ⟨u1, 0, none⟩) ls.length (some ⟨u2, 0, none⟩) ks.length (some ⟨u3, 0, none⟩) ss.length ls ks ss k v a)).put (some 6) (.pointer (some ⟨nb, 0, none⟩))) wx) := by
   clear st301 st30 st31 st201 st3 st21 st2
   refine Hd ?_
   intro wx HBx u1 u2 u3 BO OT nb Bnb hnb
   rw [uh HF, uh HA]
   refine nrm ?_
   refine rdy2 3 10 rfl rfl (fun K hK => ?_) (fun K hK => ?_)
   ·go_simp
    refine (toCm_any ⟨ck, cs, cq, ckey, cval⟩ wx).mono ?_
    rintro e wy ⟨rfl, hbs⟩
    go_wp2_with fail
    refine outH hK (uh HKS _ (uh (hbtr HBx hbs))) (fun hHeld => ?_)
    clear hK K
    have fin := uh st20 _ (hbtr HBx hbs) u1 u2 u3 BO (Hd ((uh OT).below hbs)) nb (Hd ((uh Bnb).below hbs)) hnb
    rw [uh HF, uh HA] at fin
    exact nrmR fin
   ·go_simp
    obtain ⟨hbs, hB⟩ := newBox wx #[.int .i64 0, .int .i64 0, .string ⟨#[]⟩] 40
    refine outH hK (uh HKS _ (uh (hbtr HBx hbs))) (fun hHeld => ?_)
    clear hK K
    have fin := uh st101 _ (hbtr HBx hbs) u1 u2 u3 BO (Hd ((uh OT).below hbs)) nb (Hd ((uh Bnb).below hbs)) hnb wx.heap.size hB (uh HBx).size (fun e => by have := (uh Bnb).1; omega)
    rw [uh HF, uh HA] at fin
    exact nrmR fin
  have st11 : Hid (∀ (wx : World) (HBx : Hid (Below w2.heap.size w2 wx)) (u1 : Nat) (u2 : Nat) (u3 : Nat) (BO : Nat) (OT : Hid (ToO BO wx u1 u2 u3 ls ks ss)) (rb : Nat) (Brb : Hid (Blk wx rb [.int .i64 0, .int .i64 0, .string ⟨#[]⟩])) (hrb : w2.heap.size ≤ rb), F 10 #[true, true, true, false, false, false, false, false, false, false, true, false, false, false] ((aP.put (some 31) (V6 (some ⟨u1, 0, none⟩) ls.length (some ⟨u2, 0, none⟩) ks.length (some ⟨u3, 0, none⟩) ss.length ls ks ss k v a)).put (some 7) (.pointer (some ⟨rb, 0, none⟩))) wx) := by
   clear st301 st30 st31 st201 st3 st20 st2 st10
   refine Hd ?_
   intro wx HBx u1 u2 u3 BO OT rb Brb hrb
   rw [uh HF, uh HA]
   refine nrm ?_
   refine rdy2 3 9 rfl rfl (fun K hK => ?_) (fun K hK => ?_)
   ·go_simp
    refine (toCm_any ⟨ck, cs, cq, ckey, cval⟩ wx).mono ?_
    rintro e wy ⟨rfl, hbs⟩
    go_wp2_with fail
    refine outH hK (uh HKS _ (uh (hbtr HBx hbs))) (fun hHeld => ?_)
    clear hK K
    have fin := uh st21 _ (hbtr HBx hbs) u1 u2 u3 BO (Hd ((uh OT).below hbs)) rb (Hd ((uh Brb).below hbs)) hrb
    rw [uh HF, uh HA] at fin
    exact nrmR fin
   ·go_simp
    obtain ⟨hbs, hB⟩ := newBox wx #[.slice none 0 0, .string ⟨#[]⟩, .string ⟨#[]⟩, .int .i64 0, .slice none 0 0, .slice none 0 0] 38
    refine outH hK (uh HKS _ (uh (hbtr HBx hbs))) (fun hHeld => ?_)
    clear hK K
    have fin := uh st101 _ (hbtr HBx hbs) u1 u2 u3 BO (Hd ((uh OT).below hbs)) wx.heap.size hB (uh HBx).size rb (Hd ((uh Brb).below hbs)) hrb (fun e => by have := (uh Brb).1; omega)
    rw [uh HF, uh HA] at fin
    exact nrmR fin
  have st001 : Hid (∀ (wx : World) (HBx : Hid (Below w2.heap.size w2 wx)) (nb : Nat) (Bnb : Hid (Blk wx nb [.slice none 0 0, .string ⟨#[]⟩, .string ⟨#[]⟩, .int .i64 0, .slice none 0 0, .slice none 0 0])) (hnb : w2.heap.size ≤ nb) (rb : Nat) (Brb : Hid (Blk wx rb [.int .i64 0, .int .i64 0, .string ⟨#[]⟩])) (hrb : w2.heap.size ≤ rb) (hne : nb ≠ rb), F 10 #[true, false, true, false, false, false, false, false, false, true, true, false, false, false] ((aP.put (some 6) (.pointer (some ⟨nb, 0, none⟩))).put (some 7) (.pointer (some ⟨rb, 0, none⟩))) wx) := by
   clear st301 st30 st31 st201 st3 st20 st21 st2 st10 st11
   refine Hd ?_
   intro wx HBx nb Bnb hnb rb Brb hrb hne
   rw [uh HF, uh HA]
   refine nrm ?_
   refine rdy1 1 rfl (fun K hK => ?_)
   go_simp
   refine (uh HTO wx ((uh KW).trans ((uh HBx).mono (uh KW).size))).mono ?_
   rintro e wy ⟨u1, u2, u3, rfl, hO, hbs⟩
   obtain ⟨BO, hBO⟩ : ∃ BO, BO = wx.heap.size := ⟨_, rfl⟩
   rw [← hBO] at hO
   have OT : Hid (ToO BO wy u1 u2 u3 ls ks ss) := Hd hO
   clear hO hBO
   go_wp2_with fail
   refine outH hK (uh HKS _ (uh (hbtr HBx hbs))) (fun hHeld => ?_)
   clear hK K
   have fin := uh st101 _ (hbtr HBx hbs) u1 u2 u3 BO OT nb (Hd ((uh Bnb).below hbs)) hnb rb (Hd ((uh Brb).below hbs)) hrb hne
   rw [uh HF, uh HA] at fin
   exact nrmR fin
  have st1 : Hid (∀ (wx : World) (HBx : Hid (Below w2.heap.size w2 wx)) (u1 : Nat) (u2 : Nat) (u3 : Nat) (BO : Nat) (OT : Hid (ToO BO wx u1 u2 u3 ls ks ss)), F 11 #[true, true, true, false, false, false, false, false, false, false, false, false, false, false] (aP.put (some 31) (V6 (some ⟨u1, 0, none⟩) ls.length (some ⟨u2, 0, none⟩) ks.length (some ⟨u3, 0, none⟩) ss.length ls ks ss k v a)) wx) := by
   clear st301 st30 st31 st201 st3 st20 st21 st101 st001
   refine Hd ?_
   intro wx HBx u1 u2 u3 BO OT
   rw [uh HF, uh HA]
   refine nrm ?_
   refine rdy3 3 9 10 rfl rfl rfl (fun K hK => ?_) (fun K hK => ?_) (fun K hK => ?_)
   ·go_simp
    refine (toCm_any ⟨ck, cs, cq, ckey, cval⟩ wx).mono ?_
    rintro e wy ⟨rfl, hbs⟩
    go_wp2_with fail
    refine outH hK (uh HKS _ (uh (hbtr HBx hbs))) (fun hHeld => ?_)
    clear hK K
    have fin := uh st2 _ (hbtr HBx hbs) u1 u2 u3 BO (Hd ((uh OT).below hbs))
    rw [uh HF, uh HA] at fin
    exact nrmR fin
   ·go_simp
    obtain ⟨hbs, hB⟩ := newBox wx #[.slice none 0 0, .string ⟨#[]⟩, .string ⟨#[]⟩, .int .i64 0, .slice none 0 0, .slice none 0 0] 38
    refine outH hK (uh HKS _ (uh (hbtr HBx hbs))) (fun hHeld => ?_)
    clear hK K
    have fin := uh st10 _ (hbtr HBx hbs) u1 u2 u3 BO (Hd ((uh OT).below hbs)) wx.heap.size hB (uh HBx).size
    rw [uh HF, uh HA] at fin
    exact nrmR fin
   ·go_simp
    obtain ⟨hbs, hB⟩ := newBox wx #[.int .i64 0, .int .i64 0, .string ⟨#[]⟩] 40
    refine outH hK (uh HKS _ (uh (hbtr HBx hbs))) (fun hHeld => ?_)
    clear hK K
    have fin := uh st11 _ (hbtr HBx hbs) u1 u2 u3 BO (Hd ((uh OT).below hbs)) wx.heap.size hB (uh HBx).size
    rw [uh HF, uh HA] at fin
    exact nrmR fin
  have st00 : Hid (∀ (wx : World) (HBx : Hid (Below w2.heap.size w2 wx)) (nb : Nat) (Bnb : Hid (Blk wx nb [.slice none 0 0, .string ⟨#[]⟩, .string ⟨#[]⟩, .int .i64 0, .slice none 0 0, .slice none 0 0])) (hnb : w2.heap.size ≤ nb), F 11 #[true, false, true, false, false, false, false, false, false, true, false, false, false, false] (aP.put (some 6) (.pointer (some ⟨nb, 0, none⟩))) wx) := by
   clear st301 st30 st31 st201 st3 st20 st21 st101 st2 st11 st1
   refine Hd ?_
   intro wx HBx nb Bnb hnb
   rw [uh HF, uh HA]
   refine nrm ?_
   refine rdy2 1 10 rfl rfl (fun K hK => ?_) (fun K hK => ?_)
   ·go_simp
    refine (uh HTO wx ((uh KW).trans ((uh HBx).mono (uh KW).size))).mono ?_
    rintro e wy ⟨u1, u2, u3, rfl, hO, hbs⟩
    obtain ⟨BO, hBO⟩ : ∃ BO, BO = wx.heap.size := ⟨_, rfl⟩
    rw [← hBO] at hO
    have OT : Hid (ToO BO wy u1 u2 u3 ls ks ss) := Hd hO
    clear hO hBO
    go_wp2_with fail
    refine outH hK (uh HKS _ (uh (hbtr HBx hbs))) (fun hHeld => ?_)
    clear hK K
    have fin := uh st10 _ (hbtr HBx hbs) u1 u2 u3 BO OT nb (Hd ((uh Bnb).below hbs)) hnb
    rw [uh HF, uh HA] at fin
    exact nrmR fin
   ·go_simp
    obtain ⟨hbs, hB⟩ := newBox wx #[.int .i64 0, .int .i64 0, .string ⟨#[]⟩] 40
    refine outH hK (uh HKS _ (uh (hbtr HBx hbs))) (fun hHeld => ?_)
    clear hK K
    have fin := uh st001 _ (hbtr HBx hbs) nb (Hd ((uh Bnb).below hbs)) hnb wx.heap.size hB (uh HBx).size (fun e => by have := (uh Bnb).1; omega)
    rw [uh HF, uh HA] at fin
    exact nrmR fin
  have st01 : Hid (∀ (wx : World) (HBx : Hid (Below w2.heap.size w2 wx)) (rb : Nat) (Brb : Hid (Blk wx rb [.int .i64 0, .int .i64 0, .string ⟨#[]⟩])) (hrb : w2.heap.size ≤ rb), F 11 #[true, false, true, false, false, false, false, false, false, false, true, false, false, false] (aP.put (some 7) (.pointer (some ⟨rb, 0, none⟩))) wx) := by
   clear st301 st30 st31 st201 st3 st20 st21 st101 st2 st10 st1 st00
   refine Hd ?_
   intro wx HBx rb Brb hrb
   rw [uh HF, uh HA]
   refine nrm ?_
   refine rdy2 1 9 rfl rfl (fun K hK => ?_) (fun K hK => ?_)
   ·go_simp
    refine (uh HTO wx ((uh KW).trans ((uh HBx).mono (uh KW).size))).mono ?_
    rintro e wy ⟨u1, u2, u3, rfl, hO, hbs⟩
    obtain ⟨BO, hBO⟩ : ∃ BO, BO = wx.heap.size := ⟨_, rfl⟩
    rw [← hBO] at hO
    have OT : Hid (ToO BO wy u1 u2 u3 ls ks ss) := Hd hO
    clear hO hBO
    go_wp2_with fail
    refine outH hK (uh HKS _ (uh (hbtr HBx hbs))) (fun hHeld => ?_)
    clear hK K
    have fin := uh st11 _ (hbtr HBx hbs) u1 u2 u3 BO OT rb (Hd ((uh Brb).below hbs)) hrb
    rw [uh HF, uh HA] at fin
    exact nrmR fin
   ·go_simp
    obtain ⟨hbs, hB⟩ := newBox wx #[.slice none 0 0, .string ⟨#[]⟩, .string ⟨#[]⟩, .int .i64 0, .slice none 0 0, .slice none 0 0] 38
    refine outH hK (uh HKS _ (uh (hbtr HBx hbs))) (fun hHeld => ?_)
    clear hK K
    have fin := uh st001 _ (hbtr HBx hbs) wx.heap.size hB (uh HBx).size rb (Hd ((uh Brb).below hbs)) hrb (fun e => by have := (uh Brb).1; omega)
    rw [uh HF, uh HA] at fin
    exact nrmR fin
  have st0 : Hid (∀ (wx : World) (HBx : Hid (Below w2.heap.size w2 wx)), F 12 #[true, false, true, false, false, false, false, false, false, false, false, false, false, false] aP wx) := by
   clear st301 st30 st31 st201 st3 st20 st21 st101 st2 st10 st11 st001
   refine Hd ?_
   intro wx HBx
   rw [uh HF, uh HA]
   refine nrm ?_
   refine rdy3 1 9 10 rfl rfl rfl (fun K hK => ?_) (fun K hK => ?_) (fun K hK => ?_)
   ·go_simp
    refine (uh HTO wx ((uh KW).trans ((uh HBx).mono (uh KW).size))).mono ?_
    rintro e wy ⟨u1, u2, u3, rfl, hO, hbs⟩
    obtain ⟨BO, hBO⟩ : ∃ BO, BO = wx.heap.size := ⟨_, rfl⟩
    rw [← hBO] at hO
    have OT : Hid (ToO BO wy u1 u2 u3 ls ks ss) := Hd hO
    clear hO hBO
    go_wp2_with fail
    refine outH hK (uh HKS _ (uh (hbtr HBx hbs))) (fun hHeld => ?_)
    clear hK K
    have fin := uh st1 _ (hbtr HBx hbs) u1 u2 u3 BO OT
    rw [uh HF, uh HA] at fin
    exact nrmR fin
   ·go_simp
    obtain ⟨hbs, hB⟩ := newBox wx #[.slice none 0 0, .string ⟨#[]⟩, .string ⟨#[]⟩, .int .i64 0, .slice none 0 0, .slice none 0 0] 38
    refine outH hK (uh HKS _ (uh (hbtr HBx hbs))) (fun hHeld => ?_)
    clear hK K
    have fin := uh st00 _ (hbtr HBx hbs) wx.heap.size hB (uh HBx).size
    rw [uh HF, uh HA] at fin
    exact nrmR fin
   ·go_simp
    obtain ⟨hbs, hB⟩ := newBox wx #[.int .i64 0, .int .i64 0, .string ⟨#[]⟩] 40
    refine outH hK (uh HKS _ (uh (hbtr HBx hbs))) (fun hHeld => ?_)
    clear hK K
    have fin := uh st01 _ (hbtr HBx hbs) wx.heap.size hB (uh HBx).size
    rw [uh HF, uh HA] at fin
    exact nrmR fin
  have hdr := below_drewN (Below.refl w2.heap.size w2) 1
  change Below w2.heap.size w2 w2.drew at hdr
  exact uh st0 _ (Hd hdr) 
 case rest =>
  obtain ⟨n1, m1, sla, slc, ska, skc, ssa, ssc, B1, M1, rfl, rfl, rfl, HG⟩ := hcut
  obtain ⟨w3, hw3e⟩ : ∃ w3, w3 = wc := ⟨_, rfl⟩
  rw [← hw3e] at HG ⊢
  clear hw3e wc
  obtain ⟨hb, hB1, hM1, hn1, hm1, hBn, hBr, hLu⟩ := uh HG
  replace KW := hbt KW hb
  replace XL := Hd ((uh XL).below hb)
  replace XC := Hd ((uh XC).below hb)
  have hW3 : w.heap.size + 1 < w3.heap.size := (uh XC).1
  have XN := Hd hBn
  have XR := Hd hBr
  have LW := Hd hLu
  have hn1l := hBn.1
  have hm1l := hBr.1
  clear HG hb hBn hBr hLu a0 a1 a2 a3 a4 a5 b0 b1 b2 b3 b4 hLb hCb HSP
  have hLb : w.heap.size < w3.heap.size := (uh XL).1
  have hCb : w.heap.size + 1 < w3.heap.size := (uh XC).1
  obtain ⟨⟨a0, a1, a2, a3, a4, a5⟩, _⟩ := Blk.c6 (uh XL)
  go_wp2_with fail
  refine (uh HTO w3 (uh KW)).mono ?_
  rintro e w4 ⟨p1, p2, p3, rfl, hO, hb⟩
  have hs34 := hb.size
  replace KW := hbt KW hb
  replace XL := Hd ((uh XL).below hb)
  replace XC := Hd ((uh XC).below hb)
  replace XN := Hd ((uh XN).below hb)
  replace XR := Hd ((uh XR).below hb)
  replace LW := Hd ((uh LW).below hb)
  have BB := bal w4 (.cells #[.slice (some ⟨p1, 0, none⟩) ls.length ls.length, .string k, .string v, .int .i64 a, .slice (some ⟨p2, 0, none⟩) ks.length ks.length, .slice (some ⟨p3, 0, none⟩) ss.length ss.length] 38)
  have OX := Hd (hO.below BB)
  have LX := Hd (hO.up.below BB)
  have XX := Hd (Blk.new w4 #[.slice (some ⟨p1, 0, none⟩) ls.length ls.length, .string k, .string v, .int .i64 a, .slice (some ⟨p2, 0, none⟩) ks.length ks.length, .slice (some ⟨p3, 0, none⟩) ss.length ss.length] 38 w4.heap.size rfl)
  replace KW := hbt KW BB
  replace XL := Hd ((uh XL).below BB)
  replace XC := Hd ((uh XC).below BB)
  replace XN := Hd ((uh XN).below BB)
  replace XR := Hd ((uh XR).below BB)
  replace LW := Hd ((uh LW).below BB)
  clear hb BB hO a0 a1 a2 a3 a4 a5 hLb hCb
  go_upto_region 10 with fail
  generalize w4.alloc (.cells #[.slice (some ⟨p1, 0, none⟩) ls.length ls.length, .string k, .string v, .int .i64 a, .slice (some ⟨p2, 0, none⟩) ks.length ks.length, .slice (some ⟨p3, 0, none⟩) ss.length ss.length] 38) = w5 at *
  obtain ⟨xb, hxb⟩ : ∃ xb, xb = w4.heap.size := ⟨_, rfl⟩
  rw [← hxb] at LX XX ⊢
  have hxb2 : w3.heap.size ≤ xb := by omega
  clear hxb hs34
  have hxl : xb < w5.heap.size := (uh XX).1
  have hLb : w.heap.size < w5.heap.size := (uh XL).1
  have hCb : w.heap.size + 1 < w5.heap.size := (uh XC).1
  obtain ⟨⟨a0, a1, a2, a3, a4, a5⟩, _⟩ := Blk.c6 (uh XX)
  obtain ⟨b0, b1, b2, b3, b4⟩ := Blk.c5 (uh XC)
  go_cut [10, 11, 12] (fun s6 s7 s8 wx => ∃ nb rb gla glc gka gkc gsa gsc BW MW, s6 = .pointer (some ⟨nb, 0, none⟩) ∧ s7 = .pointer (some ⟨rb, 0, none⟩) ∧ s8 = .int .i64 code ∧ Hid (Out3 w5 nb rb [.slice gla lsN.length glc, .string kN, .string vN, .int .i64 aN, .slice gka ksN.length gkc, .slice gsa ssN.length gsc] [.int .i64 r1, .int .i64 r2, .string r3] (.slice gla lsN.length glc) (.slice gka ksN.length gkc) (.slice gsa ssN.length gsc) lsN ksN ssN BW MW wx))
  case first =>
   clear hB1 hM1 hn1 hm1 hn1l hm1l XN XR LW
   have HKS : Hid (∀ wx, Below w5.heap.size w5 wx → (fun wx => wx.cell? ⟨xb, 0, none⟩ = some (.slice (some ⟨p1, 0, none⟩) ls.length ls.length) ∧ wx.cell? ⟨xb, 1, none⟩ = some (.string k) ∧ wx.cell? ⟨xb, 2, none⟩ = some (.string v) ∧ wx.cell? ⟨xb, 3, none⟩ = some (.int .i64 a) ∧ wx.cell? ⟨xb, 4, none⟩ = some (.slice (some ⟨p2, 0, none⟩) ks.length ks.length) ∧ wx.cell? ⟨xb, 5, none⟩ = some (.slice (some ⟨p3, 0, none⟩) ss.length ss.length) ∧ wx.cell? ⟨w.heap.size + 1, 0, none⟩ = some (.int .i64 ck) ∧ wx.cell? ⟨w.heap.size + 1, 1, none⟩ = some (.int .i64 cs) ∧ wx.cell? ⟨w.heap.size + 1, 2, none⟩ = some (.int .i64 cq) ∧ wx.cell? ⟨w.heap.size + 1, 3, none⟩ = some (.string ckey) ∧ wx.cell? ⟨w.heap.size + 1, 4, none⟩ = some (.string cval)) wx) := Hd (fun wx hx => ⟨(hx.cell (p := ⟨xb, 0, none⟩) hxl).trans a0, (hx.cell (p := ⟨xb, 1, none⟩) hxl).trans a1, (hx.cell (p := ⟨xb, 2, none⟩) hxl).trans a2, (hx.cell (p := ⟨xb, 3, none⟩) hxl).trans a3, (hx.cell (p := ⟨xb, 4, none⟩) hxl).trans a4, (hx.cell (p := ⟨xb, 5, none⟩) hxl).trans a5, (hx.cell (p := ⟨w.heap.size + 1, 0, none⟩) hCb).trans b0, (hx.cell (p := ⟨w.heap.size + 1, 1, none⟩) hCb).trans b1, (hx.cell (p := ⟨w.heap.size + 1, 2, none⟩) hCb).trans b2, (hx.cell (p := ⟨w.heap.size + 1, 3, none⟩) hCb).trans b3, (hx.cell (p := ⟨w.heap.size + 1, 4, none⟩) hCb).trans b4⟩)
   refine wp_region_noPanic ?_
   refine wp_region_held_drew (S := (fun wx => wx.cell? ⟨xb, 0, none⟩ = some (.slice (some ⟨p1, 0, none⟩) ls.length ls.length) ∧ wx.cell? ⟨xb, 1, none⟩ = some (.string k) ∧ wx.cell? ⟨xb, 2, none⟩ = some (.string v) ∧ wx.cell? ⟨xb, 3, none⟩ = some (.int .i64 a) ∧ wx.cell? ⟨xb, 4, none⟩ = some (.slice (some ⟨p2, 0, none⟩) ks.length ks.length) ∧ wx.cell? ⟨xb, 5, none⟩ = some (.slice (some ⟨p3, 0, none⟩) ss.length ss.length) ∧ wx.cell? ⟨w.heap.size + 1, 0, none⟩ = some (.int .i64 ck) ∧ wx.cell? ⟨w.heap.size + 1, 1, none⟩ = some (.int .i64 cs) ∧ wx.cell? ⟨w.heap.size + 1, 2, none⟩ = some (.int .i64 cq) ∧ wx.cell? ⟨w.heap.size + 1, 3, none⟩ = some (.string ckey) ∧ wx.cell? ⟨w.heap.size + 1, 4, none⟩ = some (.string cval))) (by kernel_rfl) ?_ (fun hHeld => ?_)
   ·exact uh HKS _ (below_drewN (Below.refl _ _) 1)
   refine tkH 0 rfl ?_
   refine tkH 1 rfl ?_
   refine nameAt2 (f := wpAnyH _ _ _ _ _) (x' := 11) (y' := #[true, true, false, false, false, false, false, false, false, false, false, false, false]) (by kernel_rfl) (by kernel_rfl) ?_
   intro F aP hF hA
   have HF := Hd hF
   have HA := Hd hA
   clear hF hA hHeld a0 a1 a2 a3 a4 a5 b0 b1 b2 b3 b4
   have st201 : Hid (∀ (wx : World) (HBx : Hid (Below w5.heap.size w5 wx)) (OX : Hid (LedO w3.heap.size wx (.slice (some ⟨p1, 0, none⟩) ls.length ls.length) (.slice (some ⟨p2, 0, none⟩) ks.length ks.length) (.slice (some ⟨p3, 0, none⟩) ss.length ss.length) ls ks ss)) (gla : Option Addr) (glc : Nat) (gka : Option Addr) (gkc : Nat) (gsa : Option Addr) (gsc : Nat) (BW : Nat) (MW : Nat) (hBW : w5.heap.size ≤ BW) (LU : Hid (TlU BW MW wx gla glc gka gkc gsa gsc lsN ksN ssN)) (LOW : Hid (Low MW wx)) (nb : Nat) (Bnb : Hid (Blk wx nb [.slice none 0 0, .string ⟨#[]⟩, .string ⟨#[]⟩, .int .i64 0, .slice none 0 0, .slice none 0 0])) (hnb : w5.heap.size ≤ nb) (qnb : nb < BW ∨ MW ≤ nb) (rb : Nat) (Brb : Hid (Blk wx rb [.int .i64 0, .int .i64 0, .string ⟨#[]⟩])) (hrb : w5.heap.size ≤ rb) (qrb : rb < BW ∨ MW ≤ rb) (hne : nb ≠ rb), F 3 #[true, true, true, true, true, true, true, true, true, true, false, false, false] ((((((((aP.put (some 43) (.agg #[.int .i64 ck, .int .i64 cs, .int .i64 cq, .string ckey, .string cval])).put (some 44) (.tuple #[V6 gla glc gka gkc gsa gsc lsN ksN ssN kN vN aN, V3 r1 r2 r3, .int .i64 code])).put (some 40) (.tuple #[V6 gla glc gka gkc gsa gsc lsN ksN ssN kN vN aN, V3 r1 r2 r3, .int .i64 code])).put (some 45) (V6 gla glc gka gkc gsa gsc lsN ksN ssN kN vN aN)).put (some 46) (V3 r1 r2 r3)).put (some 47) (.int .i64 code)).put (some 10) (.pointer (some ⟨nb, 0, none⟩))).put (some 11) (.pointer (some ⟨rb, 0, none⟩))) wx) := by
    refine Hd ?_
    intro wx HBx OX gla glc gka gkc gsa gsc BW MW hBW LU LOW nb Bnb hnb qnb rb Brb hrb qrb hne
    rw [uh HF, uh HA]
    refine nrm ?_
    dsimp only [V6, V3]
    obtain ⟨⟨c0, c1, c2, c3, c4, c5⟩, g0, g1, g2, g3, g4, g5⟩ := Blk.c6 (uh Bnb)
    obtain ⟨⟨d0, d1, d2⟩, e0, e1, e2⟩ := Blk.c3 (uh Brb)
    have hne2 : rb ≠ nb := fun e => hne e.symm
    have HO := Hd (out3_of hne (uh HBx) hBW (uh LOW) ⟨hnb, qnb⟩ ⟨hrb, qrb⟩ (uh Bnb) (uh Brb) (uh LU) (.slice gla lsN.length glc) (.string kN) (.string vN) (.int .i64 aN) (.slice gka ksN.length gkc) (.slice gsa ssN.length gsc) (.int .i64 r1) (.int .i64 r2) (.string r3))
    refine rdy1 10 rfl (fun K hK => ?_)
    go_simp
    refine outH hK ?_ (fun hHeld => ?_)
    ·exact uh HKS _ (uh HO).1
    clear hK K
    refine rdy1 11 rfl (fun K hK => ?_)
    go_simp
    refine outH hK ?_ (fun hHeld => ?_)
    ·exact uh HKS _ (uh HO).2.1
    clear hK K
    refine tkH 12 rfl ?_
    refine wpAnyH_done (by kernel_rfl) (NoPanic.normal ?_) _
    clear hHeld
    have HQ := Hd (uh HO).2
    clear HO
    go_wp2_with fail
    go_meet
    exact ⟨nb, rb, _, _, _, _, _, _, BW, MW, rfl, rfl, rfl, HQ⟩
   have st20 : Hid (∀ (wx : World) (HBx : Hid (Below w5.heap.size w5 wx)) (OX : Hid (LedO w3.heap.size wx (.slice (some ⟨p1, 0, none⟩) ls.length ls.length) (.slice (some ⟨p2, 0, none⟩) ks.length ks.length) (.slice (some ⟨p3, 0, none⟩) ss.length ss.length) ls ks ss)) (gla : Option Addr) (glc : Nat) (gka : Option Addr) (gkc : Nat) (gsa : Option Addr) (gsc : Nat) (BW : Nat) (MW : Nat) (hBW : w5.heap.size ≤ BW) (LU : Hid (TlU BW MW wx gla glc gka gkc gsa gsc lsN ksN ssN)) (LOW : Hid (Low MW wx)) (nb : Nat) (Bnb : Hid (Blk wx nb [.slice none 0 0, .string ⟨#[]⟩, .string ⟨#[]⟩, .int .i64 0, .slice none 0 0, .slice none 0 0])) (hnb : w5.heap.size ≤ nb) (qnb : nb < BW ∨ MW ≤ nb), F 4 #[true, true, true, true, true, true, true, true, true, false, false, false, false] (((((((aP.put (some 43) (.agg #[.int .i64 ck, .int .i64 cs, .int .i64 cq, .string ckey, .string cval])).put (some 44) (.tuple #[V6 gla glc gka gkc gsa gsc lsN ksN ssN kN vN aN, V3 r1 r2 r3, .int .i64 code])).put (some 40) (.tuple #[V6 gla glc gka gkc gsa gsc lsN ksN ssN kN vN aN, V3 r1 r2 r3, .int .i64 code])).put (some 45) (V6 gla glc gka gkc gsa gsc lsN ksN ssN kN vN aN)).put (some 46) (V3 r1 r2 r3)).put (some 47) (.int .i64 code)).put (some 10) (.pointer (some ⟨nb, 0, none⟩))) wx) := by
    refine Hd ?_
    intro wx HBx OX gla glc gka gkc gsa gsc BW MW hBW LU LOW nb Bnb hnb qnb
    rw [uh HF, uh HA]
    refine nrm ?_
    refine rdy1 9 rfl (fun K hK => ?_)
    go_simp
    obtain ⟨hbs, hB⟩ := newBox wx #[.int .i64 0, .int .i64 0, .string ⟨#[]⟩] 40
    refine outH hK (uh HKS _ (uh (hbtr HBx hbs))) (fun hHeld => ?_)
    clear hK K
    have fin := uh st201 _ (hbtr HBx hbs) (Hd ((uh OX).below hbs)) gla glc gka gkc gsa gsc BW MW hBW (Hd ((uh LU).below hbs)) (Hd ((uh LOW).below hbs)) nb (Hd ((uh Bnb).below hbs)) hnb qnb wx.heap.size hB (uh HBx).size (.inr (uh LOW)) (fun e => by have := (uh Bnb).1; omega)
    rw [uh HF, uh HA] at fin
    exact nrmR fin
   have st21 : Hid (∀ (wx : World) (HBx : Hid (Below w5.heap.size w5 wx)) (OX : Hid (LedO w3.heap.size wx (.slice (some ⟨p1, 0, none⟩) ls.length ls.length) (.slice (some ⟨p2, 0, none⟩) ks.length ks.length) (.slice (some ⟨p3, 0, none⟩) ss.length ss.length) ls ks ss)) (gla : Option Addr) (glc : Nat) (gka : Option Addr) (gkc : Nat) (gsa : Option Addr) (gsc : Nat) (BW : Nat) (MW : Nat) (hBW : w5.heap.size ≤ BW) (LU : Hid (TlU BW MW wx gla glc gka gkc gsa gsc lsN ksN ssN)) (LOW : Hid (Low MW wx)) (rb : Nat) (Brb : Hid (Blk wx rb [.int .i64 0, .int .i64 0, .string ⟨#[]⟩])) (hrb : w5.heap.size ≤ rb) (qrb : rb < BW ∨ MW ≤ rb), F 4 #[true, true, true, true, true, true, true, true, false, true, false, false, false] (((((((aP.put (some 43) (.agg #[.int .i64 ck, .int .i64 cs, .int .i64 cq, .string ckey, .string cval])).put (some 44) (.tuple #[V6 gla glc gka gkc gsa gsc lsN ksN ssN kN vN aN, V3 r1 r2 r3, .int .i64 code])).put (some 40) (.tuple #[V6 gla glc gka gkc gsa gsc lsN ksN ssN kN vN aN, V3 r1 r2 r3, .int .i64 code])).put (some 45) (V6 gla glc gka gkc gsa gsc lsN ksN ssN kN vN aN)).put (some 46) (V3 r1 r2 r3)).put (some 47) (.int .i64 code)).put (some 11) (.pointer (some ⟨rb, 0, none⟩))) wx) := by
    clear st20
    refine Hd ?_
    intro wx HBx OX gla glc gka gkc gsa gsc BW MW hBW LU LOW rb Brb hrb qrb
    rw [uh HF, uh HA]
    refine nrm ?_
    refine rdy1 8 rfl (fun K hK => ?_)
    go_simp
    obtain ⟨hbs, hB⟩ := newBox wx #[.slice none 0 0, .string ⟨#[]⟩, .string ⟨#[]⟩, .int .i64 0, .slice none 0 0, .slice none 0 0] 38
    refine outH hK (uh HKS _ (uh (hbtr HBx hbs))) (fun hHeld => ?_)
    clear hK K
    have fin := uh st201 _ (hbtr HBx hbs) (Hd ((uh OX).below hbs)) gla glc gka gkc gsa gsc BW MW hBW (Hd ((uh LU).below hbs)) (Hd ((uh LOW).below hbs)) wx.heap.size hB (uh HBx).size (.inr (uh LOW)) rb (Hd ((uh Brb).below hbs)) hrb qrb (fun e => by have := (uh Brb).1; omega)
    rw [uh HF, uh HA] at fin
    exact nrmR fin
   have st101 : Hid (∀ (wx : World) (HBx : Hid (Below w5.heap.size w5 wx)) (OX : Hid (LedO w3.heap.size wx (.slice (some ⟨p1, 0, none⟩) ls.length ls.length) (.slice (some ⟨p2, 0, none⟩) ks.length ks.length) (.slice (some ⟨p3, 0, none⟩) ss.length ss.length) ls ks ss)) (nb : Nat) (Bnb : Hid (Blk wx nb [.slice none 0 0, .string ⟨#[]⟩, .string ⟨#[]⟩, .int .i64 0, .slice none 0 0, .slice none 0 0])) (hnb : w5.heap.size ≤ nb) (rb : Nat) (Brb : Hid (Blk wx rb [.int .i64 0, .int .i64 0, .string ⟨#[]⟩])) (hrb : w5.heap.size ≤ rb) (hne : nb ≠ rb), F 8 #[true, true, true, false, false, false, false, false, true, true, false, false, false] (((aP.put (some 43) (.agg #[.int .i64 ck, .int .i64 cs, .int .i64 cq, .string ckey, .string cval])).put (some 10) (.pointer (some ⟨nb, 0, none⟩))).put (some 11) (.pointer (some ⟨rb, 0, none⟩))) wx) := by
    clear st20 st21
    refine Hd ?_
    intro wx HBx OX nb Bnb hnb rb Brb hrb hne
    rw [uh HF, uh HA]
    refine nrm ?_
    refine rdy1 3 rfl (fun K hK => ?_)
    go_simp
    (try dsimp only [V6])
    refine (uh HIM wx p1 p2 p3 _ (uh OX) ((uh KW).trans ((uh HBx).mono (uh KW).size))).mono ?_
    rintro e wy ⟨gla, glc, gka, gkn, gkc, gsa, gsc, rfl, hO, hbs⟩
    dsimp only [Br.key, Br.val, Br.at_, Br.kids] at hO ⊢
    obtain rfl := hO.kn
    have LU := Hd hO.up
    obtain ⟨BW, hBWe⟩ : ∃ BW, BW = wx.heap.size := ⟨_, rfl⟩
    rw [← hBWe] at LU
    have hBW : w5.heap.size ≤ BW := by rw [hBWe]; exact (uh HBx).size
    obtain ⟨MW, hMWe⟩ : ∃ MW, MW = wy.heap.size := ⟨_, rfl⟩
    rw [← hMWe] at LU
    replace LU : Hid (TlU BW MW wy gla glc gka gkc gsa gsc lsN ksN ssN) := LU
    have LOW : Hid (Low MW wy) := Hd (Nat.le_of_eq hMWe)
    have HBWe := Hd hBWe
    clear hO hMWe hBWe
    go_wp2_with fail
    refine outH hK (uh HKS _ (uh (hbtr HBx hbs))) (fun hHeld => ?_)
    clear hK K
    refine tkH 4 rfl ?_
    refine tkH 5 rfl ?_
    refine tkH 6 rfl ?_
    refine tkH 7 rfl ?_
    have fin := uh st201 _ (hbtr HBx hbs) (Hd ((uh OX).below hbs)) gla glc gka gkc gsa gsc BW MW hBW LU LOW nb (Hd ((uh Bnb).below hbs)) hnb (.inl (by rw [uh HBWe]; exact (uh Bnb).1)) rb (Hd ((uh Brb).below hbs)) hrb (.inl (by rw [uh HBWe]; exact (uh Brb).1)) hne
    rw [uh HF, uh HA] at fin
    exact nrmR fin
   have st2 : Hid (∀ (wx : World) (HBx : Hid (Below w5.heap.size w5 wx)) (OX : Hid (LedO w3.heap.size wx (.slice (some ⟨p1, 0, none⟩) ls.length ls.length) (.slice (some ⟨p2, 0, none⟩) ks.length ks.length) (.slice (some ⟨p3, 0, none⟩) ss.length ss.length) ls ks ss)) (gla : Option Addr) (glc : Nat) (gka : Option Addr) (gkc : Nat) (gsa : Option Addr) (gsc : Nat) (BW : Nat) (MW : Nat) (hBW : w5.heap.size ≤ BW) (LU : Hid (TlU BW MW wx gla glc gka gkc gsa gsc lsN ksN ssN)) (LOW : Hid (Low MW wx)), F 5 #[true, true, true, true, true, true, true, true, false, false, false, false, false] ((((((aP.put (some 43) (.agg #[.int .i64 ck, .int .i64 cs, .int .i64 cq, .string ckey, .string cval])).put (some 44) (.tuple #[V6 gla glc gka gkc gsa gsc lsN ksN ssN kN vN aN, V3 r1 r2 r3, .int .i64 code])).put (some 40) (.tuple #[V6 gla glc gka gkc gsa gsc lsN ksN ssN kN vN aN, V3 r1 r2 r3, .int .i64 code])).put (some 45) (V6 gla glc gka gkc gsa gsc lsN ksN ssN kN vN aN)).put (some 46) (V3 r1 r2 r3)).put (some 47) (.int .i64 code)) wx) := by
    clear st201 st101
    refine Hd ?_
    intro wx HBx OX gla glc gka gkc gsa gsc BW MW hBW LU LOW
    rw [uh HF, uh HA]
    refine nrm ?_
    refine rdy2 8 9 rfl rfl (fun K hK => ?_) (fun K hK => ?_)
    ·go_simp
     obtain ⟨hbs, hB⟩ := newBox wx #[.slice none 0 0, .string ⟨#[]⟩, .string ⟨#[]⟩, .int .i64 0, .slice none 0 0, .slice none 0 0] 38
     refine outH hK (uh HKS _ (uh (hbtr HBx hbs))) (fun hHeld => ?_)
     clear hK K
     have fin := uh st20 _ (hbtr HBx hbs) (Hd ((uh OX).below hbs)) gla glc gka gkc gsa gsc BW MW hBW (Hd ((uh LU).below hbs)) (Hd ((uh LOW).below hbs)) wx.heap.size hB (uh HBx).size (.inr (uh LOW))
     rw [uh HF, uh HA] at fin
     exact nrmR fin
    ·go_simp
     obtain ⟨hbs, hB⟩ := newBox wx #[.int .i64 0, .int .i64 0, .string ⟨#[]⟩] 40
     refine outH hK (uh HKS _ (uh (hbtr HBx hbs))) (fun hHeld => ?_)
     clear hK K
     have fin := uh st21 _ (hbtr HBx hbs) (Hd ((uh OX).below hbs)) gla glc gka gkc gsa gsc BW MW hBW (Hd ((uh LU).below hbs)) (Hd ((uh LOW).below hbs)) wx.heap.size hB (uh HBx).size (.inr (uh LOW))
     rw [uh HF, uh HA] at fin
     exact nrmR fin
   have st10 : Hid (∀ (wx : World) (HBx : Hid (Below w5.heap.size w5 wx)) (OX : Hid (LedO w3.heap.size wx (.slice (some ⟨p1, 0, none⟩) ls.length ls.length) (.slice (some ⟨p2, 0, none⟩) ks.length ks.length) (.slice (some ⟨p3, 0, none⟩) ss.length ss.length) ls ks ss)) (nb : Nat) (Bnb : Hid (Blk wx nb [.slice none 0 0, .string ⟨#[]⟩, .string ⟨#[]⟩, .int .i64 0, .slice none 0 0, .slice none 0 0])) (hnb : w5.heap.size ≤ nb), F 9 #[true, true, true, false, false, false, false, false, true, false, false, false, false] ((aP.put (some 43) (.agg #[.int .i64 ck, .int .i64 cs, .int .i64 cq, .string ckey, .string cval])).put (some 10) (.pointer (some ⟨nb, 0, none⟩))) wx) := by
    clear st201 st21 st2
    refine Hd ?_
    intro wx HBx OX nb Bnb hnb
    rw [uh HF, uh HA]
    refine nrm ?_
    refine rdy2 3 9 rfl rfl (fun K hK => ?_) (fun K hK => ?_)
    ·go_simp
     (try dsimp only [V6])
     refine (uh HIM wx p1 p2 p3 _ (uh OX) ((uh KW).trans ((uh HBx).mono (uh KW).size))).mono ?_
     rintro e wy ⟨gla, glc, gka, gkn, gkc, gsa, gsc, rfl, hO, hbs⟩
     dsimp only [Br.key, Br.val, Br.at_, Br.kids] at hO ⊢
     obtain rfl := hO.kn
     have LU := Hd hO.up
     obtain ⟨BW, hBWe⟩ : ∃ BW, BW = wx.heap.size := ⟨_, rfl⟩
     rw [← hBWe] at LU
     have hBW : w5.heap.size ≤ BW := by rw [hBWe]; exact (uh HBx).size
     obtain ⟨MW, hMWe⟩ : ∃ MW, MW = wy.heap.size := ⟨_, rfl⟩
     rw [← hMWe] at LU
     replace LU : Hid (TlU BW MW wy gla glc gka gkc gsa gsc lsN ksN ssN) := LU
     have LOW : Hid (Low MW wy) := Hd (Nat.le_of_eq hMWe)
     have HBWe := Hd hBWe
     clear hO hMWe hBWe
     go_wp2_with fail
     refine outH hK (uh HKS _ (uh (hbtr HBx hbs))) (fun hHeld => ?_)
     clear hK K
     refine tkH 4 rfl ?_
     refine tkH 5 rfl ?_
     refine tkH 6 rfl ?_
     refine tkH 7 rfl ?_
     have fin := uh st20 _ (hbtr HBx hbs) (Hd ((uh OX).below hbs)) gla glc gka gkc gsa gsc BW MW hBW LU LOW nb (Hd ((uh Bnb).below hbs)) hnb (.inl (by rw [uh HBWe]; exact (uh Bnb).1))
     rw [uh HF, uh HA] at fin
     exact nrmR fin
    ·go_simp
     obtain ⟨hbs, hB⟩ := newBox wx #[.int .i64 0, .int .i64 0, .string ⟨#[]⟩] 40
     refine outH hK (uh HKS _ (uh (hbtr HBx hbs))) (fun hHeld => ?_)
     clear hK K
     have fin := uh st101 _ (hbtr HBx hbs) (Hd ((uh OX).below hbs)) nb (Hd ((uh Bnb).below hbs)) hnb wx.heap.size hB (uh HBx).size (fun e => by have := (uh Bnb).1; omega)
     rw [uh HF, uh HA] at fin
     exact nrmR fin
   have st11 : Hid (∀ (wx : World) (HBx : Hid (Below w5.heap.size w5 wx)) (OX : Hid (LedO w3.heap.size wx (.slice (some ⟨p1, 0, none⟩) ls.length ls.length) (.slice (some ⟨p2, 0, none⟩) ks.length ks.length) (.slice (some ⟨p3, 0, none⟩) ss.length ss.length) ls ks ss)) (rb : Nat) (Brb : Hid (Blk wx rb [.int .i64 0, .int .i64 0, .string ⟨#[]⟩])) (hrb : w5.heap.size ≤ rb), F 9 #[true, true, true, false, false, false, false, false, false, true, false, false, false] ((aP.put (some 43) (.agg #[.int .i64 ck, .int .i64 cs, .int .i64 cq, .string ckey, .string cval])).put (some 11) (.pointer (some ⟨rb, 0, none⟩))) wx) := by
    clear st201 st20 st2 st10
    refine Hd ?_
    intro wx HBx OX rb Brb hrb
    rw [uh HF, uh HA]
    refine nrm ?_
    refine rdy2 3 8 rfl rfl (fun K hK => ?_) (fun K hK => ?_)
    ·go_simp
     (try dsimp only [V6])
     refine (uh HIM wx p1 p2 p3 _ (uh OX) ((uh KW).trans ((uh HBx).mono (uh KW).size))).mono ?_
     rintro e wy ⟨gla, glc, gka, gkn, gkc, gsa, gsc, rfl, hO, hbs⟩
     dsimp only [Br.key, Br.val, Br.at_, Br.kids] at hO ⊢
     obtain rfl := hO.kn
     have LU := Hd hO.up
     obtain ⟨BW, hBWe⟩ : ∃ BW, BW = wx.heap.size := ⟨_, rfl⟩
     rw [← hBWe] at LU
     have hBW : w5.heap.size ≤ BW := by rw [hBWe]; exact (uh HBx).size
     obtain ⟨MW, hMWe⟩ : ∃ MW, MW = wy.heap.size := ⟨_, rfl⟩
     rw [← hMWe] at LU
     replace LU : Hid (TlU BW MW wy gla glc gka gkc gsa gsc lsN ksN ssN) := LU
     have LOW : Hid (Low MW wy) := Hd (Nat.le_of_eq hMWe)
     have HBWe := Hd hBWe
     clear hO hMWe hBWe
     go_wp2_with fail
     refine outH hK (uh HKS _ (uh (hbtr HBx hbs))) (fun hHeld => ?_)
     clear hK K
     refine tkH 4 rfl ?_
     refine tkH 5 rfl ?_
     refine tkH 6 rfl ?_
     refine tkH 7 rfl ?_
     have fin := uh st21 _ (hbtr HBx hbs) (Hd ((uh OX).below hbs)) gla glc gka gkc gsa gsc BW MW hBW LU LOW rb (Hd ((uh Brb).below hbs)) hrb (.inl (by rw [uh HBWe]; exact (uh Brb).1))
     rw [uh HF, uh HA] at fin
     exact nrmR fin
    ·go_simp
     obtain ⟨hbs, hB⟩ := newBox wx #[.slice none 0 0, .string ⟨#[]⟩, .string ⟨#[]⟩, .int .i64 0, .slice none 0 0, .slice none 0 0] 38
     refine outH hK (uh HKS _ (uh (hbtr HBx hbs))) (fun hHeld => ?_)
     clear hK K
     have fin := uh st101 _ (hbtr HBx hbs) (Hd ((uh OX).below hbs)) wx.heap.size hB (uh HBx).size rb (Hd ((uh Brb).below hbs)) hrb (fun e => by have := (uh Brb).1; omega)
     rw [uh HF, uh HA] at fin
     exact nrmR fin
   have st001 : Hid (∀ (wx : World) (HBx : Hid (Below w5.heap.size w5 wx)) (OX : Hid (LedO w3.heap.size wx (.slice (some ⟨p1, 0, none⟩) ls.length ls.length) (.slice (some ⟨p2, 0, none⟩) ks.length ks.length) (.slice (some ⟨p3, 0, none⟩) ss.length ss.length) ls ks ss)) (nb : Nat) (Bnb : Hid (Blk wx nb [.slice none 0 0, .string ⟨#[]⟩, .string ⟨#[]⟩, .int .i64 0, .slice none 0 0, .slice none 0 0])) (hnb : w5.heap.size ≤ nb) (rb : Nat) (Brb : Hid (Blk wx rb [.int .i64 0, .int .i64 0, .string ⟨#[]⟩])) (hrb : w5.heap.size ≤ rb) (hne : nb ≠ rb), F 9 #[true, true, false, false, false, false, false, false, true, true, false, false, false] ((aP.put (some 10) (.pointer (some ⟨nb, 0, none⟩))).put (some 11) (.pointer (some ⟨rb, 0, none⟩))) wx) := by
    clear st201 st20 st21 st2 st10 st11
    refine Hd ?_
    intro wx HBx OX nb Bnb hnb rb Brb hrb hne
    rw [uh HF, uh HA]
    refine nrm ?_
    refine rdy1 2 rfl (fun K hK => ?_)
    go_simp
    refine (toCm_any ⟨ck, cs, cq, ckey, cval⟩ wx).mono ?_
    rintro e wy ⟨rfl, hbs⟩
    go_wp2_with fail
    refine outH hK (uh HKS _ (uh (hbtr HBx hbs))) (fun hHeld => ?_)
    clear hK K
    have fin := uh st101 _ (hbtr HBx hbs) (Hd ((uh OX).below hbs)) nb (Hd ((uh Bnb).below hbs)) hnb rb (Hd ((uh Brb).below hbs)) hrb hne
    rw [uh HF, uh HA] at fin
    exact nrmR fin
   have st1 : Hid (∀ (wx : World) (HBx : Hid (Below w5.heap.size w5 wx)) (OX : Hid (LedO w3.heap.size wx (.slice (some ⟨p1, 0, none⟩) ls.length ls.length) (.slice (some ⟨p2, 0, none⟩) ks.length ks.length) (.slice (some ⟨p3, 0, none⟩) ss.length ss.length) ls ks ss)), F 10 #[true, true, true, false, false, false, false, false, false, false, false, false, false] (aP.put (some 43) (.agg #[.int .i64 ck, .int .i64 cs, .int .i64 cq, .string ckey, .string cval])) wx) := by
    clear st201 st20 st21 st101 st001
    refine Hd ?_
    intro wx HBx OX
    rw [uh HF, uh HA]
    refine nrm ?_
    refine rdy3 3 8 9 rfl rfl rfl (fun K hK => ?_) (fun K hK => ?_) (fun K hK => ?_)
    ·go_simp
     (try dsimp only [V6])
     refine (uh HIM wx p1 p2 p3 _ (uh OX) ((uh KW).trans ((uh HBx).mono (uh KW).size))).mono ?_
     rintro e wy ⟨gla, glc, gka, gkn, gkc, gsa, gsc, rfl, hO, hbs⟩
     dsimp only [Br.key, Br.val, Br.at_, Br.kids] at hO ⊢
     obtain rfl := hO.kn
     have LU := Hd hO.up
     obtain ⟨BW, hBWe⟩ : ∃ BW, BW = wx.heap.size := ⟨_, rfl⟩
     rw [← hBWe] at LU
     have hBW : w5.heap.size ≤ BW := by rw [hBWe]; exact (uh HBx).size
     obtain ⟨MW, hMWe⟩ : ∃ MW, MW = wy.heap.size := ⟨_, rfl⟩
     rw [← hMWe] at LU
     replace LU : Hid (TlU BW MW wy gla glc gka gkc gsa gsc lsN ksN ssN) := LU
     have LOW : Hid (Low MW wy) := Hd (Nat.le_of_eq hMWe)
     have HBWe := Hd hBWe
     clear hO hMWe hBWe
     go_wp2_with fail
     refine outH hK (uh HKS _ (uh (hbtr HBx hbs))) (fun hHeld => ?_)
     clear hK K
     refine tkH 4 rfl ?_
     refine tkH 5 rfl ?_
     refine tkH 6 rfl ?_
     refine tkH 7 rfl ?_
     have fin := uh st2 _ (hbtr HBx hbs) (Hd ((uh OX).below hbs)) gla glc gka gkc gsa gsc BW MW hBW LU LOW
     rw [uh HF, uh HA] at fin
     exact nrmR fin
    ·go_simp
     obtain ⟨hbs, hB⟩ := newBox wx #[.slice none 0 0, .string ⟨#[]⟩, .string ⟨#[]⟩, .int .i64 0, .slice none 0 0, .slice none 0 0] 38
     refine outH hK (uh HKS _ (uh (hbtr HBx hbs))) (fun hHeld => ?_)
     clear hK K
     have fin := uh st10 _ (hbtr HBx hbs) (Hd ((uh OX).below hbs)) wx.heap.size hB (uh HBx).size
     rw [uh HF, uh HA] at fin
     exact nrmR fin
    ·go_simp
     obtain ⟨hbs, hB⟩ := newBox wx #[.int .i64 0, .int .i64 0, .string ⟨#[]⟩] 40
     refine outH hK (uh HKS _ (uh (hbtr HBx hbs))) (fun hHeld => ?_)
     clear hK K
     have fin := uh st11 _ (hbtr HBx hbs) (Hd ((uh OX).below hbs)) wx.heap.size hB (uh HBx).size
     rw [uh HF, uh HA] at fin
     exact nrmR fin
   have st00 : Hid (∀ (wx : World) (HBx : Hid (Below w5.heap.size w5 wx)) (OX : Hid (LedO w3.heap.size wx (.slice (some ⟨p1, 0, none⟩) ls.length ls.length) (.slice (some ⟨p2, 0, none⟩) ks.length ks.length) (.slice (some ⟨p3, 0, none⟩) ss.length ss.length) ls ks ss)) (nb : Nat) (Bnb : Hid (Blk wx nb [.slice none 0 0, .string ⟨#[]⟩, .string ⟨#[]⟩, .int .i64 0, .slice none 0 0, .slice none 0 0])) (hnb : w5.heap.size ≤ nb), F 10 #[true, true, false, false, false, false, false, false, true, false, false, false, false] (aP.put (some 10) (.pointer (some ⟨nb, 0, none⟩))) wx) := by
    clear st201 st20 st21 st101 st2 st11 st1
    refine Hd ?_
    intro wx HBx OX nb Bnb hnb
    rw [uh HF, uh HA]
    refine nrm ?_
    refine rdy2 2 9 rfl rfl (fun K hK => ?_) (fun K hK => ?_)
    ·go_simp
     refine (toCm_any ⟨ck, cs, cq, ckey, cval⟩ wx).mono ?_
     rintro e wy ⟨rfl, hbs⟩
     go_wp2_with fail
     refine outH hK (uh HKS _ (uh (hbtr HBx hbs))) (fun hHeld => ?_)
     clear hK K
     have fin := uh st10 _ (hbtr HBx hbs) (Hd ((uh OX).below hbs)) nb (Hd ((uh Bnb).below hbs)) hnb
     rw [uh HF, uh HA] at fin
     exact nrmR fin
    ·go_simp
     obtain ⟨hbs, hB⟩ := newBox wx #[.int .i64 0, .int .i64 0, .string ⟨#[]⟩] 40
     refine outH hK (uh HKS _ (uh (hbtr HBx hbs))) (fun hHeld => ?_)
     clear hK K
     have fin := uh st001 _ (hbtr HBx hbs) (Hd ((uh OX).below hbs)) nb (Hd ((uh Bnb).below hbs)) hnb wx.heap.size hB (uh HBx).size (fun e => by have := (uh Bnb).1; omega)
     rw [uh HF, uh HA] at fin
     exact nrmR fin
   have st01 : Hid (∀ (wx : World) (HBx : Hid (Below w5.heap.size w5 wx)) (OX : Hid (LedO w3.heap.size wx (.slice (some ⟨p1, 0, none⟩) ls.length ls.length) (.slice (some ⟨p2, 0, none⟩) ks.length ks.length) (.slice (some ⟨p3, 0, none⟩) ss.length ss.length) ls ks ss)) (rb : Nat) (Brb : Hid (Blk wx rb [.int .i64 0, .int .i64 0, .string ⟨#[]⟩])) (hrb : w5.heap.size ≤ rb), F 10 #[true, true, false, false, false, false, false, false, false, true, false, false, false] (aP.put (some 11) (.pointer (some ⟨rb, 0, none⟩))) wx) := by
    clear st201 st20 st21 st101 st2 st10 st1 st00
    refine Hd ?_
    intro wx HBx OX rb Brb hrb
    rw [uh HF, uh HA]
    refine nrm ?_
    refine rdy2 2 8 rfl rfl (fun K hK => ?_) (fun K hK => ?_)
    ·go_simp
     refine (toCm_any ⟨ck, cs, cq, ckey, cval⟩ wx).mono ?_
     rintro e wy ⟨rfl, hbs⟩
     go_wp2_with fail
     refine outH hK (uh HKS _ (uh (hbtr HBx hbs))) (fun hHeld => ?_)
     clear hK K
     have fin := uh st11 _ (hbtr HBx hbs) (Hd ((uh OX).below hbs)) rb (Hd ((uh Brb).below hbs)) hrb
     rw [uh HF, uh HA] at fin
     exact nrmR fin
    ·go_simp
     obtain ⟨hbs, hB⟩ := newBox wx #[.slice none 0 0, .string ⟨#[]⟩, .string ⟨#[]⟩, .int .i64 0, .slice none 0 0, .slice none 0 0] 38
     refine outH hK (uh HKS _ (uh (hbtr HBx hbs))) (fun hHeld => ?_)
     clear hK K
     have fin := uh st001 _ (hbtr HBx hbs) (Hd ((uh OX).below hbs)) wx.heap.size hB (uh HBx).size rb (Hd ((uh Brb).below hbs)) hrb (fun e => by have := (uh Brb).1; omega)
     rw [uh HF, uh HA] at fin
     exact nrmR fin
   have st0 : Hid (∀ (wx : World) (HBx : Hid (Below w5.heap.size w5 wx)) (OX : Hid (LedO w3.heap.size wx (.slice (some ⟨p1, 0, none⟩) ls.length ls.length) (.slice (some ⟨p2, 0, none⟩) ks.length ks.length) (.slice (some ⟨p3, 0, none⟩) ss.length ss.length) ls ks ss)), F 11 #[true, true, false, false, false, false, false, false, false, false, false, false, false] aP wx) := by
    clear st201 st20 st21 st101 st2 st10 st11 st001
    refine Hd ?_
    intro wx HBx OX
    rw [uh HF, uh HA]
    refine nrm ?_
    refine rdy3 2 8 9 rfl rfl rfl (fun K hK => ?_) (fun K hK => ?_) (fun K hK => ?_)
    ·go_simp
     refine (toCm_any ⟨ck, cs, cq, ckey, cval⟩ wx).mono ?_
     rintro e wy ⟨rfl, hbs⟩
     go_wp2_with fail
     refine outH hK (uh HKS _ (uh (hbtr HBx hbs))) (fun hHeld => ?_)
     clear hK K
     have fin := uh st1 _ (hbtr HBx hbs) (Hd ((uh OX).below hbs))
     rw [uh HF, uh HA] at fin
     exact nrmR fin
    ·go_simp
     obtain ⟨hbs, hB⟩ := newBox wx #[.slice none 0 0, .string ⟨#[]⟩, .string ⟨#[]⟩, .int .i64 0, .slice none 0 0, .slice none 0 0] 38
     refine outH hK (uh HKS _ (uh (hbtr HBx hbs))) (fun hHeld => ?_)
     clear hK K
     have fin := uh st00 _ (hbtr HBx hbs) (Hd ((uh OX).below hbs)) wx.heap.size hB (uh HBx).size
     rw [uh HF, uh HA] at fin
     exact nrmR fin
    ·go_simp
     obtain ⟨hbs, hB⟩ := newBox wx #[.int .i64 0, .int .i64 0, .string ⟨#[]⟩] 40
     refine outH hK (uh HKS _ (uh (hbtr HBx hbs))) (fun hHeld => ?_)
     clear hK K
     have fin := uh st01 _ (hbtr HBx hbs) (Hd ((uh OX).below hbs)) wx.heap.size hB (uh HBx).size
     rw [uh HF, uh HA] at fin
     exact nrmR fin
   have hdr := below_drewN (Below.refl w5.heap.size w5) 1
   change Below w5.heap.size w5 w5.drew at hdr
   exact uh st0 _ (Hd hdr) (Hd ((uh OX).below hdr))
  case rest =>
   obtain ⟨gb, qb, gla, glc, gka, gkc, gsa, gsc, BG, MG, rfl, rfl, rfl, HG⟩ := hcut
   obtain ⟨w6, hw6e⟩ : ∃ w6, w6 = wc := ⟨_, rfl⟩
   rw [← hw6e] at HG ⊢
   clear hw6e wc
   obtain ⟨hb, hBG, hMG, hgb, hqb, hBn, hBr, hLu⟩ := uh HG
   have hs56 := hb.size
   replace KW := hbt KW hb
   replace XL := Hd ((uh XL).below hb)
   replace XC := Hd ((uh XC).below hb)
   replace XN := Hd ((uh XN).below hb)
   replace XR := Hd ((uh XR).below hb)
   replace LW := Hd ((uh LW).below hb)
   replace XX := Hd ((uh XX).below hb)
   replace LX := Hd ((uh LX).below hb)
   have XG := Hd hBn
   have XQ := Hd hBr
   have LG := Hd hLu
   have LOM : Hid (Low MG w6) := Hd hMG
   clear HG hb hBn hBr hLu a0 a1 a2 a3 a4 a5 b0 b1 b2 b3 b4 hLb hCb OX
   have b3 : (code == code) = true := by simp
   have b4 : (code != code) = false := by simp
   obtain ⟨⟨e0, e1, e2, e3, e4, e5⟩, _⟩ := Blk.c6 (uh XG)
   obtain ⟨⟨f0, f1, f2, f3, f4, f5⟩, _⟩ := Blk.c6 (uh XN)
   go_wp2_with fail
   refine (eqLedger_any lsN kN vN aN ksN ssN _ _ _ _ _ _ _ _ _ _ _ _ w6 (uh LG).led (uh LW).led (uh HN).1 (uh HN).2.2.1).mono ?_
   rintro e w7 ⟨rfl, hb⟩
   replace KW := hbt KW hb
   replace XL := Hd ((uh XL).below hb)
   replace XC := Hd ((uh XC).below hb)
   replace XN := Hd ((uh XN).below hb)
   replace XR := Hd ((uh XR).below hb)
   replace LW := Hd ((uh LW).below hb)
   replace XX := Hd ((uh XX).below hb)
   replace LX := Hd ((uh LX).below hb)
   replace XG := Hd ((uh XG).below hb)
   replace XQ := Hd ((uh XQ).below hb)
   replace LG := Hd ((uh LG).below hb)
   replace LOM := Hd ((uh LOM).below hb)
   clear hb e0 e1 e2 e3 e4 e5 f0 f1 f2 f3 f4 f5
   obtain ⟨⟨e0, e1, e2⟩, _⟩ := Blk.c3 (uh XQ)
   obtain ⟨⟨f0, f1, f2⟩, _⟩ := Blk.c3 (uh XR)
   have HE := Hd (eqReply_any ⟨r1, r2, r3⟩ w7)
   dsimp only at HE
   go_wp2_with fail
   refine (uh HE).mono ?_
   rintro e w8 ⟨rfl, hb⟩
   replace KW := hbt KW hb
   replace XL := Hd ((uh XL).below hb)
   replace XC := Hd ((uh XC).below hb)
   replace XN := Hd ((uh XN).below hb)
   replace XR := Hd ((uh XR).below hb)
   replace LW := Hd ((uh LW).below hb)
   replace XX := Hd ((uh XX).below hb)
   replace LX := Hd ((uh LX).below hb)
   replace XG := Hd ((uh XG).below hb)
   replace XQ := Hd ((uh XQ).below hb)
   replace LG := Hd ((uh LG).below hb)
   replace LOM := Hd ((uh LOM).below hb)
   clear hb e0 e1 e2 f0 f1 f2 HE
   have hLb : w.heap.size < w8.heap.size := (uh XL).1
   have hCb : w.heap.size + 1 < w8.heap.size := (uh XC).1
   have hxl8 : xb < w8.heap.size := (uh XX).1
   obtain ⟨⟨a0, a1, a2, a3, a4, a5⟩, _⟩ := Blk.c6 (uh XL)
   obtain ⟨⟨x0, x1, x2, x3, x4, x5⟩, _⟩ := Blk.c6 (uh XX)
   go_upto_region 13 with fail
   go_cut [67] (fun s wx => s = .bool false ∧ Hid (Below w8.heap.size w8 wx))
   case first =>
    have HKS : Hid (∀ wx, Below w8.heap.size w8 wx → (fun wx => wx.cell? ⟨w.heap.size, 0, none⟩ = some (.slice la ls.length lc) ∧ wx.cell? ⟨w.heap.size, 1, none⟩ = some (.string k) ∧ wx.cell? ⟨w.heap.size, 2, none⟩ = some (.string v) ∧ wx.cell? ⟨w.heap.size, 3, none⟩ = some (.int .i64 a) ∧ wx.cell? ⟨w.heap.size, 4, none⟩ = some (.slice ka ks.length kc) ∧ wx.cell? ⟨w.heap.size, 5, none⟩ = some (.slice sa ss.length sc) ∧ wx.cell? ⟨xb, 0, none⟩ = some (.slice (some ⟨p1, 0, none⟩) ls.length ls.length) ∧ wx.cell? ⟨xb, 1, none⟩ = some (.string k) ∧ wx.cell? ⟨xb, 2, none⟩ = some (.string v) ∧ wx.cell? ⟨xb, 3, none⟩ = some (.int .i64 a) ∧ wx.cell? ⟨xb, 4, none⟩ = some (.slice (some ⟨p2, 0, none⟩) ks.length ks.length) ∧ wx.cell? ⟨xb, 5, none⟩ = some (.slice (some ⟨p3, 0, none⟩) ss.length ss.length)) wx) := Hd (fun wx hx => ⟨(hx.cell (p := ⟨w.heap.size, 0, none⟩) hLb).trans a0, (hx.cell (p := ⟨w.heap.size, 1, none⟩) hLb).trans a1, (hx.cell (p := ⟨w.heap.size, 2, none⟩) hLb).trans a2, (hx.cell (p := ⟨w.heap.size, 3, none⟩) hLb).trans a3, (hx.cell (p := ⟨w.heap.size, 4, none⟩) hLb).trans a4, (hx.cell (p := ⟨w.heap.size, 5, none⟩) hLb).trans a5, (hx.cell (p := ⟨xb, 0, none⟩) hxl8).trans x0, (hx.cell (p := ⟨xb, 1, none⟩) hxl8).trans x1, (hx.cell (p := ⟨xb, 2, none⟩) hxl8).trans x2, (hx.cell (p := ⟨xb, 3, none⟩) hxl8).trans x3, (hx.cell (p := ⟨xb, 4, none⟩) hxl8).trans x4, (hx.cell (p := ⟨xb, 5, none⟩) hxl8).trans x5⟩)
    refine wp_region_noPanic ?_
    refine wp_region_held_drew (S := (fun wx => wx.cell? ⟨w.heap.size, 0, none⟩ = some (.slice la ls.length lc) ∧ wx.cell? ⟨w.heap.size, 1, none⟩ = some (.string k) ∧ wx.cell? ⟨w.heap.size, 2, none⟩ = some (.string v) ∧ wx.cell? ⟨w.heap.size, 3, none⟩ = some (.int .i64 a) ∧ wx.cell? ⟨w.heap.size, 4, none⟩ = some (.slice ka ks.length kc) ∧ wx.cell? ⟨w.heap.size, 5, none⟩ = some (.slice sa ss.length sc) ∧ wx.cell? ⟨xb, 0, none⟩ = some (.slice (some ⟨p1, 0, none⟩) ls.length ls.length) ∧ wx.cell? ⟨xb, 1, none⟩ = some (.string k) ∧ wx.cell? ⟨xb, 2, none⟩ = some (.string v) ∧ wx.cell? ⟨xb, 3, none⟩ = some (.int .i64 a) ∧ wx.cell? ⟨xb, 4, none⟩ = some (.slice (some ⟨p2, 0, none⟩) ks.length ks.length) ∧ wx.cell? ⟨xb, 5, none⟩ = some (.slice (some ⟨p3, 0, none⟩) ss.length ss.length))) (by kernel_rfl) ?_ (fun hHeld => ?_)
    ·exact uh HKS _ (below_drewN (Below.refl _ _) 1)
    refine tkH 0 rfl ?_
    refine tkH 1 rfl ?_
    refine nameAt2 (f := wpAnyH _ _ _ _ _) (x' := 3) (y' := #[true, true, false, false, false]) (by kernel_rfl) (by kernel_rfl) ?_
    intro F aP hF hA
    have HF := Hd hF
    have HA := Hd hA
    clear hF hA hHeld a0 a1 a2 a3 a4 a5 x0 x1 x2 x3 x4 x5
    have st2 : Hid (∀ (wx : World) (HBx : Hid (Below w8.heap.size w8 wx)) (LX : Hid (LedU w3.heap.size xb wx (.slice (some ⟨p1, 0, none⟩) ls.length ls.length) (.slice (some ⟨p2, 0, none⟩) ks.length ks.length) (.slice (some ⟨p3, 0, none⟩) ss.length ss.length) ls ks ss)) (u1 : Nat) (u2 : Nat) (u3 : Nat) (BO : Nat) (OT : Hid (ToO BO wx u1 u2 u3 ls ks ss)), F 0 #[true, true, true, true, true] (((aP.put (some 65) (V6 (some ⟨u1, 0, none⟩) ls.length (some ⟨u2, 0, none⟩) ks.length (some ⟨u3, 0, none⟩) ss.length ls ks ss k v a)).put (some 66) (.bool true)).put (some 67) (.bool false)) wx) := by
     refine Hd ?_
     intro wx HBx LX u1 u2 u3 BO OT
     rw [uh HF, uh HA]
     refine nrm ?_
     refine wpAnyH_done (by kernel_rfl) (NoPanic.normal ?_) _
     go_wp2_with fail
     go_meet
     exact ⟨rfl, HBx⟩
    have st1 : Hid (∀ (wx : World) (HBx : Hid (Below w8.heap.size w8 wx)) (LX : Hid (LedU w3.heap.size xb wx (.slice (some ⟨p1, 0, none⟩) ls.length ls.length) (.slice (some ⟨p2, 0, none⟩) ks.length ks.length) (.slice (some ⟨p3, 0, none⟩) ss.length ss.length) ls ks ss)) (u1 : Nat) (u2 : Nat) (u3 : Nat) (BO : Nat) (OT : Hid (ToO BO wx u1 u2 u3 ls ks ss)), F 2 #[true, true, true, false, false] (aP.put (some 65) (V6 (some ⟨u1, 0, none⟩) ls.length (some ⟨u2, 0, none⟩) ks.length (some ⟨u3, 0, none⟩) ss.length ls ks ss k v a)) wx) := by
     refine Hd ?_
     intro wx HBx LX u1 u2 u3 BO OT
     rw [uh HF, uh HA]
     refine nrm ?_
     refine rdy1 3 rfl (fun K hK => ?_)
     go_simp
     (try dsimp only [V6])
     refine (eqLedger_any ls k v a ks ss _ _ _ _ _ _ _ _ _ _ _ _ wx (uh LX).led (LedO.led (uh OT)) (uh HSM).n1 (uh HSM).n3).mono ?_
     rintro e wy ⟨rfl, hbs⟩
     go_wp2_with fail
     refine outH hK (uh HKS _ (uh (hbtr HBx hbs))) (fun hHeld => ?_)
     clear hK K
     refine tkH 4 rfl ?_
     have fin := uh st2 _ (hbtr HBx hbs) (Hd ((uh LX).below hbs)) u1 u2 u3 BO (Hd ((uh OT).below hbs))
     rw [uh HF, uh HA] at fin
     exact nrmR fin
    have st0 : Hid (∀ (wx : World) (HBx : Hid (Below w8.heap.size w8 wx)) (LX : Hid (LedU w3.heap.size xb wx (.slice (some ⟨p1, 0, none⟩) ls.length ls.length) (.slice (some ⟨p2, 0, none⟩) ks.length ks.length) (.slice (some ⟨p3, 0, none⟩) ss.length ss.length) ls ks ss)), F 3 #[true, true, false, false, false] aP wx) := by
     clear st2
     refine Hd ?_
     intro wx HBx LX
     rw [uh HF, uh HA]
     refine nrm ?_
     refine rdy1 2 rfl (fun K hK => ?_)
     go_simp
     refine (uh HTO wx ((uh KW).trans ((uh HBx).mono (uh KW).size))).mono ?_
     rintro e wy ⟨u1, u2, u3, rfl, hO, hbs⟩
     obtain ⟨BO, hBO⟩ : ∃ BO, BO = wx.heap.size := ⟨_, rfl⟩
     rw [← hBO] at hO
     have OT : Hid (ToO BO wy u1 u2 u3 ls ks ss) := Hd hO
     clear hO hBO
     go_wp2_with fail
     refine outH hK (uh HKS _ (uh (hbtr HBx hbs))) (fun hHeld => ?_)
     clear hK K
     have fin := uh st1 _ (hbtr HBx hbs) (Hd ((uh LX).below hbs)) u1 u2 u3 BO OT
     rw [uh HF, uh HA] at fin
     exact nrmR fin
    have hdr := below_drewN (Below.refl w8.heap.size w8) 1
    change Below w8.heap.size w8 w8.drew at hdr
    exact uh st0 _ (Hd hdr) (Hd ((uh LX).below hdr))
   case rest =>
    obtain ⟨rfl, HG⟩ := hcut
    obtain ⟨w9, hw9e⟩ : ∃ w9, w9 = wc := ⟨_, rfl⟩
    rw [← hw9e] at HG ⊢
    clear hw9e wc
    have hb := uh HG
    replace KW := hbt KW hb
    replace XL := Hd ((uh XL).below hb)
    replace XC := Hd ((uh XC).below hb)
    replace XN := Hd ((uh XN).below hb)
    replace XR := Hd ((uh XR).below hb)
    replace LW := Hd ((uh LW).below hb)
    replace XX := Hd ((uh XX).below hb)
    replace LX := Hd ((uh LX).below hb)
    replace XG := Hd ((uh XG).below hb)
    replace XQ := Hd ((uh XQ).below hb)
    replace LG := Hd ((uh LG).below hb)
    replace LOM := Hd ((uh LOM).below hb)
    clear HG hb a0 a1 a2 a3 a4 a5 x0 x1 x2 x3 x4 x5 hLb hCb hxl8
    have hXs := (uh XX).1
    obtain ⟨⟨x0, x1, x2, x3, x4, x5⟩, _⟩ := Blk.c6 (uh XX)
    have hLBX := (uh XL).1
    have hCBX := (uh XC).1
    go_wp2_with fail
    refine (markLedgerK_any ls k v a ks ss _ _ _ _ _ _ w3.heap.size xb w9 (uh LX) (by omega) (uh HSM).n1 (uh HCX).1 (uh HSM).n3 (uh HCX).2).mono ?_
    rintro e w10 ⟨rfl, _, ht⟩
    replace KW := Hd ((uh KW).trans (ht.below (uh KW).size (fun x hx e => by omega)))
    replace XL := Hd ((uh XL).kept ht (fun e => by omega))
    replace XC := Hd ((uh XC).kept ht (fun e => by omega))
    replace XN := Hd ((uh XN).kept ht (fun e => by omega))
    replace XR := Hd ((uh XR).kept ht (fun e => by omega))
    replace XX := Hd ((uh XX).kept ht (fun e => by omega))
    replace XG := Hd ((uh XG).kept ht (fun e => by omega))
    replace XQ := Hd ((uh XQ).kept ht (fun e => by omega))
    replace LW := Hd ((uh LW).touch ht (fun q h1 h2 e => by omega))
    replace LG := Hd ((uh LG).touch ht (fun q h1 h2 e => by omega))
    replace LOM := Hd (show Low MG w10 from Nat.le_trans (uh LOM) ht.size)
    clear ht x0 x1 x2 x3 x4 x5 LX
    have hk3 : ¬ ((ledC3 ls ks ss : Nat) : Int) < 0 := by omega
    generalize ((ledC3 ls ks ss : Nat) : Int) = kk at *
    obtain ⟨⟨e0, e1, e2, e3, e4, e5⟩, _⟩ := Blk.c6 (uh XG)
    obtain ⟨⟨f0, f1, f2, f3, f4, f5⟩, _⟩ := Blk.c6 (uh XN)
    go_wp2_with fail
    refine (eqLedger_any lsN kN vN aN ksN ssN _ _ _ _ _ _ _ _ _ _ _ _ w10 (uh LG).led (uh LW).led (uh HN).1 (uh HN).2.2.1).mono ?_
    rintro e w11 ⟨rfl, hb⟩
    replace KW := hbt KW hb
    replace XL := Hd ((uh XL).below hb)
    replace XC := Hd ((uh XC).below hb)
    replace XN := Hd ((uh XN).below hb)
    replace XR := Hd ((uh XR).below hb)
    replace LW := Hd ((uh LW).below hb)
    replace XG := Hd ((uh XG).below hb)
    replace XQ := Hd ((uh XQ).below hb)
    replace LG := Hd ((uh LG).below hb)
    replace LOM := Hd ((uh LOM).below hb)
    clear hb e0 e1 e2 e3 e4 e5 f0 f1 f2 f3 f4 f5
    obtain ⟨⟨e0, e1, e2⟩, _⟩ := Blk.c3 (uh XQ)
    obtain ⟨⟨f0, f1, f2⟩, _⟩ := Blk.c3 (uh XR)
    have HE := Hd (eqReply_any ⟨r1, r2, r3⟩ w11)
    dsimp only at HE
    go_wp2_with fail
    refine (uh HE).mono ?_
    rintro e w12 ⟨rfl, hb⟩
    replace KW := hbt KW hb
    replace XL := Hd ((uh XL).below hb)
    replace XC := Hd ((uh XC).below hb)
    replace XN := Hd ((uh XN).below hb)
    replace XR := Hd ((uh XR).below hb)
    replace LW := Hd ((uh LW).below hb)
    replace XG := Hd ((uh XG).below hb)
    replace XQ := Hd ((uh XQ).below hb)
    replace LG := Hd ((uh LG).below hb)
    replace LOM := Hd ((uh LOM).below hb)
    clear hb e0 e1 e2 f0 f1 f2 HE
    have hGs := (uh XG).1
    obtain ⟨⟨x0, x1, x2, x3, x4, x5⟩, _⟩ := Blk.c6 (uh XG)
    go_wp2_with fail
    refine (markLedgerK_any lsN kN vN aN ksN ssN _ _ _ _ _ _ BG MG w12 (uh LG) (uh LOM) (uh HN).1 (uh HN).2.1 (uh HN).2.2.1 (uh HN).2.2.2).mono ?_
    rintro e w13 ⟨rfl, hLK, ht⟩
    have LK := Hd hLK
    replace KW := Hd ((uh KW).trans (ht.below (uh KW).size (fun x hx e => by omega)))
    replace XL := Hd ((uh XL).kept ht (fun e => by omega))
    replace XC := Hd ((uh XC).kept ht (fun e => by omega))
    replace XN := Hd ((uh XN).kept ht (fun e => by omega))
    replace XR := Hd ((uh XR).kept ht (fun e => by omega))
    replace XG := Hd ((uh XG).kept ht (fun e => by omega))
    replace LW := Hd ((uh LW).touch ht (fun q h1 h2 e => by omega))
    clear ht hLK x0 x1 x2 x3 x4 x5 LG XQ
    have HCL : Hid (∀ wx, LedK BG MG wx (.slice gla lsN.length glc) (.slice gka ksN.length gkc) (.slice gsa ssN.length gsc) lsN ksN ssN → Calls Tryz.prog 15 #[.agg #[.slice gla lsN.length glc, .string kN, .string vN, .int .i64 aN, .slice gka ksN.length gkc, .slice gsa ssN.length gsc], .int .i64 1] wx fun e w' => e = .returned (.int .i64 ((ledC3 lsN ksN ssN : Nat) : Int)) ∧ Below wx.heap.size wx w') := Hd (fun wx hx => heldLedger_any lsN kN vN aN ksN ssN _ _ _ _ _ _ BG MG wx hx (uh HN).1 (uh HN).2.1 (uh HN).2.2.1 (uh HN).2.2.2)
    have hm3 : ¬ ((ledC3 lsN ksN ssN : Nat) : Int) < 0 := by omega
    generalize ((ledC3 lsN ksN ssN : Nat) : Int) = mm at *
    have b5 : (mm == mm) = true := by simp
    have b6 : (mm != mm) = false := by simp
    obtain ⟨⟨x0, x1, x2, x3, x4, x5⟩, _⟩ := Blk.c6 (uh XG)
    go_wp2_with fail
    refine (uh HCL w13 (uh LK)).mono ?_
    rintro e w14 ⟨rfl, hb⟩
    replace KW := hbt KW hb
    replace XL := Hd ((uh XL).below hb)
    replace XC := Hd ((uh XC).below hb)
    replace XN := Hd ((uh XN).below hb)
    replace XR := Hd ((uh XR).below hb)
    replace LW := Hd ((uh LW).below hb)
    replace XG := Hd ((uh XG).below hb)
    replace LK := Hd ((uh LK).below hb)
    clear hb x0 x1 x2 x3 x4 x5
    have hLb : w.heap.size < w14.heap.size := (uh XL).1
    have hCb : w.heap.size + 1 < w14.heap.size := (uh XC).1
    obtain ⟨⟨a0, a1, a2, a3, a4, a5⟩, _⟩ := Blk.c6 (uh XL)
    obtain ⟨b0, b1, b2, b3, b4⟩ := Blk.c5 (uh XC)
    go_upto_region 27 with fail
    go_cut [16, 17, 18] (fun s6 s7 s8 wx => ∃ nb rb hla hlc hka hkc hsa hsc BW MW, s6 = .pointer (some ⟨nb, 0, none⟩) ∧ s7 = .pointer (some ⟨rb, 0, none⟩) ∧ s8 = .int .i64 code ∧ Hid (Out3 w14 nb rb [.slice hla lsN.length hlc, .string kN, .string vN, .int .i64 aN, .slice hka ksN.length hkc, .slice hsa ssN.length hsc] [.int .i64 r1, .int .i64 r2, .string r3] (.slice hla lsN.length hlc) (.slice hka ksN.length hkc) (.slice hsa ssN.length hsc) lsN ksN ssN BW MW wx))
    case first =>
     clear hB1 hM1 hn1 hm1 hn1l hm1l XN XR LW LK XG HCL hBG hMG hgb hqb
     have HKS : Hid (∀ wx, Below w14.heap.size w14 wx → (fun wx => wx.cell? ⟨w.heap.size, 0, none⟩ = some (.slice la ls.length lc) ∧ wx.cell? ⟨w.heap.size, 1, none⟩ = some (.string k) ∧ wx.cell? ⟨w.heap.size, 2, none⟩ = some (.string v) ∧ wx.cell? ⟨w.heap.size, 3, none⟩ = some (.int .i64 a) ∧ wx.cell? ⟨w.heap.size, 4, none⟩ = some (.slice ka ks.length kc) ∧ wx.cell? ⟨w.heap.size, 5, none⟩ = some (.slice sa ss.length sc) ∧ wx.cell? ⟨w.heap.size + 1, 0, none⟩ = some (.int .i64 ck) ∧ wx.cell? ⟨w.heap.size + 1, 1, none⟩ = some (.int .i64 cs) ∧ wx.cell? ⟨w.heap.size + 1, 2, none⟩ = some (.int .i64 cq) ∧ wx.cell? ⟨w.heap.size + 1, 3, none⟩ = some (.string ckey) ∧ wx.cell? ⟨w.heap.size + 1, 4, none⟩ = some (.string cval)) wx) := Hd (fun wx hx => ⟨(hx.cell (p := ⟨w.heap.size, 0, none⟩) hLb).trans a0, (hx.cell (p := ⟨w.heap.size, 1, none⟩) hLb).trans a1, (hx.cell (p := ⟨w.heap.size, 2, none⟩) hLb).trans a2, (hx.cell (p := ⟨w.heap.size, 3, none⟩) hLb).trans a3, (hx.cell (p := ⟨w.heap.size, 4, none⟩) hLb).trans a4, (hx.cell (p := ⟨w.heap.size, 5, none⟩) hLb).trans a5, (hx.cell (p := ⟨w.heap.size + 1, 0, none⟩) hCb).trans b0, (hx.cell (p := ⟨w.heap.size + 1, 1, none⟩) hCb).trans b1, (hx.cell (p := ⟨w.heap.size + 1, 2, none⟩) hCb).trans b2, (hx.cell (p := ⟨w.heap.size + 1, 3, none⟩) hCb).trans b3, (hx.cell (p := ⟨w.heap.size + 1, 4, none⟩) hCb).trans b4⟩)
     refine wp_region_noPanic ?_
     refine wp_region_held_drew (S := (fun wx => wx.cell? ⟨w.heap.size, 0, none⟩ = some (.slice la ls.length lc) ∧ wx.cell? ⟨w.heap.size, 1, none⟩ = some (.string k) ∧ wx.cell? ⟨w.heap.size, 2, none⟩ = some (.string v) ∧ wx.cell? ⟨w.heap.size, 3, none⟩ = some (.int .i64 a) ∧ wx.cell? ⟨w.heap.size, 4, none⟩ = some (.slice ka ks.length kc) ∧ wx.cell? ⟨w.heap.size, 5, none⟩ = some (.slice sa ss.length sc) ∧ wx.cell? ⟨w.heap.size + 1, 0, none⟩ = some (.int .i64 ck) ∧ wx.cell? ⟨w.heap.size + 1, 1, none⟩ = some (.int .i64 cs) ∧ wx.cell? ⟨w.heap.size + 1, 2, none⟩ = some (.int .i64 cq) ∧ wx.cell? ⟨w.heap.size + 1, 3, none⟩ = some (.string ckey) ∧ wx.cell? ⟨w.heap.size + 1, 4, none⟩ = some (.string cval))) (by kernel_rfl) ?_ (fun hHeld => ?_)
     ·exact uh HKS _ (below_drewN (Below.refl _ _) 1)
     refine tkH 0 rfl ?_
     refine tkH 2 rfl ?_
     refine nameAt2 (f := wpAnyH _ _ _ _ _) (x' := 12) (y' := #[true, false, true, false, false, false, false, false, false, false, false, false, false, false]) (by kernel_rfl) (by kernel_rfl) ?_
     intro F aP hF hA
     have HF := Hd hF
     have HA := Hd hA
     clear hF hA hHeld a0 a1 a2 a3 a4 a5 b0 b1 b2 b3 b4
     have st301 : Hid (∀ (wx : World) (HBx : Hid (Below w14.heap.size w14 wx)) (u1 : Nat) (u2 : Nat) (u3 : Nat) (BO : Nat) (OT : Hid (ToO BO wx u1 u2 u3 ls ks ss)) (hla : Option Addr) (hlc : Nat) (hka : Option Addr) (hkc : Nat) (hsa : Option Addr) (hsc : Nat) (BW : Nat) (MW : Nat) (hBW : w14.heap.size ≤ BW) (LU : Hid (TlU BW MW wx hla hlc hka hkc hsa hsc lsN ksN ssN)) (LOW : Hid (Low MW wx)) (nb : Nat) (Bnb : Hid (Blk wx nb [.slice none 0 0, .string ⟨#[]⟩, .string ⟨#[]⟩, .int .i64 0, .slice none 0 0, .slice none 0 0])) (hnb : w14.heap.size ≤ nb) (qnb : nb < BW ∨ MW ≤ nb) (rb : Nat) (Brb : Hid (Blk wx rb [.int .i64 0, .int .i64 0, .string ⟨#[]⟩])) (hrb : w14.heap.size ≤ rb) (qrb : rb < BW ∨ MW ≤ rb) (hne : nb ≠ rb), F 3 #[true, true, true, true, true, true, true, true, true, true, true, false, false, false] (((((((((aP.put (some 103) (V6 (some ⟨u1, 0, none⟩) ls.length (some ⟨u2, 0, none⟩) ks.length (some ⟨u3, 0, none⟩) ss.length ls ks ss k v a)).put (some 105) (.agg #[.int .i64 ck, .int .i64 cs, .int .i64 cq, .string ckey, .string cval])).put (some 106) (.tuple #[V6 hla hlc hka hkc hsa hsc lsN ksN ssN kN vN aN, V3 r1 r2 r3, .int .i64 code])).put (some 101) (.tuple #[V6 hla hlc hka hkc hsa hsc lsN ksN ssN kN vN aN, V3 r1 r2 r3, .int .i64 code])).put (some 107) (V6 hla hlc hka hkc hsa hsc lsN ksN ssN kN vN aN)).put (some 108) (V3 r1 r2 r3)).put (some 109) (.int .i64 code)).put (some 16) (.pointer (some ⟨nb, 0, none⟩))).put (some 17) (.pointer (some ⟨rb, 0, none⟩))) wx) := by
      refine Hd ?_
      intro wx HBx u1 u2 u3 BO OT hla hlc hka hkc hsa hsc BW MW hBW LU LOW nb Bnb hnb qnb rb Brb hrb qrb hne
      rw [uh HF, uh HA]
      refine nrm ?_
      dsimp only [V6, V3]
      obtain ⟨⟨c0, c1, c2, c3, c4, c5⟩, g0, g1, g2, g3, g4, g5⟩ := Blk.c6 (uh Bnb)
      obtain ⟨⟨d0, d1, d2⟩, e0, e1, e2⟩ := Blk.c3 (uh Brb)
      have hne2 : rb ≠ nb := fun e => hne e.symm
      have HO := Hd (out3_of hne (uh HBx) hBW (uh LOW) ⟨hnb, qnb⟩ ⟨hrb, qrb⟩ (uh Bnb) (uh Brb) (uh LU) (.slice hla lsN.length hlc) (.string kN) (.string vN) (.int .i64 aN) (.slice hka ksN.length hkc) (.slice hsa ssN.length hsc) (.int .i64 r1) (.int .i64 r2) (.string r3))
      refine rdy1 11 rfl (fun K hK => ?_)
      go_simp
      refine outH hK ?_ (fun hHeld => ?_)
      ·exact uh HKS _ (uh HO).1
      clear hK K
      refine rdy1 12 rfl (fun K hK => ?_)
      go_simp
      refine outH hK ?_ (fun hHeld => ?_)
      ·exact uh HKS _ (uh HO).2.1
      clear hK K
      refine tkH 13 rfl ?_
      refine wpAnyH_done (by kernel_rfl) (NoPanic.normal ?_) _
      clear hHeld
      have HQ := Hd (uh HO).2
      clear HO
      go_wp2_with fail
      go_meet
      exact ⟨nb, rb, _, _, _, _, _, _, BW, MW, rfl, rfl, rfl, HQ⟩
     have st30 : Hid (∀ (wx : World) (HBx : Hid (Below w14.heap.size w14 wx)) (u1 : Nat) (u2 : Nat) (u3 : Nat) (BO : Nat) (OT : Hid (ToO BO wx u1 u2 u3 ls ks ss)) (hla : Option Addr) (hlc : Nat) (hka : Option Addr) (hkc : Nat) (hsa : Option Addr) (hsc : Nat) (BW : Nat) (MW : Nat) (hBW : w14.heap.size ≤ BW) (LU : Hid (TlU BW MW wx hla hlc hka hkc hsa hsc lsN ksN ssN)) (LOW : Hid (Low MW wx)) (nb : Nat) (Bnb : Hid (Blk wx nb [.slice none 0 0, .string ⟨#[]⟩, .string ⟨#[]⟩, .int .i64 0, .slice none 0 0, .slice none 0 0])) (hnb : w14.heap.size ≤ nb) (qnb : nb < BW ∨ MW ≤ nb), F 4 #[true, true, true, true, true, true, true, true, true, true, false, false, false, false] ((((((((aP.put (some 103) (V6 (some ⟨u1, 0, none⟩) ls.length (some ⟨u2, 0, none⟩) ks.length (some ⟨u3, 0, none⟩) ss.length ls ks ss k v a)).put (some 105) (.agg #[.int .i64 ck, .int .i64 cs, .int .i64 cq, .string ckey, .string cval])).put (some 106) (.tuple #[V6 hla hlc hka hkc hsa hsc lsN ksN ssN kN vN aN, V3 r1 r2 r3, .int .i64 code])).put (some 101) (.tuple #[V6 hla hlc hka hkc hsa hsc lsN ksN ssN kN vN aN, V3 r1 r2 r3, .int .i64 code])).put (some 107) (V6 hla hlc hka hkc hsa hsc lsN ksN ssN kN vN aN)).put (some 108) (V3 r1 r2 r3)).put (some 109) (.int .i64 code)).put (some 16) (.pointer (some ⟨nb, 0, none⟩))) wx) := by
      refine Hd ?_
      intro wx HBx u1 u2 u3 BO OT hla hlc hka hkc hsa hsc BW MW hBW LU LOW nb Bnb hnb qnb
      rw [uh HF, uh HA]
      refine nrm ?_
      refine rdy1 10 rfl (fun K hK => ?_)
      go_simp
      obtain ⟨hbs, hB⟩ := newBox wx #[.int .i64 0, .int .i64 0, .string ⟨#[]⟩] 40
      refine outH hK (uh HKS _ (uh (hbtr HBx hbs))) (fun hHeld => ?_)
      clear hK K
      have fin := uh st301 _ (hbtr HBx hbs) u1 u2 u3 BO (Hd ((uh OT).below hbs)) hla hlc hka hkc hsa hsc BW MW hBW (Hd ((uh LU).below hbs)) (Hd ((uh LOW).below hbs)) nb (Hd ((uh Bnb).below hbs)) hnb qnb wx.heap.size hB (uh HBx).size (.inr (uh LOW)) (fun e => by have := (uh Bnb).1; omega)
      rw [uh HF, uh HA] at fin
      exact nrmR fin
     have st31 : Hid (∀ (wx : World) (HBx : Hid (Below w14.heap.size w14 wx)) (u1 : Nat) (u2 : Nat) (u3 : Nat) (BO : Nat) (OT : Hid (ToO BO wx u1 u2 u3 ls ks ss)) (hla : Option Addr) (hlc : Nat) (hka : Option Addr) (hkc : Nat) (hsa : Option Addr) (hsc : Nat) (BW : Nat) (MW : Nat) (hBW : w14.heap.size ≤ BW) (LU : Hid (TlU BW MW wx hla hlc hka hkc hsa hsc lsN ksN ssN)) (LOW : Hid (Low MW wx)) (rb : Nat) (Brb : Hid (Blk wx rb [.int .i64 0, .int .i64 0, .string ⟨#[]⟩])) (hrb : w14.heap.size ≤ rb) (qrb : rb < BW ∨ MW ≤ rb), F 4 #[true, true, true, true, true, true, true, true, true, false, true, false, false, false] ((((((((aP.put (some 103) (V6 (some ⟨u1, 0, none⟩) ls.length (some ⟨u2, 0, none⟩) ks.length (some ⟨u3, 0, none⟩) ss.length ls ks ss k v a)).put (some 105) (.agg #[.int .i64 ck, .int .i64 cs, .int .i64 cq, .string ckey, .string cval])).put (some 106) (.tuple #[V6 hla hlc hka hkc hsa hsc lsN ksN ssN kN vN aN, V3 r1 r2 r3, .int .i64 code])).put (some 101) (.tuple #[V6 hla hlc hka hkc hsa hsc lsN ksN ssN kN vN aN, V3 r1 r2 r3, .int .i64 code])).put (some 107) (V6 hla hlc hka hkc hsa hsc lsN ksN ssN kN vN aN)).put (some 108) (V3 r1 r2 r3)).put (some 109) (.int .i64 code)).put (some 17) (.pointer (some ⟨rb, 0, none⟩))) wx) := by
      clear st30
      refine Hd ?_
      intro wx HBx u1 u2 u3 BO OT hla hlc hka hkc hsa hsc BW MW hBW LU LOW rb Brb hrb qrb
      rw [uh HF, uh HA]
      refine nrm ?_
      refine rdy1 9 rfl (fun K hK => ?_)
      go_simp
      obtain ⟨hbs, hB⟩ := newBox wx #[.slice none 0 0, .string ⟨#[]⟩, .string ⟨#[]⟩, .int .i64 0, .slice none 0 0, .slice none 0 0] 38
      refine outH hK (uh HKS _ (uh (hbtr HBx hbs))) (fun hHeld => ?_)
      clear hK K
      have fin := uh st301 _ (hbtr HBx hbs) u1 u2 u3 BO (Hd ((uh OT).below hbs)) hla hlc hka hkc hsa hsc BW MW hBW (Hd ((uh LU).below hbs)) (Hd ((uh LOW).below hbs)) wx.heap.size hB (uh HBx).size (.inr (uh LOW)) rb (Hd ((uh Brb).below hbs)) hrb qrb (fun e => by have := (uh Brb).1; omega)
      rw [uh HF, uh HA] at fin
      exact nrmR fin
     have st201 : Hid (∀ (wx : World) (HBx : Hid (Below w14.heap.size w14 wx)) (u1 : Nat) (u2 : Nat) (u3 : Nat) (BO : Nat) (OT : Hid (ToO BO wx u1 u2 u3 ls ks ss)) (nb : Nat) (Bnb : Hid (Blk wx nb [.slice none 0 0, .string ⟨#[]⟩, .string ⟨#[]⟩, .int .i64 0, .slice none 0 0, .slice none 0 0])) (hnb : w14.heap.size ≤ nb) (rb : Nat) (Brb : Hid (Blk wx rb [.int .i64 0, .int .i64 0, .string ⟨#[]⟩])) (hrb : w14.heap.size ≤ rb) (hne : nb ≠ rb), F 8 #[true, true, true, true, false, false, false, false, false, true, true, false, false, false] ((((aP.put (some 103) (V6 (some ⟨u1, 0, none⟩) ls.length (some ⟨u2, 0, none⟩) ks.length (some ⟨u3, 0, none⟩) ss.length ls ks ss k v a)).put (some 105) (.agg #[.int .i64 ck, .int .i64 cs, .int .i64 cq, .string ckey, .string cval])).put (some 16) (.pointer (some ⟨nb, 0, none⟩))).put (some 17) (.pointer (some ⟨rb, 0, none⟩))) wx) := by
      clear st30 st31
      refine Hd ?_
      intro wx HBx u1 u2 u3 BO OT nb Bnb hnb rb Brb hrb hne
      rw [uh HF, uh HA]
      refine nrm ?_
      refine rdy1 4 rfl (fun K hK => ?_)
      go_simp
      (try dsimp only [V6])
      refine (uh HIM wx u1 u2 u3 _ (uh OT) ((uh KW).trans ((uh HBx).mono (uh KW).size))).mono ?_
      rintro e wy ⟨hla, hlc, hka, hkn, hkc, hsa, hsc, rfl, hO, hbs⟩
      dsimp only [Br.key, Br.val, Br.at_, Br.kids] at hO ⊢
      obtain rfl := hO.kn
      have LU := Hd hO.up
      obtain ⟨BW, hBWe⟩ : ∃ BW, BW = wx.heap.size := ⟨_, rfl⟩
      rw [← hBWe] at LU
      have hBW : w14.heap.size ≤ BW := by rw [hBWe]; exact (uh HBx).size
      obtain ⟨MW, hMWe⟩ : ∃ MW, MW = wy.heap.size := ⟨_, rfl⟩
      rw [← hMWe] at LU
      replace LU : Hid (TlU BW MW wy hla hlc hka hkc hsa hsc lsN ksN ssN) := LU
      have LOW : Hid (Low MW wy) := Hd (Nat.le_of_eq hMWe)
      have HBWe := Hd hBWe
      clear hO hMWe hBWe
      go_wp2_with fail
      refine outH hK (uh HKS _ (uh (hbtr HBx hbs))) (fun hHeld => ?_)
      clear hK K
      refine tkH 5 rfl ?_
      refine tkH 6 rfl ?_
      refine tkH 7 rfl ?_
      refine tkH 8 rfl ?_
      have fin := uh st301 _ (hbtr HBx hbs) u1 u2 u3 BO (Hd ((uh OT).below hbs)) hla hlc hka hkc hsa hsc BW MW hBW LU LOW nb (Hd ((uh Bnb).below hbs)) hnb (.inl (by rw [uh HBWe]; exact (uh Bnb).1)) rb (Hd ((uh Brb).below hbs)) hrb (.inl (by rw [uh HBWe]; exact (uh Brb).1)) hne
      rw [uh HF, uh HA] at fin
      exact nrmR fin
     have st3 : Hid (∀ (wx : World) (HBx : Hid (Below w14.heap.size w14 wx)) (u1 : Nat) (u2 : Nat) (u3 : Nat) (BO : Nat) (OT : Hid (ToO BO wx u1 u2 u3 ls ks ss)) (hla : Option Addr) (hlc : Nat) (hka : Option Addr) (hkc : Nat) (hsa : Option Addr) (hsc : Nat) (BW : Nat) (MW : Nat) (hBW : w14.heap.size ≤ BW) (LU : Hid (TlU BW MW wx hla hlc hka hkc hsa hsc lsN ksN ssN)) (LOW : Hid (Low MW wx)), F 5 #[true, true, true, true, true, true, true, true, true, false, false, false, false, false] (((((((aP.put (some 103) (V6 (some ⟨u1, 0, none⟩) ls.length (some ⟨u2, 0, none⟩) ks.length (some ⟨u3, 0, none⟩) ss.length ls ks ss k v a)).put (some 105) (.agg #[.int .i64 ck, .int .i64 cs, .int .i64 cq, .string ckey, .string cval])).put (some 106) (.tuple #[V6 hla hlc hka hkc hsa hsc lsN ksN ssN kN vN aN, V3 r1 r2 r3, .int .i64 code])).put (some 101) (.tuple #[V6 hla hlc hka hkc hsa hsc lsN ksN ssN kN vN aN, V3 r1 r2 r3, .int .i64 code])).put (some 107) (V6 hla hlc hka hkc hsa hsc lsN ksN ssN kN vN aN)).put (some 108) (V3 r1 r2 r3)).put (some 109) (.int .i64 code)) wx) := by
      clear st301 st201
      refine Hd ?_
      intro wx HBx u1 u2 u3 BO OT hla hlc hka hkc hsa hsc BW MW hBW LU LOW
      rw [uh HF, uh HA]
      refine nrm ?_
      refine rdy2 9 10 rfl rfl (fun K hK => ?_) (fun K hK => ?_)
      ·go_simp
       obtain ⟨hbs, hB⟩ := newBox wx #[.slice none 0 0, .string ⟨#[]⟩, .string ⟨#[]⟩, .int .i64 0, .slice none 0 0, .slice none 0 0] 38
       refine outH hK (uh HKS _ (uh (hbtr HBx hbs))) (fun hHeld => ?_)
       clear hK K
       have fin := uh st30 _ (hbtr HBx hbs) u1 u2 u3 BO (Hd ((uh OT).below hbs)) hla hlc hka hkc hsa hsc BW MW hBW (Hd ((uh LU).below hbs)) (Hd ((uh LOW).below hbs)) wx.heap.size hB (uh HBx).size (.inr (uh LOW))
       rw [uh HF, uh HA] at fin
       exact nrmR fin
      ·go_simp
       obtain ⟨hbs, hB⟩ := newBox wx #[.int .i64 0, .int .i64 0, .string ⟨#[]⟩] 40
       refine outH hK (uh HKS _ (uh (hbtr HBx hbs))) (fun hHeld => ?_)
       clear hK K
       have fin := uh st31 _ (hbtr HBx hbs) u1 u2 u3 BO (Hd ((uh OT).below hbs)) hla hlc hka hkc hsa hsc BW MW hBW (Hd ((uh LU).below hbs)) (Hd ((uh LOW).below hbs)) wx.heap.size hB (uh HBx).size (.inr (uh LOW))
       rw [uh HF, uh HA] at fin
       exact nrmR fin
     have st20 : Hid (∀ (wx : World) (HBx : Hid (Below w14.heap.size w14 wx)) (u1 : Nat) (u2 : Nat) (u3 : Nat) (BO : Nat) (OT : Hid (ToO BO wx u1 u2 u3 ls ks ss)) (nb : Nat) (Bnb : Hid (Blk wx nb [.slice none 0 0, .string ⟨#[]⟩, .string ⟨#[]⟩, .int .i64 0, .slice none 0 0, .slice none 0 0])) (hnb : w14.heap.size ≤ nb), F 9 #[true, true, true, true, false, false, false, false, false, true, false, false, false, false] (((aP.put (some 103) (V6 (some ⟨u1, 0, none⟩) ls.length (some ⟨u2, 0, none⟩) ks.length (some ⟨u3, 0, none⟩) ss.length ls ks ss k v a)).put (some 105) (.agg #[.int .i64 ck, .int .i64 cs, .int .i64 cq, .string ckey, .string cval])).put (some 16) (.pointer (some ⟨nb, 0, none⟩))) wx) := by
      clear st301 st31 st3
      refine Hd ?_
      intro wx HBx u1 u2 u3 BO OT nb Bnb hnb
      rw [uh HF, uh HA]
      refine nrm ?_
      refine rdy2 4 10 rfl rfl (fun K hK => ?_) (fun K hK => ?_)
      ·go_simp
       (try dsimp only [V6])
       refine (uh HIM wx u1 u2 u3 _ (uh OT) ((uh KW).trans ((uh HBx).mono (uh KW).size))).mono ?_
       rintro e wy ⟨hla, hlc, hka, hkn, hkc, hsa, hsc, rfl, hO, hbs⟩
       dsimp only [Br.key, Br.val, Br.at_, Br.kids] at hO ⊢
       obtain rfl := hO.kn
       have LU := Hd hO.up
       obtain ⟨BW, hBWe⟩ : ∃ BW, BW = wx.heap.size := ⟨_, rfl⟩
       rw [← hBWe] at LU
       have hBW : w14.heap.size ≤ BW := by rw [hBWe]; exact (uh HBx).size
       obtain ⟨MW, hMWe⟩ : ∃ MW, MW = wy.heap.size := ⟨_, rfl⟩
       rw [← hMWe] at LU
       replace LU : Hid (TlU BW MW wy hla hlc hka hkc hsa hsc lsN ksN ssN) := LU
       have LOW : Hid (Low MW wy) := Hd (Nat.le_of_eq hMWe)
       have HBWe := Hd hBWe
       clear hO hMWe hBWe
       go_wp2_with fail
       refine outH hK (uh HKS _ (uh (hbtr HBx hbs))) (fun hHeld => ?_)
       clear hK K
       refine tkH 5 rfl ?_
       refine tkH 6 rfl ?_
       refine tkH 7 rfl ?_
       refine tkH 8 rfl ?_
       have fin := uh st30 _ (hbtr HBx hbs) u1 u2 u3 BO (Hd ((uh OT).below hbs)) hla hlc hka hkc hsa hsc BW MW hBW LU LOW nb (Hd ((uh Bnb).below hbs)) hnb (.inl (by rw [uh HBWe]; exact (uh Bnb).1))
       rw [uh HF, uh HA] at fin
       exact nrmR fin
      ·go_simp
       obtain ⟨hbs, hB⟩ := newBox wx #[.int .i64 0, .int .i64 0, .string ⟨#[]⟩] 40
       refine outH hK (uh HKS _ (uh (hbtr HBx hbs))) (fun hHeld => ?_)
       clear hK K
       have fin := uh st201 _ (hbtr HBx hbs) u1 u2 u3 BO (Hd ((uh OT).below hbs)) nb (Hd ((uh Bnb).below hbs)) hnb wx.heap.size hB (uh HBx).size (fun e => by have := (uh Bnb).1; omega)
       rw [uh HF, uh HA] at fin
       exact nrmR fin
     have st21 : Hid (∀ (wx : World) (HBx : Hid (Below w14.heap.size w14 wx)) (u1 : Nat) (u2 : Nat) (u3 : Nat) (BO : Nat) (OT : Hid (ToO BO wx u1 u2 u3 ls ks ss)) (rb : Nat) (Brb : Hid (Blk wx rb [.int .i64 0, .int .i64 0, .string ⟨#[]⟩])) (hrb : w14.heap.size ≤ rb), F 9 #[true, true, true, true, false, false, false, false, false, false, true, false, false, false] (((aP.put (some 103) (V6 (some ⟨u1, 0, none⟩) ls.length (some ⟨u2, 0, none⟩) ks.length (some ⟨u3, 0, none⟩) ss.length ls ks ss k v a)).put (some 105) (.agg #[.int .i64 ck, .int .i64 cs, .int .i64 cq, .string ckey, .string cval])).put (some 17) (.pointer (some ⟨rb, 0, none⟩))) wx) := by
      clear st301 st30 st3 st20
      refine Hd ?_
      intro wx HBx u1 u2 u3 BO OT rb Brb hrb
      rw [uh HF, uh HA]
      refine nrm ?_
      refine rdy2 4 9 rfl rfl (fun K hK => ?_) (fun K hK => ?_)
      ·go_simp
       (try dsimp only [V6])
       refine (uh HIM wx u1 u2 u3 _ (uh OT) ((uh KW).trans ((uh HBx).mono (uh KW).size))).mono ?_
       rintro e wy ⟨hla, hlc, hka, hkn, hkc, hsa, hsc, rfl, hO, hbs⟩
       dsimp only [Br.key, Br.val, Br.at_, Br.kids] at hO ⊢
       obtain rfl := hO.kn
       have LU := Hd hO.up
       obtain ⟨BW, hBWe⟩ : ∃ BW, BW = wx.heap.size := ⟨_, rfl⟩
       rw [← hBWe] at LU
       have hBW : w14.heap.size ≤ BW := by rw [hBWe]; exact (uh HBx).size
       obtain ⟨MW, hMWe⟩ : ∃ MW, MW = wy.heap.size := ⟨_, rfl⟩
       rw [← hMWe] at LU
       replace LU : Hid (TlU BW MW wy hla hlc hka hkc hsa hsc lsN ksN ssN) := LU
       have LOW : Hid (Low MW wy) := Hd (Nat.le_of_eq hMWe)
       have HBWe := Hd hBWe
       clear hO hMWe hBWe
       go_wp2_with fail
       refine outH hK (uh HKS _ (uh (hbtr HBx hbs))) (fun hHeld => ?_)
       clear hK K
       refine tkH 5 rfl ?_
       refine tkH 6 rfl ?_
       refine tkH 7 rfl ?_
       refine tkH 8 rfl ?_
       have fin := uh st31 _ (hbtr HBx hbs) u1 u2 u3 BO (Hd ((uh OT).below hbs)) hla hlc hka hkc hsa hsc BW MW hBW LU LOW rb (Hd ((uh Brb).below hbs)) hrb (.inl (by rw [uh HBWe]; exact (uh Brb).1))
       rw [uh HF, uh HA] at fin
       exact nrmR fin
      ·go_simp
       obtain ⟨hbs, hB⟩ := newBox wx #[.slice none 0 0, .string ⟨#[]⟩, .string ⟨#[]⟩, .int .i64 0, .slice none 0 0, .slice none 0 0] 38
       refine outH hK (uh HKS _ (uh (hbtr HBx hbs))) (fun hHeld => ?_)
       clear hK K
       have fin := uh st201 _ (hbtr HBx hbs) u1 u2 u3 BO (Hd ((uh OT).below hbs)) wx.heap.size hB (uh HBx).size rb (Hd ((uh Brb).below hbs)) hrb (fun e => by have := (uh Brb).1; omega)
       rw [uh HF, uh HA] at fin
       exact nrmR fin
     have st101 : Hid (∀ (wx : World) (HBx : Hid (Below w14.heap.size w14 wx)) (u1 : Nat) (u2 : Nat) (u3 : Nat) (BO : Nat) (OT : Hid (ToO BO wx u1 u2 u3 ls ks ss)) (nb : Nat) (Bnb : Hid (Blk wx nb [.slice none 0 0, .string ⟨#[]⟩, .string ⟨#[]⟩, .int .i64 0, .slice none 0 0, .slice none 0 0])) (hnb : w14.heap.size ≤ nb) (rb : Nat) (Brb : Hid (Blk wx rb [.int .i64 0, .int .i64 0, .string ⟨#[]⟩])) (hrb : w14.heap.size ≤ rb) (hne : nb ≠ rb), F 9 #[true, true, true, false, false, false, false, false, false, true, true, false, false, false] (((aP.put (some 103) (V6 (some ⟨u1, 0, none⟩) ls.length (some ⟨u2, 0, none⟩) ks.length (some ⟨u3, 0, none⟩) ss.length ls ks ss k v a)).put (some 16) (.pointer (some ⟨nb, 0, none⟩))).put (some 17) (.pointer (some ⟨rb, 0, none⟩))) wx) := by
      clear st301 st30 st31 st3 st20 st21
      refine Hd ?_
      intro wx HBx u1 u2 u3 BO OT nb Bnb hnb rb Brb hrb hne
      rw [uh HF, uh HA]
      refine nrm ?_
      refine rdy1 3 rfl (fun K hK => ?_)
      go_simp
      refine (toCm_any ⟨ck, cs, cq, ckey, cval⟩ wx).mono ?_
      rintro e wy ⟨rfl, hbs⟩
      go_wp2_with fail
      refine outH hK (uh HKS _ (uh (hbtr HBx hbs))) (fun hHeld => ?_)
      clear hK K
      have fin := uh st201 _ (hbtr HBx hbs) u1 u2 u3 BO (Hd ((uh OT).below hbs)) nb (Hd ((uh Bnb).below hbs)) hnb rb (Hd ((uh Brb).below hbs)) hrb hne
      rw [uh HF, uh HA] at fin
      exact nrmR fin
     have st2 : Hid (∀ (wx : World) (HBx : Hid (Below w14.heap.size w14 wx)) (u1 : Nat) (u2 : Nat) (u3 : Nat) (BO : Nat) (OT : Hid (ToO BO wx u1 u2 u3 ls ks ss)), F 10 #[true, true, true, true, false, false, false, false, false, false, false, false, false, false] ((aP.put (some 103) (V6 (some ⟨u1, 0, none⟩) ls.length (some ⟨u2, 0, none⟩) ks.length (some ⟨u3, 0, none⟩) ss.length ls ks ss k v a)).put (some 105) (.agg #[.int .i64 ck, .int .i64 cs, .int .i64 cq, .string ckey, .string cval])) wx) := by
      clear st301 st30 st31 st201 st101
      refine Hd ?_
      intro wx HBx u1 u2 u3 BO OT
      rw [uh HF, uh HA]
      refine nrm ?_
      refine rdy3 4 9 10 rfl rfl rfl (fun K hK => ?_) (fun K hK => ?_) (fun K hK => ?_)
      ·go_simp
       (try dsimp only [V6])
       refine (uh HIM wx u1 u2 u3 _ (uh OT) ((uh KW).trans ((uh HBx).mono (uh KW).size))).mono ?_
       rintro e wy ⟨hla, hlc, hka, hkn, hkc, hsa, hsc, rfl, hO, hbs⟩
       dsimp only [Br.key, Br.val, Br.at_, Br.kids] at hO ⊢
       obtain rfl := hO.kn
       have LU := Hd hO.up
       obtain ⟨BW, hBWe⟩ : ∃ BW, BW = wx.heap.size := ⟨_, rfl⟩
       rw [← hBWe] at LU
       have hBW : w14.heap.size ≤ BW := by rw [hBWe]; exact (uh HBx).size
       obtain ⟨MW, hMWe⟩ : ∃ MW, MW = wy.heap.size := ⟨_, rfl⟩
       rw [← hMWe] at LU
       replace LU : Hid (TlU BW MW wy hla hlc hka hkc hsa hsc lsN ksN ssN) := LU
       have LOW : Hid (Low MW wy) := Hd (Nat.le_of_eq hMWe)
       have HBWe := Hd hBWe
       clear hO hMWe hBWe
       go_wp2_with fail
       refine outH hK (uh HKS _ (uh (hbtr HBx hbs))) (fun hHeld => ?_)
       clear hK K
       refine tkH 5 rfl ?_
       refine tkH 6 rfl ?_
       refine tkH 7 rfl ?_
       refine tkH 8 rfl ?_
       have fin := uh st3 _ (hbtr HBx hbs) u1 u2 u3 BO (Hd ((uh OT).below hbs)) hla hlc hka hkc hsa hsc BW MW hBW LU LOW
       rw [uh HF, uh HA] at fin
       exact nrmR fin
      ·go_simp
       obtain ⟨hbs, hB⟩ := newBox wx #[.slice none 0 0, .string ⟨#[]⟩, .string ⟨#[]⟩, .int .i64 0, .slice none 0 0, .slice none 0 0] 38
       refine outH hK (uh HKS _ (uh (hbtr HBx hbs))) (fun hHeld => ?_)
       clear hK K
       have fin := uh st20 _ (hbtr HBx hbs) u1 u2 u3 BO (Hd ((uh OT).below hbs)) wx.heap.size hB (uh HBx).size
       rw [uh HF, uh HA] at fin
       exact nrmR fin
      ·go_simp
       obtain ⟨hbs, hB⟩ := newBox wx #[.int .i64 0, .int .i64 0, .string ⟨#[]⟩] 40
       refine outH hK (uh HKS _ (uh (hbtr HBx hbs))) (fun hHeld => ?_)
       clear hK K
       have fin := uh st21 _ (hbtr HBx hbs) u1 u2 u3 BO (Hd ((uh OT).below hbs)) wx.heap.size hB (uh HBx).size
       rw [uh HF, uh HA] at fin
       exact nrmR fin
     have st10 : Hid (∀ (wx : World) (HBx : Hid (Below w14.heap.size w14 wx)) (u1 : Nat) (u2 : Nat) (u3 : Nat) (BO : Nat) (OT : Hid (ToO BO wx u1 u2 u3 ls ks ss)) (nb : Nat) (Bnb : Hid (Blk wx nb [.slice none 0 0, .string ⟨#[]⟩, .string ⟨#[]⟩, .int .i64 0, .slice none 0 0, .slice none 0 0])) (hnb : w14.heap.size ≤ nb), F 10 #[true, true, true, false, false, false, false, false, false, true, false, false, false, false] ((aP.put (some 103) (V6 (some ⟨u1, 0, none⟩) ls.length (some ⟨u2, 0, none⟩) ks.length (some ⟨u3, 0, none⟩) ss.length ls ks ss k v a)).put (some 16) (.pointer (some ⟨nb, 0, none⟩))) wx) := by
      clear st301 st30 st31 st201 st3 st21 st2
      refine Hd ?_
      intro wx HBx u1 u2 u3 BO OT nb Bnb hnb
      rw [uh HF, uh HA]
      refine nrm ?_
      refine rdy2 3 10 rfl rfl (fun K hK => ?_) (fun K hK => ?_)
      ·go_simp
       refine (toCm_any ⟨ck, cs, cq, ckey, cval⟩ wx).mono ?_
       rintro e wy ⟨rfl, hbs⟩
       go_wp2_with fail
       refine outH hK (uh HKS _ (uh (hbtr HBx hbs))) (fun hHeld => ?_)
       clear hK K
       have fin := uh st20 _ (hbtr HBx hbs) u1 u2 u3 BO (Hd ((uh OT).below hbs)) nb (Hd ((uh Bnb).below hbs)) hnb
       rw [uh HF, uh HA] at fin
       exact nrmR fin
      ·go_simp
       obtain ⟨hbs, hB⟩ := newBox wx #[.int .i64 0, .int .i64 0, .string ⟨#[]⟩] 40
       refine outH hK (uh HKS _ (uh (hbtr HBx hbs))) (fun hHeld => ?_)
       clear hK K
       have fin := uh st101 _ (hbtr HBx hbs) u1 u2 u3 BO (Hd ((uh OT).below hbs)) nb (Hd ((uh Bnb).below hbs)) hnb wx.heap.size hB (uh HBx).size (fun e => by have := (uh Bnb).1; omega)
       rw [uh HF, uh HA] at fin
       exact nrmR fin
     have st11 : Hid (∀ (wx : World) (HBx : Hid (Below w14.heap.size w14 wx)) (u1 : Nat) (u2 : Nat) (u3 : Nat) (BO : Nat) (OT : Hid (ToO BO wx u1 u2 u3 ls ks ss)) (rb : Nat) (Brb : Hid (Blk wx rb [.int .i64 0, .int .i64 0, .string ⟨#[]⟩])) (hrb : w14.heap.size ≤ rb), F 10 #[true, true, true, false, false, false, false, false, false, false, true, false, false, false] ((aP.put (some 103) (V6 (some ⟨u1, 0, none⟩) ls.length (some ⟨u2, 0, none⟩) ks.length (some ⟨u3, 0, none⟩) ss.length ls ks ss k v a)).put (some 17) (.pointer (some ⟨rb, 0, none⟩))) wx) := by
      clear st301 st30 st31 st201 st3 st20 st2 st10
      refine Hd ?_
      intro wx HBx u1 u2 u3 BO OT rb Brb hrb
      rw [uh HF, uh HA]
      refine nrm ?_
      refine rdy2 3 9 rfl rfl (fun K hK => ?_) (fun K hK => ?_)
      ·go_simp
       refine (toCm_any ⟨ck, cs, cq, ckey, cval⟩ wx).mono ?_
       rintro e wy ⟨rfl, hbs⟩
       go_wp2_with fail
       refine outH hK (uh HKS _ (uh (hbtr HBx hbs))) (fun hHeld => ?_)
       clear hK K
       have fin := uh st21 _ (hbtr HBx hbs) u1 u2 u3 BO (Hd ((uh OT).below hbs)) rb (Hd ((uh Brb).below hbs)) hrb
       rw [uh HF, uh HA] at fin
       exact nrmR fin
      ·go_simp
       obtain ⟨hbs, hB⟩ := newBox wx #[.slice none 0 0, .string ⟨#[]⟩, .string ⟨#[]⟩, .int .i64 0, .slice none 0 0, .slice none 0 0] 38
       refine outH hK (uh HKS _ (uh (hbtr HBx hbs))) (fun hHeld => ?_)
       clear hK K
       have fin := uh st101 _ (hbtr HBx hbs) u1 u2 u3 BO (Hd ((uh OT).below hbs)) wx.heap.size hB (uh HBx).size rb (Hd ((uh Brb).below hbs)) hrb (fun e => by have := (uh Brb).1; omega)
       rw [uh HF, uh HA] at fin
       exact nrmR fin
     have st001 : Hid (∀ (wx : World) (HBx : Hid (Below w14.heap.size w14 wx)) (nb : Nat) (Bnb : Hid (Blk wx nb [.slice none 0 0, .string ⟨#[]⟩, .string ⟨#[]⟩, .int .i64 0, .slice none 0 0, .slice none 0 0])) (hnb : w14.heap.size ≤ nb) (rb : Nat) (Brb : Hid (Blk wx rb [.int .i64 0, .int .i64 0, .string ⟨#[]⟩])) (hrb : w14.heap.size ≤ rb) (hne : nb ≠ rb), F 10 #[true, false, true, false, false, false, false, false, false, true, true, false, false, false] ((aP.put (some 16) (.pointer (some ⟨nb, 0, none⟩))).put (some 17) (.pointer (some ⟨rb, 0, none⟩))) wx) := by
      clear st301 st30 st31 st201 st3 st20 st21 st2 st10 st11
      refine Hd ?_
      intro wx HBx nb Bnb hnb rb Brb hrb hne
      rw [uh HF, uh HA]
      refine nrm ?_
      refine rdy1 1 rfl (fun K hK => ?_)
      go_simp
      refine (uh HTO wx ((uh KW).trans ((uh HBx).mono (uh KW).size))).mono ?_
      rintro e wy ⟨u1, u2, u3, rfl, hO, hbs⟩
      obtain ⟨BO, hBO⟩ : ∃ BO, BO = wx.heap.size := ⟨_, rfl⟩
      rw [← hBO] at hO
      have OT : Hid (ToO BO wy u1 u2 u3 ls ks ss) := Hd hO
      clear hO hBO
      go_wp2_with fail
      refine outH hK (uh HKS _ (uh (hbtr HBx hbs))) (fun hHeld => ?_)
      clear hK K
      have fin := uh st101 _ (hbtr HBx hbs) u1 u2 u3 BO OT nb (Hd ((uh Bnb).below hbs)) hnb rb (Hd ((uh Brb).below hbs)) hrb hne
      rw [uh HF, uh HA] at fin
      exact nrmR fin
     have st1 : Hid (∀ (wx : World) (HBx : Hid (Below w14.heap.size w14 wx)) (u1 : Nat) (u2 : Nat) (u3 : Nat) (BO : Nat) (OT : Hid (ToO BO wx u1 u2 u3 ls ks ss)), F 11 #[true, true, true, false, false, false, false, false, false, false, false, false, false, false] (aP.put (some 103) (V6 (some ⟨u1, 0, none⟩) ls.length (some ⟨u2, 0, none⟩) ks.length (some ⟨u3, 0, none⟩) ss.length ls ks ss k v a)) wx) := by
      clear st301 st30 st31 st201 st3 st20 st21 st101 st001
      refine Hd ?_
      intro wx HBx u1 u2 u3 BO OT
      rw [uh HF, uh HA]
      refine nrm ?_
      refine rdy3 3 9 10 rfl rfl rfl (fun K hK => ?_) (fun K hK => ?_) (fun K hK => ?_)
      ·go_simp
       refine (toCm_any ⟨ck, cs, cq, ckey, cval⟩ wx).mono ?_
       rintro e wy ⟨rfl, hbs⟩
       go_wp2_with fail
       refine outH hK (uh HKS _ (uh (hbtr HBx hbs))) (fun hHeld => ?_)
       clear hK K
       have fin := uh st2 _ (hbtr HBx hbs) u1 u2 u3 BO (Hd ((uh OT).below hbs))
       rw [uh HF, uh HA] at fin
       exact nrmR fin
      ·go_simp
       obtain ⟨hbs, hB⟩ := newBox wx #[.slice none 0 0, .string ⟨#[]⟩, .string ⟨#[]⟩, .int .i64 0, .slice none 0 0, .slice none 0 0] 38
       refine outH hK (uh HKS _ (uh (hbtr HBx hbs))) (fun hHeld => ?_)
       clear hK K
       have fin := uh st10 _ (hbtr HBx hbs) u1 u2 u3 BO (Hd ((uh OT).below hbs)) wx.heap.size hB (uh HBx).size
       rw [uh HF, uh HA] at fin
       exact nrmR fin
      ·go_simp
       obtain ⟨hbs, hB⟩ := newBox wx #[.int .i64 0, .int .i64 0, .string ⟨#[]⟩] 40
       refine outH hK (uh HKS _ (uh (hbtr HBx hbs))) (fun hHeld => ?_)
       clear hK K
       have fin := uh st11 _ (hbtr HBx hbs) u1 u2 u3 BO (Hd ((uh OT).below hbs)) wx.heap.size hB (uh HBx).size
       rw [uh HF, uh HA] at fin
       exact nrmR fin
     have st00 : Hid (∀ (wx : World) (HBx : Hid (Below w14.heap.size w14 wx)) (nb : Nat) (Bnb : Hid (Blk wx nb [.slice none 0 0, .string ⟨#[]⟩, .string ⟨#[]⟩, .int .i64 0, .slice none 0 0, .slice none 0 0])) (hnb : w14.heap.size ≤ nb), F 11 #[true, false, true, false, false, false, false, false, false, true, false, false, false, false] (aP.put (some 16) (.pointer (some ⟨nb, 0, none⟩))) wx) := by
      clear st301 st30 st31 st201 st3 st20 st21 st101 st2 st11 st1
      refine Hd ?_
      intro wx HBx nb Bnb hnb
      rw [uh HF, uh HA]
      refine nrm ?_
      refine rdy2 1 10 rfl rfl (fun K hK => ?_) (fun K hK => ?_)
      ·go_simp
       refine (uh HTO wx ((uh KW).trans ((uh HBx).mono (uh KW).size))).mono ?_
       rintro e wy ⟨u1, u2, u3, rfl, hO, hbs⟩
       obtain ⟨BO, hBO⟩ : ∃ BO, BO = wx.heap.size := ⟨_, rfl⟩
       rw [← hBO] at hO
       have OT : Hid (ToO BO wy u1 u2 u3 ls ks ss) := Hd hO
       clear hO hBO
       go_wp2_with fail
       refine outH hK (uh HKS _ (uh (hbtr HBx hbs))) (fun hHeld => ?_)
       clear hK K
       have fin := uh st10 _ (hbtr HBx hbs) u1 u2 u3 BO OT nb (Hd ((uh Bnb).below hbs)) hnb
       rw [uh HF, uh HA] at fin
       exact nrmR fin
      ·go_simp
       obtain ⟨hbs, hB⟩ := newBox wx #[.int .i64 0, .int .i64 0, .string ⟨#[]⟩] 40
       refine outH hK (uh HKS _ (uh (hbtr HBx hbs))) (fun hHeld => ?_)
       clear hK K
       have fin := uh st001 _ (hbtr HBx hbs) nb (Hd ((uh Bnb).below hbs)) hnb wx.heap.size hB (uh HBx).size (fun e => by have := (uh Bnb).1; omega)
       rw [uh HF, uh HA] at fin
       exact nrmR fin
     have st01 : Hid (∀ (wx : World) (HBx : Hid (Below w14.heap.size w14 wx)) (rb : Nat) (Brb : Hid (Blk wx rb [.int .i64 0, .int .i64 0, .string ⟨#[]⟩])) (hrb : w14.heap.size ≤ rb), F 11 #[true, false, true, false, false, false, false, false, false, false, true, false, false, false] (aP.put (some 17) (.pointer (some ⟨rb, 0, none⟩))) wx) := by
      clear st301 st30 st31 st201 st3 st20 st21 st101 st2 st10 st1 st00
      refine Hd ?_
      intro wx HBx rb Brb hrb
      rw [uh HF, uh HA]
      refine nrm ?_
      refine rdy2 1 9 rfl rfl (fun K hK => ?_) (fun K hK => ?_)
      ·go_simp
       refine (uh HTO wx ((uh KW).trans ((uh HBx).mono (uh KW).size))).mono ?_
       rintro e wy ⟨u1, u2, u3, rfl, hO, hbs⟩
       obtain ⟨BO, hBO⟩ : ∃ BO, BO = wx.heap.size := ⟨_, rfl⟩
       rw [← hBO] at hO
       have OT : Hid (ToO BO wy u1 u2 u3 ls ks ss) := Hd hO
       clear hO hBO
       go_wp2_with fail
       refine outH hK (uh HKS _ (uh (hbtr HBx hbs))) (fun hHeld => ?_)
       clear hK K
       have fin := uh st11 _ (hbtr HBx hbs) u1 u2 u3 BO OT rb (Hd ((uh Brb).below hbs)) hrb
       rw [uh HF, uh HA] at fin
       exact nrmR fin
      ·go_simp
       obtain ⟨hbs, hB⟩ := newBox wx #[.slice none 0 0, .string ⟨#[]⟩, .string ⟨#[]⟩, .int .i64 0, .slice none 0 0, .slice none 0 0] 38
       refine outH hK (uh HKS _ (uh (hbtr HBx hbs))) (fun hHeld => ?_)
       clear hK K
       have fin := uh st001 _ (hbtr HBx hbs) wx.heap.size hB (uh HBx).size rb (Hd ((uh Brb).below hbs)) hrb (fun e => by have := (uh Brb).1; omega)
       rw [uh HF, uh HA] at fin
       exact nrmR fin
     have st0 : Hid (∀ (wx : World) (HBx : Hid (Below w14.heap.size w14 wx)), F 12 #[true, false, true, false, false, false, false, false, false, false, false, false, false, false] aP wx) := by
      clear st301 st30 st31 st201 st3 st20 st21 st101 st2 st10 st11 st001
      refine Hd ?_
      intro wx HBx
      rw [uh HF, uh HA]
      refine nrm ?_
      refine rdy3 1 9 10 rfl rfl rfl (fun K hK => ?_) (fun K hK => ?_) (fun K hK => ?_)
      ·go_simp
       refine (uh HTO wx ((uh KW).trans ((uh HBx).mono (uh KW).size))).mono ?_
       rintro e wy ⟨u1, u2, u3, rfl, hO, hbs⟩
       obtain ⟨BO, hBO⟩ : ∃ BO, BO = wx.heap.size := ⟨_, rfl⟩
       rw [← hBO] at hO
       have OT : Hid (ToO BO wy u1 u2 u3 ls ks ss) := Hd hO
       clear hO hBO
       go_wp2_with fail
       refine outH hK (uh HKS _ (uh (hbtr HBx hbs))) (fun hHeld => ?_)
       clear hK K
       have fin := uh st1 _ (hbtr HBx hbs) u1 u2 u3 BO OT
       rw [uh HF, uh HA] at fin
       exact nrmR fin
      ·go_simp
       obtain ⟨hbs, hB⟩ := newBox wx #[.slice none 0 0, .string ⟨#[]⟩, .string ⟨#[]⟩, .int .i64 0, .slice none 0 0, .slice none 0 0] 38
       refine outH hK (uh HKS _ (uh (hbtr HBx hbs))) (fun hHeld => ?_)
       clear hK K
       have fin := uh st00 _ (hbtr HBx hbs) wx.heap.size hB (uh HBx).size
       rw [uh HF, uh HA] at fin
       exact nrmR fin
      ·go_simp
       obtain ⟨hbs, hB⟩ := newBox wx #[.int .i64 0, .int .i64 0, .string ⟨#[]⟩] 40
       refine outH hK (uh HKS _ (uh (hbtr HBx hbs))) (fun hHeld => ?_)
       clear hK K
       have fin := uh st01 _ (hbtr HBx hbs) wx.heap.size hB (uh HBx).size
       rw [uh HF, uh HA] at fin
       exact nrmR fin
     have hdr := below_drewN (Below.refl w14.heap.size w14) 1
     change Below w14.heap.size w14 w14.drew at hdr
     exact uh st0 _ (Hd hdr) 
    case rest =>
     obtain ⟨hb_, jb, hla, hlc, hka, hkc, hsa, hsc, BH, MH, rfl, rfl, rfl, HG⟩ := hcut
     obtain ⟨w15, hw15e⟩ : ∃ w15, w15 = wc := ⟨_, rfl⟩
     rw [← hw15e] at HG ⊢
     clear hw15e wc
     obtain ⟨hb, hBH, hMH, hhb, hjb, hBn, hBr, hLu⟩ := uh HG
     replace KW := hbt KW hb
     replace XL := Hd ((uh XL).below hb)
     replace XC := Hd ((uh XC).below hb)
     replace XN := Hd ((uh XN).below hb)
     replace XR := Hd ((uh XR).below hb)
     replace LW := Hd ((uh LW).below hb)
     replace XG := Hd ((uh XG).below hb)
     replace LK := Hd ((uh LK).below hb)
     have XH := Hd hBn
     have XJ := Hd hBr
     have LH := Hd hLu
     clear HG hb hBn hBr hLu a0 a1 a2 a3 a4 a5 b0 b1 b2 b3 b4 hLb hCb
     have b3 : (code == code) = true := by simp
     obtain ⟨⟨e0, e1, e2, e3, e4, e5⟩, _⟩ := Blk.c6 (uh XH)
     obtain ⟨⟨f0, f1, f2, f3, f4, f5⟩, _⟩ := Blk.c6 (uh XN)
     go_wp2_with fail
     refine (eqLedger_any lsN kN vN aN ksN ssN _ _ _ _ _ _ _ _ _ _ _ _ w15 (uh LH).led (uh LW).led (uh HN).1 (uh HN).2.2.1).mono ?_
     rintro e w16 ⟨rfl, hb⟩
     replace KW := hbt KW hb
     replace XL := Hd ((uh XL).below hb)
     replace XC := Hd ((uh XC).below hb)
     replace XN := Hd ((uh XN).below hb)
     replace XR := Hd ((uh XR).below hb)
     replace LW := Hd ((uh LW).below hb)
     replace XG := Hd ((uh XG).below hb)
     replace LK := Hd ((uh LK).below hb)
     replace XH := Hd ((uh XH).below hb)
     replace XJ := Hd ((uh XJ).below hb)
     replace LH := Hd ((uh LH).below hb)
     clear hb e0 e1 e2 e3 e4 e5 f0 f1 f2 f3 f4 f5
     obtain ⟨⟨e0, e1, e2⟩, _⟩ := Blk.c3 (uh XJ)
     obtain ⟨⟨f0, f1, f2⟩, _⟩ := Blk.c3 (uh XR)
     have HE := Hd (eqReply_any ⟨r1, r2, r3⟩ w16)
     dsimp only at HE
     go_wp2_with fail
     refine (uh HE).mono ?_
     rintro e w17 ⟨rfl, hb⟩
     replace KW := hbt KW hb
     replace XL := Hd ((uh XL).below hb)
     replace XC := Hd ((uh XC).below hb)
     replace XN := Hd ((uh XN).below hb)
     replace XR := Hd ((uh XR).below hb)
     replace LW := Hd ((uh LW).below hb)
     replace XG := Hd ((uh XG).below hb)
     replace LK := Hd ((uh LK).below hb)
     replace XH := Hd ((uh XH).below hb)
     replace XJ := Hd ((uh XJ).below hb)
     replace LH := Hd ((uh LH).below hb)
     clear hb e0 e1 e2 f0 f1 f2 HE
     obtain ⟨⟨x0, x1, x2, x3, x4, x5⟩, _⟩ := Blk.c6 (uh XG)
     go_wp2_with fail
     refine (uh HCL w17 (uh LK)).mono ?_
     rintro e w18 ⟨rfl, hb⟩
     replace KW := hbt KW hb
     replace XG := Hd ((uh XG).below hb)
     clear hb x0 x1 x2 x3 x4 x5
     go_wp2_with fail
     go_ret
     exact ⟨rfl, uh KW⟩

theorem vars_of_laid {W : World} (h : laidMetH Tryz.prog Rows.fnExactApplyRow.laid W) :
  W.var? Tryz.prog "loop.example/g00220/impl.firstWords" = some firstCells ∧ W.var? Tryz.prog "loop.example/g00220/impl.roundWords" = some roundCells := by
 rw [MakeChecks.laidMetH_plain _ _ _ (by kernel_rfl)] at h
 obtain ⟨ps, ⟨g0, t0, cs0, f0, p0, q0, hg0, ht0, hv0, hd0, ⟨g1, t1, cs1, f1, p1, q1, hg1, ht1, hv1, hd1, _, _⟩, _⟩, _, _⟩ := h
 obtain rfl := Option.some.inj (gFirst.symm.trans hg0)
 obtain rfl := Option.some.inj (gRound.symm.trans hg1)
 obtain rfl := Option.some.inj (gFirstType.symm.trans ht0)
 obtain rfl := Option.some.inj (gRoundType.symm.trans ht1)
 have e0 := Lib.cells_of_tab (k := .u32) (cs := cs0.toList) (zs := iL.map fun (n : Nat) => (n : Int)) Tryz.underlying187 Tryz.underlying171 cellsE cellsA hd0
 have e1 := Lib.cells_of_tab (k := .u32) (cs := cs1.toList) (zs := kL.map fun (n : Nat) => (n : Int)) Tryz.underlying191 Tryz.underlying171 cellsE cellsB hd1
 have a0 : cs0 = firstCells := by
  have : cs0.toList = firstCells.toList := e0.trans (by kernel_rfl)
  exact Array.toList_inj.1 this
 have a1 : cs1 = roundCells := by
  have : cs1.toList = roundCells.toList := e1.trans (by kernel_rfl)
  exact Array.toList_inj.1 this
 exact ⟨by rw [hv0, a0], by rw [hv1, a1]⟩
theorem door_met (os : Os) (args : Array Value) : laidMetH Tryz.prog Rows.fnExactApplyRow.laid ((World.doorLaid Tryz.prog 19 os).forCall (fun _ _ => 0) ⟨#[], args, []⟩).memory :=
 laidMetH_of_parts3 (fuel := 8) (laidMet_of_run' 8 (by kernel_rfl) (by kernel_rfl)) (by kernel_rfl) (by kernel_rfl)
theorem lifted (os : Os) (started : os.Started) (H : Type) (enc : TypeId × Value → H) :
  ReturnsInHanded {} Tryz.checked os 3 .any (fun w args => (Rows.fnExactApplySpec.pre enc Tryz.prog Tryz.f3 [] false w args ∧ laidMetH Tryz.prog Rows.fnExactApplyRow.laid w) ∧ sizedMet enc Tryz.prog Tryz.f3 (OpenSpec.ofChange Rows.fnExactApplySpec) false w args)
   (Rows.fnExactApplySpec.post enc Tryz.prog Tryz.f3 false true false false) := by
 refine returnsInHanded_of_change_and (C := Tryz.checked) (X := fun w _ => laidMetH Tryz.prog Rows.fnExactApplyRow.laid w) (fun _ _ _ hh h => h.of_heap hh) own started (by kernel_rfl) Tryz.func3
  (ChangeSpec.witness_shaped (enc := enc) (C := Tryz.checked) (os := os) (X := fun w _ => laidMetH Tryz.prog Rows.fnExactApplyRow.laid w) false (World.doorLaid Tryz.prog 19 os) #[.agg #[.slice none 0 0, .string ByteArray.empty, .string ByteArray.empty, .int .i64 0, .slice none 0 0, .slice none 0 0], .agg #[.int .i64 0, .int .i64 0, .int .i64 0, .string ByteArray.empty, .string ByteArray.empty]] 8 rfl (World.shaped_of_RefB (by kernel_rfl) (by kernel_rfl)) (by kernel_rfl) (by kernel_rfl) (by kernel_rfl) (door_met os _)) ?_
 intro W base args ds gs before hval0 hW _ _ hL _
 have hval : ∀ (j : Nat) t v, Tryz.f3.params[j]? = some t → args[j]? = some v → Value.okWide Tryz.prog W .any base t v := hval0
 have hW' := hW
 obtain ⟨p, q, hA0, hV0, rfl, hfz, hnd⟩ := hW
 have hA : DataW.TrodAll enc Tryz.prog W 0 (fun _ => true) true Tryz.f3.params.toList args.toList ds p := hA0
 have hV : DataW.TrodVars enc Tryz.prog W (fun _ => true) ["loop.example/g00220/impl.firstWords", "loop.example/g00220/impl.roundWords"] gs q := hV0
 rw [Tryz.params3] at hA hval
 obtain ⟨v0, vs0, d0, ds0, p0, q0, hargs, rfl, rfl, h0, r0⟩ := trodAll_cons hA
 obtain ⟨v1, vs1, d1, ds1, p1, q1, rfl, rfl, rfl, h1, r1⟩ := trodAll_cons r0
 obtain ⟨rfl, rfl, rfl⟩ := trodAll_nil r1
 obtain rfl : args = #[v0, v1] := by cases args; simp_all
 have k0 := h0
 have lt0 : ∀ x ∈ p0, x.block < W.heap.size := by obtain ⟨m, hm⟩ := k0; exact DataW.trod_lt m _ _ _ hm
 obtain ⟨lv0, ky0, va0, at0, kv0, sv0, ls0, ks0, ss0, rfl, hf0, hz0, hy0, hl0, hs0⟩ := open_ledger (hval 0 28 v0 rfl rfl) h0
 have k1 := h1
 have lt1 : ∀ x ∈ p1, x.block < W.heap.size := by obtain ⟨m, hm⟩ := k1; exact DataW.trod_lt m _ _ _ hm
 obtain ⟨ka1, sa1, qa1, key1, val1, rfl, wk1, ws1, wq1, hk1, hv1⟩ := open_cmd (hval 1 30 v1 rfl rfl) h1
 obtain ⟨hvA, hvB⟩ := vars_of_laid hL
 clear hA0 hV0 hval0
 refine (walk lv0 ky0 va0 at0 kv0 sv0 ls0 ks0 ss0 ka1 sa1 qa1 key1 val1 W hf0 hz0 hy0 hl0 hs0 wk1 ws1 wq1 hk1 hv1 (first_of hvA) (table_of hvB)).mono fun e W' ⟨he, bel⟩ => ?_
 subst he
 obtain ⟨rfl, pv, hvs⟩ := vars_again (sp := fun b => decide (b < W.heap.size)) hvA hvB hV bel
 exact ⟨_, rfl, _, _, _, [], _, pv, hW', trodAll_mk1 (shut_bool Tryz.underlying4 _), (trodAll_cons_mk (Below.trod laidOut (by kernel_rfl) (of_decide_eq_true (by kernel_rfl)) k0 bel lt0) (trodAll_cons_mk (Below.trod laidOut (by kernel_rfl) (of_decide_eq_true (by kernel_rfl)) k1 bel lt1) trodAll_mk0)), hvs, bel.frame _, fun h => by cases h⟩

theorem said : Rows.FnExactApplySaid :=
 OpenClaim.holds_of_wide 3 Tryz.f3 rfl rfl rfl rfl rfl rfl rfl ⟨rfl, rfl, rfl, rfl, rfl⟩ rfl rfl rfl rfl rfl (by kernel_rfl) Tryz.func3 (by kernel_rfl)
  (of_decide_eq_true (by kernel_rfl)) (by unfold Func.isWrapper; first | (rw [if_pos (by decide +kernel)]; kernel_rfl) | (rw [if_neg (by decide +kernel)]; exact ⟨rfl, rfl⟩))
  (fun os started H enc _ => lifted os started H enc)

theorem plain (f : FuncId) (fn : Func) (hf : Tryz.pinned.checked.prog.funcNamed "loop.example/g00220/laws.FnExactApply" = some f) (hfn : Tryz.pinned.checked.prog.funcs[f]? = some fn) :
  false = Tryz.pinned.checked.prog.looks [] ∧ ∀ (j : Nat) t, fn.params[j]? = some t → Tryz.pinned.checked.prog.wantsStandIn t = false := by
 obtain rfl : f = 3 := Option.some.inj ((show Tryz.prog.funcNamed "loop.example/g00220/laws.FnExactApply" = some 3 by kernel_rfl).symm.trans hf) |>.symm
 obtain rfl : fn = Tryz.f3 := (Option.some.inj (Tryz.func3.symm.trans hfn)).symm
 refine ⟨by kernel_rfl, fun j t ht => ?_⟩
 rw [Tryz.params3] at ht
 have hmem : t = 28 ∨ t = 30 := by
  have := Array.mem_of_getElem? ht
  simp at this
  omega
 rcases hmem with rfl | rfl
 ·exact (show Tryz.prog.wantsStandIn 28 = false by kernel_rfl)
 ·exact (show Tryz.prog.wantsStandIn 30 = false by kernel_rfl)
end Go.Proofs.YtnhhnjmjodmacaaGreatDoor.fnExactApply
namespace Go.Proofs.YtnhhnjmjodmacaaGreatDoor
theorem fnExactApply_card : Rows.FnExactApplyCardSaid :=
 Claim7.holds_tied_plain_at .later [] _ _ _ _ fnExactApply.said (fun _ h => by cases h) (by kernel_rfl) (fun _ h => by cases h) fnExactApply_row_tie rfl ⟨rfl, rfl⟩ (by kernel_rfl) rfl fnExactApply.plain (by kernel_rfl)
#print axioms fnExactApply_card
end Go.Proofs.YtnhhnjmjodmacaaGreatDoor
