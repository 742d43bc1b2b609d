/- For every node that can be read, laws.FnExactApplyNode returns true, the node reads as it did, and so do the two tables of words, which the card ties to the program's text. Condition: the listed tables start as the program's text lays them. (Written by py/lan.py.) -/
import Derived.Test.YtbchnheinnileaaGreatDoorQca25
import Derived.Test.YtbchnheinnileaaGreatDoorQca26
import Derived.Test.YtbchnheinnileaaGreatDoorQca27
import Derived.Test.YtbchnheinnileaaGreatDoorQca01
import Derived.Test.YtbchnheinnileaaGreatDoorQca00
import Derived.Test.YtbchnheinnileaaGreatDoorCards
import Derived.Test.YtbchnheinnileaaGreatDoorTie
import Derived.Deep.DeepCutAuto
namespace Go.Proofs.YtbchnheinnileaaGreatDoor.fnExactApplyNode
set_option maxRecDepth 100000
set_option maxHeartbeats 8000000
open Go.ChangeShapes Go.WideShapes Go.ChangeAt Go.RowKit Go.Deep Sha
open Go.ChangeMaps (open_string shut_string)
set_option linter.unusedVariables false
set_option linter.unusedSimpArgs false
theorem blk {B : Nat} {w : World} {lv sv vv nv mv : Value} {lg : List En} {st vs nx mt : List Int} (h : NoO B w lv sv vv nv mv lg st vs nx mt) (k : Nat) (hk : NoT [lv, sv, vv, nv, mv] k) : B ≤ k ∧ k < w.heap.size := by
 obtain ⟨v, hv, hq⟩ := hk
 simp only [List.mem_cons, List.not_mem_nil, or_false] at hv
 rcases hv with rfl | rfl | rfl | rfl | rfl
 ·exact World.ownsRow.lt h.lg k hq
 ·exact h.st.lt k hq
 ·exact h.vs.lt k hq
 ·exact h.nx.lt k hq
 ·exact h.mt.lt k hq
theorem keep {T : Nat → Prop} {B : Nat} {w w' : World} {lv sv vv nv mv : Value} {lg : List En} {st vs nx mt : List Int} (h : NoO B w lv sv vv nv mv lg st vs nx mt) (ht : Touch T w w') (hn : ∀ k, NoT [lv, sv, vv, nv, mv] k → ¬ T k) : NoO B w' lv sv vv nv mv lg st vs nx mt :=
 ⟨OwnE.kept h.lg ht (fun k hk => hn k ⟨_, by simp, hk⟩), h.st.kept ht (fun k hk => hn k ⟨sv, by simp, hk⟩), h.vs.kept ht (fun k hk => hn k ⟨vv, by simp, hk⟩), h.nx.kept ht (fun k hk => hn k ⟨nv, by simp, hk⟩), h.mt.kept ht (fun k hk => hn k ⟨mv, by simp, hk⟩), h.ap⟩
theorem an_small (b : Bool) (lg : List En) (n : Nat) : (anO b lg n).1.ls.length ≤ 50 ∧ cntL (brOf (anO b lg n).1.o).kids ≤ 80 ∧ (anO b lg n).1.ss.length ≤ 8 := by
 cases b with
 | false => exact ⟨Nat.zero_le _, (by show cntL [] ≤ 80; unfold cntL; omega), Nat.zero_le _⟩
 | true =>
  have h := stN_ok lg n
  exact ⟨h.n, lok_cntN h, h.m⟩
theorem walk (id tm vo ro cm el wt : Int) (up : Bool) (lv sv vv nv mv : Value) (lg : List En) (st vs nx mt : List Int) (w : World) (hf : NoR w lv sv vv nv mv lg st vs nx mt) (hz : ∀ i, i < lg.length → (lg.getD i default).d.size ≤ maxLen) (hF : First w) (hT : Table w) :
  Calls Tryz.prog 3 #[.agg #[.int .i64 id, .int .i64 tm, .int .i64 vo, lv, sv, .int .i64 ro, vv, nv, mv, .int .i64 cm, .int .i64 el, .int .i64 wt, .bool up]] w fun e w' => e = .returned (.bool true) ∧ Below w.heap.size w w' := by
 have HT := Hd (show Tab w from ⟨hF, hT⟩)
 obtain ⟨la, lc, rfl⟩ := hf.lg.shape
 obtain ⟨sa, sc, rfl⟩ := hf.st.shape
 obtain ⟨va, vc, rfl⟩ := hf.vs.shape
 obtain ⟨na, nc, rfl⟩ := hf.nx.shape
 obtain ⟨ma, mc, rfl⟩ := hf.mt.shape
 have HF := Hd hf
 have HZ := Hd hz
 clear hf hz hF hT
 have KW := Hd (bal w (.cells #[.int .i64 id, .int .i64 tm, .int .i64 vo, .slice la lg.length lc, .slice sa st.length sc, .int .i64 ro, .slice va vs.length vc, .slice na nx.length nc, .slice ma mt.length mc, .int .i64 cm, .int .i64 el, .int .i64 wt, .bool up] 25))
 have XN := Hd (Blk.new w #[.int .i64 id, .int .i64 tm, .int .i64 vo, .slice la lg.length lc, .slice sa st.length sc, .int .i64 ro, .slice va vs.length vc, .slice na nx.length nc, .slice ma mt.length mc, .int .i64 cm, .int .i64 el, .int .i64 wt, .bool up] 25 w.heap.size rfl)
 go_enter Tryz.func3, Tryz.ntmps3
 go_wp2_with fail
 generalize w.alloc (.cells #[.int .i64 id, .int .i64 tm, .int .i64 vo, .slice la lg.length lc, .slice sa st.length sc, .int .i64 ro, .slice va vs.length vc, .slice na nx.length nc, .slice ma mt.length mc, .int .i64 cm, .int .i64 el, .int .i64 wt, .bool up] 25) = w0 at *
 refine (szNode_any id tm vo ro cm el wt up lg st vs nx mt la lc sa sc va vc na nc ma mc 1048576 w0 ((uh HF).below (uh KW)) (by omega) (by omega) (uh HZ)).mono ?_
 rintro e w1 ⟨rfl, hb⟩
 replace KW := hbt KW hb
 replace XN := Hd ((uh XN).below hb)
 clear hb
 rcases noszR_cases 1048576 (by omega) lg st vs nx mt with hr | ⟨hr, hrl, hsm⟩
 ·rw [hr]
  go_wp2_with fail
  go_ret
  exact ⟨rfl, uh KW⟩
 have HSM := Hd hsm
 obtain ⟨hs1, hs2, hs3⟩ := an_small (nodeB id tm vo ro cm el wt up lg st vs nx mt) lg cm.toNat
 have HSP := Hd (fun wx (la' : Option Addr) (lc' : Nat) (sa' : Option Addr) (sc' : Nat) (va' : Option Addr) (vc' : Nat) (na' : Option Addr) (nc' : Nat) (ma' : Option Addr) (mc' : Nat) (hx : NoR wx (.slice la' lg.length lc') (.slice sa' st.length sc') (.slice va' vs.length vc') (.slice na' nx.length nc') (.slice ma' mt.length mc') lg st vs nx mt) => specApplyNode_any id tm vo ro cm el wt up lg st vs nx mt la' lc' sa' sc' va' vc' na' nc' ma' mc' wx hx (uh HSM))
 have HIM := Hd (fun wx (la' : Option Addr) (lc' : Nat) (sa' : Option Addr) (sc' : Nat) (va' : Option Addr) (vc' : Nat) (na' : Option Addr) (nc' : Nat) (ma' : Option Addr) (mc' : Nat) (hx : NoR wx (.slice la' lg.length lc') (.slice sa' st.length sc') (.slice va' vs.length vc') (.slice na' nx.length nc') (.slice ma' mt.length mc') lg st vs nx mt) (hb : Below w.heap.size w wx) => implApplyNode_any id tm vo ro cm el wt up lg st vs nx mt la' lc' sa' sc' va' vc' na' nc' ma' mc' wx hx (uh HSM) ((uh HT).below hb))
 clear hsm
 generalize anO (nodeB id tm vo ro cm el wt up lg st vs nx mt) lg cm.toNat = out at *
 obtain ⟨⟨lsN, oN, ssN⟩, code⟩ := out
 unfold AnE at HSP HIM
 dsimp only at HSP HIM hs1 hs2 hs3
 have HN := Hd (show lsN.length ≤ 1048576 ∧ cntL (brOf oN).kids ≤ 1048576 ∧ ssN.length ≤ 1048576 ∧ 1 + lsN.length + 3 * cntL (brOf oN).kids ≤ 4194304 from ⟨by omega, by omega, by omega, by omega⟩)
 clear hs1 hs2 hs3
 generalize brOf oN = bN at *
 obtain ⟨kN, vN, aN, ksN⟩ := bN
 dsimp only [Br.key, Br.val, Br.at_, Br.kids] at HSP HIM HN
 generalize noszR 1048576 lg st.length vs.length nx.length mt.length = r at *
 have hr2 : ¬ r < 0 := by omega
 have A_ := Hd ((uh HF).below (uh KW))
 have x0 := (uh XN).cell 0 rfl
 have x1 := (uh XN).cell 1 rfl
 have x2 := (uh XN).cell 2 rfl
 have x3 := (uh XN).cell 3 rfl
 have x4 := (uh XN).cell 4 rfl
 have x5 := (uh XN).cell 5 rfl
 have x6 := (uh XN).cell 6 rfl
 have x7 := (uh XN).cell 7 rfl
 have x8 := (uh XN).cell 8 rfl
 have x9 := (uh XN).cell 9 rfl
 have x10 := (uh XN).cell 10 rfl
 have x11 := (uh XN).cell 11 rfl
 have x12 := (uh XN).cell 12 rfl
 go_wp2_with fail
 refine (toNode_any id tm vo ro cm el wt up lg st vs nx mt la lc sa sc va vc na nc ma mc w1 (uh A_) (uh HSM)).mono ?_
 rintro e w2 ⟨l2, s2, v2, n2, m2, rfl, hO, hb⟩
 replace KW := hbt KW hb
 replace XN := Hd ((uh XN).below hb)
 clear A_ x0 x1 x2 x3 x4 x5 x6 x7 x8 x9 x10 x11 x12
 have VR := Hd hO.read
 clear hO hb
 go_wp2_with fail
 refine (uh HSP w2 _ _ _ _ _ _ _ _ _ _ (uh VR)).mono ?_
 rintro e w3 ⟨sla, slc, ska, skn, skc, ssa, ssc, rfl, hL, hb⟩
 dsimp only [Br.key, Br.val, Br.at_, Br.kids] at hL ⊢
 obtain rfl := hL.kn
 have AS := Hd hL.up
 obtain ⟨BS, hBS⟩ : ∃ BS, BS = w2.heap.size := ⟨_, rfl⟩
 obtain ⟨MS, hMS⟩ : ∃ MS, MS = w3.heap.size := ⟨_, rfl⟩
 rw [← hBS, ← hMS] at AS
 replace KW := hbt KW hb
 replace XN := Hd ((uh XN).below hb)
 have hbm : BS ≤ MS := by rw [hBS, hMS]; exact hb.size
 have bA := bal w3 (.cells #[.slice sla lsN.length slc, .string kN, .string vN, .int .i64 aN, .slice ska ksN.length skc, .slice ssa ssN.length ssc] 33)
 have XS := Hd (Blk.new w3 #[.slice sla lsN.length slc, .string kN, .string vN, .int .i64 aN, .slice ska ksN.length skc, .slice ssa ssN.length ssc] 33 w3.heap.size rfl)
 replace KW := hbt KW bA
 replace XN := Hd ((uh XN).below bA)
 replace AS := Hd ((uh AS).below bA)
 clear hL hb bA
 go_upto_region 6 with fail
 generalize w3.alloc (.cells #[.slice sla lsN.length slc, .string kN, .string vN, .int .i64 aN, .slice ska ksN.length skc, .slice ssa ssN.length ssc] 33) = w4 at *
 obtain ⟨sb, hsb⟩ : ∃ sb, sb = w3.heap.size := ⟨_, rfl⟩
 rw [← hsb] at XS ⊢
 have hsbM : MS = sb := by rw [hsb, hMS]
 have hsbl : sb < w4.heap.size := (uh XS).1
 clear VR HSP hBS hMS hsb
 have hXN4_ : w.heap.size < w4.heap.size := (uh XN).1
 have A_ := Hd ((uh HF).below (uh KW))
 have x0 := (uh XN).cell 0 rfl
 have x1 := (uh XN).cell 1 rfl
 have x2 := (uh XN).cell 2 rfl
 have x3 := (uh XN).cell 3 rfl
 have x4 := (uh XN).cell 4 rfl
 have x5 := (uh XN).cell 5 rfl
 have x6 := (uh XN).cell 6 rfl
 have x7 := (uh XN).cell 7 rfl
 have x8 := (uh XN).cell 8 rfl
 have x9 := (uh XN).cell 9 rfl
 have x10 := (uh XN).cell 10 rfl
 have x11 := (uh XN).cell 11 rfl
 have x12 := (uh XN).cell 12 rfl
 go_wp2_with fail
 refine (toNode_any id tm vo ro cm el wt up lg st vs nx mt la lc sa sc va vc na nc ma mc w4 (uh A_) (uh HSM)).mono ?_
 rintro e w5 ⟨l4, s4, v4, n4, m4, rfl, hO, hb⟩
 replace KW := hbt KW hb
 replace XN := Hd ((uh XN).below hb)
 replace AS := Hd ((uh AS).below hb)
 replace XS := Hd ((uh XS).below hb)
 clear A_ x0 x1 x2 x3 x4 x5 x6 x7 x8 x9 x10 x11 x12
 have hs45 := hb.size
 have hXN4 : w.heap.size < w4.heap.size := hXN4_
 obtain ⟨XB, hXB⟩ : ∃ XB, XB = w4.heap.size := ⟨_, rfl⟩
 rw [← hXB] at hO hs45
 have BB := bal w5 (.cells #[.int .i64 id, .int .i64 tm, .int .i64 vo, .slice (some ⟨l4, 0, none⟩) lg.length lg.length, .slice (some ⟨s4, 0, none⟩) st.length st.length, .int .i64 ro, .slice (some ⟨v4, 0, none⟩) vs.length vs.length, .slice (some ⟨n4, 0, none⟩) nx.length nx.length, .slice (some ⟨m4, 0, none⟩) mt.length mt.length, .int .i64 cm, .int .i64 el, .int .i64 wt, .bool up] 38)
 have VN := Hd (hO.below BB)
 have VBn := blk hO
 have XX := Hd (Blk.new w5 #[.int .i64 id, .int .i64 tm, .int .i64 vo, .slice (some ⟨l4, 0, none⟩) lg.length lg.length, .slice (some ⟨s4, 0, none⟩) st.length st.length, .int .i64 ro, .slice (some ⟨v4, 0, none⟩) vs.length vs.length, .slice (some ⟨n4, 0, none⟩) nx.length nx.length, .slice (some ⟨m4, 0, none⟩) mt.length mt.length, .int .i64 cm, .int .i64 el, .int .i64 wt, .bool up] 38 w5.heap.size rfl)
 replace KW := hbt KW BB
 replace XN := Hd ((uh XN).below BB)
 replace AS := Hd ((uh AS).below BB)
 replace XS := Hd ((uh XS).below BB)
 clear BB hO hb
 go_upto_region 7 with fail
 generalize w5.alloc (.cells #[.int .i64 id, .int .i64 tm, .int .i64 vo, .slice (some ⟨l4, 0, none⟩) lg.length lg.length, .slice (some ⟨s4, 0, none⟩) st.length st.length, .int .i64 ro, .slice (some ⟨v4, 0, none⟩) vs.length vs.length, .slice (some ⟨n4, 0, none⟩) nx.length nx.length, .slice (some ⟨m4, 0, none⟩) mt.length mt.length, .int .i64 cm, .int .i64 el, .int .i64 wt, .bool up] 38) = w6 at *
 obtain ⟨xb, hxb⟩ : ∃ xb, xb = w5.heap.size := ⟨_, rfl⟩
 rw [← hxb] at XX VBn hs45 ⊢
 have VB := Hd VBn
 have hxl : xb < w6.heap.size := (uh XX).1
 have hsx : sb < XB := by omega
 have HWL := Hd (show w.heap.size < XB from by have := hXN4; omega)
 clear hXN4
 clear hxb hXB VBn
 have y0 := (uh XX).cell 0 rfl
 have y1 := (uh XX).cell 1 rfl
 have y2 := (uh XX).cell 2 rfl
 have y3 := (uh XX).cell 3 rfl
 have y4 := (uh XX).cell 4 rfl
 have y5 := (uh XX).cell 5 rfl
 have y6 := (uh XX).cell 6 rfl
 have y7 := (uh XX).cell 7 rfl
 have y8 := (uh XX).cell 8 rfl
 have y9 := (uh XX).cell 9 rfl
 have y10 := (uh XX).cell 10 rfl
 have y11 := (uh XX).cell 11 rfl
 have y12 := (uh XX).cell 12 rfl
 go_wp2_with fail
 refine (uh HIM w6 (some ⟨l4, 0, none⟩) lg.length (some ⟨s4, 0, none⟩) st.length (some ⟨v4, 0, none⟩) vs.length (some ⟨n4, 0, none⟩) nx.length (some ⟨m4, 0, none⟩) mt.length (uh VN).read (uh KW)).mono ?_
 rintro e w7 ⟨gla, glc, gka, gkn, gkc, gsa, gsc, rfl, hL, hb⟩
 dsimp only [Br.key, Br.val, Br.at_, Br.kids] at hL ⊢
 obtain rfl := hL.kn
 have AG := Hd hL.up
 obtain ⟨BG, hBG⟩ : ∃ BG, BG = w6.heap.size := ⟨_, rfl⟩
 obtain ⟨MG, hMG⟩ : ∃ MG, MG = w7.heap.size := ⟨_, rfl⟩
 rw [← hBG, ← hMG] at AG
 replace KW := hbt KW hb
 replace XN := Hd ((uh XN).below hb)
 replace AS := Hd ((uh AS).below hb)
 replace XS := Hd ((uh XS).below hb)
 replace VN := Hd ((uh VN).below hb)
 replace XX := Hd ((uh XX).below hb)
 have hbm : BG ≤ MG := by rw [hBG, hMG]; exact hb.size
 have bA := bal w7 (.cells #[.slice gla lsN.length glc, .string kN, .string vN, .int .i64 aN, .slice gka ksN.length gkc, .slice gsa ssN.length gsc] 33)
 have XG := Hd (Blk.new w7 #[.slice gla lsN.length glc, .string kN, .string vN, .int .i64 aN, .slice gka ksN.length gkc, .slice gsa ssN.length gsc] 33 w7.heap.size rfl)
 replace KW := hbt KW bA
 replace XN := Hd ((uh XN).below bA)
 replace AS := Hd ((uh AS).below bA)
 replace XS := Hd ((uh XS).below bA)
 replace VN := Hd ((uh VN).below bA)
 replace XX := Hd ((uh XX).below bA)
 replace AG := Hd ((uh AG).below bA)
 clear hL hb bA
 go_upto_region 8 with fail
 generalize w7.alloc (.cells #[.slice gla lsN.length glc, .string kN, .string vN, .int .i64 aN, .slice gka ksN.length gkc, .slice gsa ssN.length gsc] 33) = w8 at *
 obtain ⟨gb, hgb⟩ : ∃ gb, gb = w7.heap.size := ⟨_, rfl⟩
 rw [← hgb] at XG ⊢
 have hgbM : MG = gb := by rw [hgb, hMG]
 have hgbl : gb < w8.heap.size := (uh XG).1
 have hxg : xb < BG := by omega
 clear hBG hMG hgb y0 y1 y2 y3 y4 y5 y6 y7 y8 y9 y10 y11 y12
 have b3 : (code == code) = true := by simp
 have b4 : (code != code) = false := by simp
 obtain ⟨⟨e0, e1, e2, e3, e4, e5⟩, _⟩ := Blk.c6 (uh XG)
 obtain ⟨⟨f0, f1, f2, f3, f4, f5⟩, _⟩ := Blk.c6 (uh XS)
 go_wp2_with fail
 refine (eqLedger_any lsN kN vN aN ksN ssN _ _ _ _ _ _ _ _ _ _ _ _ w8 (uh AG).led (uh AS).led (uh HN).1 (uh HN).2.2.1).mono ?_
 rintro e w9 ⟨rfl, hb⟩
 replace KW := hbt KW hb
 replace XN := Hd ((uh XN).below hb)
 replace AS := Hd ((uh AS).below hb)
 replace XS := Hd ((uh XS).below hb)
 replace VN := Hd ((uh VN).below hb)
 replace XX := Hd ((uh XX).below hb)
 replace AG := Hd ((uh AG).below hb)
 replace XG := Hd ((uh XG).below hb)
 clear hb e0 e1 e2 e3 e4 e5 f0 f1 f2 f3 f4 f5
 go_upto_region 10 with fail
 go_cut [45] (fun s wx => s = .bool false ∧ Below w9.heap.size w9 wx)
 case first =>
  have hb0 := below_drewN (Below.refl w9.heap.size w9) 1
  have V7d := Hd ((uh VN).below hb0)
  have A7d := Hd (((uh HF).below (uh KW)).below hb0)
  have PP := uh XN
  have YY := uh XX
  have hzy := YY.1
  have hzx := PP.1
  have x70 := PP.cell 0 rfl
  have x71 := PP.cell 1 rfl
  have x72 := PP.cell 2 rfl
  have x73 := PP.cell 3 rfl
  have x74 := PP.cell 4 rfl
  have x75 := PP.cell 5 rfl
  have x76 := PP.cell 6 rfl
  have x77 := PP.cell 7 rfl
  have x78 := PP.cell 8 rfl
  have x79 := PP.cell 9 rfl
  have x710 := PP.cell 10 rfl
  have x711 := PP.cell 11 rfl
  have x712 := PP.cell 12 rfl
  have y70 := YY.cell 0 rfl
  have y71 := YY.cell 1 rfl
  have y72 := YY.cell 2 rfl
  have y73 := YY.cell 3 rfl
  have y74 := YY.cell 4 rfl
  have y75 := YY.cell 5 rfl
  have y76 := YY.cell 6 rfl
  have y77 := YY.cell 7 rfl
  have y78 := YY.cell 8 rfl
  have y79 := YY.cell 9 rfl
  have y710 := YY.cell 10 rfl
  have y711 := YY.cell 11 rfl
  have y712 := YY.cell 12 rfl
  clear PP YY KW XN AS XS VN XX AG XG
  go_region_held3 (fun wx => wx.cell? ⟨xb, 0, none⟩ = some (.int .i64 id) ∧ wx.cell? ⟨xb, 1, none⟩ = some (.int .i64 tm) ∧ wx.cell? ⟨xb, 2, none⟩ = some (.int .i64 vo) ∧ wx.cell? ⟨xb, 3, none⟩ = some (.slice (some ⟨l4, 0, none⟩) lg.length lg.length) ∧ wx.cell? ⟨xb, 4, none⟩ = some (.slice (some ⟨s4, 0, none⟩) st.length st.length) ∧ wx.cell? ⟨xb, 5, none⟩ = some (.int .i64 ro) ∧ wx.cell? ⟨xb, 6, none⟩ = some (.slice (some ⟨v4, 0, none⟩) vs.length vs.length) ∧ wx.cell? ⟨xb, 7, none⟩ = some (.slice (some ⟨n4, 0, none⟩) nx.length nx.length) ∧ wx.cell? ⟨xb, 8, none⟩ = some (.slice (some ⟨m4, 0, none⟩) mt.length mt.length) ∧ wx.cell? ⟨xb, 9, none⟩ = some (.int .i64 cm) ∧ wx.cell? ⟨xb, 10, none⟩ = some (.int .i64 el) ∧ wx.cell? ⟨xb, 11, none⟩ = some (.int .i64 wt) ∧ wx.cell? ⟨xb, 12, none⟩ = some (.bool up) ∧ wx.cell? ⟨w.heap.size, 0, none⟩ = some (.int .i64 id) ∧ wx.cell? ⟨w.heap.size, 1, none⟩ = some (.int .i64 tm) ∧ wx.cell? ⟨w.heap.size, 2, none⟩ = some (.int .i64 vo) ∧ wx.cell? ⟨w.heap.size, 3, none⟩ = some (.slice la lg.length lc) ∧ wx.cell? ⟨w.heap.size, 4, none⟩ = some (.slice sa st.length sc) ∧ wx.cell? ⟨w.heap.size, 5, none⟩ = some (.int .i64 ro) ∧ wx.cell? ⟨w.heap.size, 6, none⟩ = some (.slice va vs.length vc) ∧ wx.cell? ⟨w.heap.size, 7, none⟩ = some (.slice na nx.length nc) ∧ wx.cell? ⟨w.heap.size, 8, none⟩ = some (.slice ma mt.length mc) ∧ wx.cell? ⟨w.heap.size, 9, none⟩ = some (.int .i64 cm) ∧ wx.cell? ⟨w.heap.size, 10, none⟩ = some (.int .i64 el) ∧ wx.cell? ⟨w.heap.size, 11, none⟩ = some (.int .i64 wt) ∧ wx.cell? ⟨w.heap.size, 12, none⟩ = some (.bool up))
   (first
    | go_keep
    | exact ⟨(hb8.cell (p := ⟨xb, 0, none⟩) hq7).trans k0, (hb8.cell (p := ⟨xb, 1, none⟩) hq7).trans k1, (hb8.cell (p := ⟨xb, 2, none⟩) hq7).trans k2, (hb8.cell (p := ⟨xb, 3, none⟩) hq7).trans k3, (hb8.cell (p := ⟨xb, 4, none⟩) hq7).trans k4, (hb8.cell (p := ⟨xb, 5, none⟩) hq7).trans k5, (hb8.cell (p := ⟨xb, 6, none⟩) hq7).trans k6, (hb8.cell (p := ⟨xb, 7, none⟩) hq7).trans k7, (hb8.cell (p := ⟨xb, 8, none⟩) hq7).trans k8, (hb8.cell (p := ⟨xb, 9, none⟩) hq7).trans k9, (hb8.cell (p := ⟨xb, 10, none⟩) hq7).trans k10, (hb8.cell (p := ⟨xb, 11, none⟩) hq7).trans k11, (hb8.cell (p := ⟨xb, 12, none⟩) hq7).trans k12, (hb8.cell (p := ⟨w.heap.size, 0, none⟩) hp7).trans k13, (hb8.cell (p := ⟨w.heap.size, 1, none⟩) hp7).trans k14, (hb8.cell (p := ⟨w.heap.size, 2, none⟩) hp7).trans k15, (hb8.cell (p := ⟨w.heap.size, 3, none⟩) hp7).trans k16, (hb8.cell (p := ⟨w.heap.size, 4, none⟩) hp7).trans k17, (hb8.cell (p := ⟨w.heap.size, 5, none⟩) hp7).trans k18, (hb8.cell (p := ⟨w.heap.size, 6, none⟩) hp7).trans k19, (hb8.cell (p := ⟨w.heap.size, 7, none⟩) hp7).trans k20, (hb8.cell (p := ⟨w.heap.size, 8, none⟩) hp7).trans k21, (hb8.cell (p := ⟨w.heap.size, 9, none⟩) hp7).trans k22, (hb8.cell (p := ⟨w.heap.size, 10, none⟩) hp7).trans k23, (hb8.cell (p := ⟨w.heap.size, 11, none⟩) hp7).trans k24, (hb8.cell (p := ⟨w.heap.size, 12, none⟩) hp7).trans k25⟩
    | exact ⟨k0, k1, k2, k3, k4, k5, k6, k7, k8, k9, k10, k11, k12, k13, k14, k15, k16, k17, k18, k19, k20, k21, k22, k23, k24, k25⟩)
   (first
    | (go_at_call 9; refine (eqNode_any id tm vo ro cm el wt up lg st vs nx mt _ _ _ _ _ _ _ _ _ _ _ _ _ _ _ _ _ _ _ _ wA ((uh V7d).below hb7).read hO7.read (uh HSM)).mono ?_; rintro e wB ⟨rfl, hb8⟩)
    | (go_at_call 6; refine (toNode_any id tm vo ro cm el wt up lg st vs nx mt la lc sa sc va vc na nc ma mc _ (uh A7d) (uh HSM)).mono ?_; rintro e wA ⟨l9, s9, v9, n9, m9, rfl, hO7, hb7⟩; have hq7 : xb < wA.heap.size := Nat.lt_of_lt_of_le hzy hb7.size; have hp7 : w.heap.size < wA.heap.size := Nat.lt_of_lt_of_le hzx hb7.size; have k0 := (hb7.cell (p := ⟨xb, 0, none⟩) hzy).trans y70; have k1 := (hb7.cell (p := ⟨xb, 1, none⟩) hzy).trans y71; have k2 := (hb7.cell (p := ⟨xb, 2, none⟩) hzy).trans y72; have k3 := (hb7.cell (p := ⟨xb, 3, none⟩) hzy).trans y73; have k4 := (hb7.cell (p := ⟨xb, 4, none⟩) hzy).trans y74; have k5 := (hb7.cell (p := ⟨xb, 5, none⟩) hzy).trans y75; have k6 := (hb7.cell (p := ⟨xb, 6, none⟩) hzy).trans y76; have k7 := (hb7.cell (p := ⟨xb, 7, none⟩) hzy).trans y77; have k8 := (hb7.cell (p := ⟨xb, 8, none⟩) hzy).trans y78; have k9 := (hb7.cell (p := ⟨xb, 9, none⟩) hzy).trans y79; have k10 := (hb7.cell (p := ⟨xb, 10, none⟩) hzy).trans y710; have k11 := (hb7.cell (p := ⟨xb, 11, none⟩) hzy).trans y711; have k12 := (hb7.cell (p := ⟨xb, 12, none⟩) hzy).trans y712; have k13 := (hb7.cell (p := ⟨w.heap.size, 0, none⟩) hzx).trans x70; have k14 := (hb7.cell (p := ⟨w.heap.size, 1, none⟩) hzx).trans x71; have k15 := (hb7.cell (p := ⟨w.heap.size, 2, none⟩) hzx).trans x72; have k16 := (hb7.cell (p := ⟨w.heap.size, 3, none⟩) hzx).trans x73; have k17 := (hb7.cell (p := ⟨w.heap.size, 4, none⟩) hzx).trans x74; have k18 := (hb7.cell (p := ⟨w.heap.size, 5, none⟩) hzx).trans x75; have k19 := (hb7.cell (p := ⟨w.heap.size, 6, none⟩) hzx).trans x76; have k20 := (hb7.cell (p := ⟨w.heap.size, 7, none⟩) hzx).trans x77; have k21 := (hb7.cell (p := ⟨w.heap.size, 8, none⟩) hzx).trans x78; have k22 := (hb7.cell (p := ⟨w.heap.size, 9, none⟩) hzx).trans x79; have k23 := (hb7.cell (p := ⟨w.heap.size, 10, none⟩) hzx).trans x710; have k24 := (hb7.cell (p := ⟨w.heap.size, 11, none⟩) hzx).trans x711; have k25 := (hb7.cell (p := ⟨w.heap.size, 12, none⟩) hzx).trans x712))
  all_goals
   have K8_ := Hd (hb0.trans ((hb7.mono hb0.size).trans (hb8.mono (Nat.le_trans hb0.size hb7.size))))
   clear hb7 hb8 hO7 hb0
   go_wp2_with fail
   go_meet
   exact ⟨rfl, uh K8_⟩
 case rest =>
  obtain ⟨rfl, hb⟩ := hcut
  replace KW := hbt KW hb
  replace XN := Hd ((uh XN).below hb)
  replace AS := Hd ((uh AS).below hb)
  replace XS := Hd ((uh XS).below hb)
  replace VN := Hd ((uh VN).below hb)
  replace XX := Hd ((uh XX).below hb)
  replace AG := Hd ((uh AG).below hb)
  replace XG := Hd ((uh XG).below hb)
  clear hb
  generalize wc = w10 at *
  have y0 := (uh XX).cell 0 rfl
  have y1 := (uh XX).cell 1 rfl
  have y2 := (uh XX).cell 2 rfl
  have y3 := (uh XX).cell 3 rfl
  have y4 := (uh XX).cell 4 rfl
  have y5 := (uh XX).cell 5 rfl
  have y6 := (uh XX).cell 6 rfl
  have y7 := (uh XX).cell 7 rfl
  have y8 := (uh XX).cell 8 rfl
  have y9 := (uh XX).cell 9 rfl
  have y10 := (uh XX).cell 10 rfl
  have y11 := (uh XX).cell 11 rfl
  have y12 := (uh XX).cell 12 rfl
  have hy10 := (uh XX).1
  have HC := Hd (markNode_any id tm vo ro cm el wt up lg st vs nx mt (some ⟨l4, 0, none⟩) lg.length (some ⟨s4, 0, none⟩) st.length (some ⟨v4, 0, none⟩) vs.length (some ⟨n4, 0, none⟩) nx.length (some ⟨m4, 0, none⟩) mt.length lg.length st.length vs.length nx.length mt.length rfl rfl rfl rfl rfl XB w10 (uh VN) (by omega) (uh HSM))
  go_wp2_with fail
  refine (uh HC).mono ?_
  rintro e w11 ⟨rfl, hO11, ht⟩
  have hvb := uh VB
  have hwx : w.heap.size < XB := by have := (uh HWL); omega
  replace KW := Hd ((uh KW).trans (ht.below (uh KW).size (fun x hx e => by have := hvb x e; omega)))
  replace AS := Hd ((uh AS).touch ht (fun q h1 h2 e => by have := hvb q e; omega))
  replace AG := Hd ((uh AG).touch ht (fun q h1 h2 e => by have := hvb q e; omega))
  replace XS := Hd ((uh XS).kept ht (fun e => by have := hvb _ e; omega))
  replace XG := Hd ((uh XG).kept ht (fun e => by have := hvb _ e; omega))
  replace XN := Hd ((uh XN).kept ht (fun e => by have := hvb _ e; omega))
  clear ht hO11 hvb HC VN XX y0 y1 y2 y3 y4 y5 y6 y7 y8 y9 y10 y11 y12 hy10
  have hkm0 : ¬ ((((1 + 3 * lg.length + st.length + vs.length + nx.length + mt.length : Nat)) : Int) < 0) := by omega
  generalize (1 + 3 * lg.length + st.length + vs.length + nx.length + mt.length) = mk0 at *
  obtain ⟨⟨e0, e1, e2, e3, e4, e5⟩, _⟩ := Blk.c6 (uh XG)
  obtain ⟨⟨f0, f1, f2, f3, f4, f5⟩, _⟩ := Blk.c6 (uh XS)
  go_wp2_with fail
  refine (eqLedger_any lsN kN vN aN ksN ssN _ _ _ _ _ _ _ _ _ _ _ _ w11 (uh AG).led (uh AS).led (uh HN).1 (uh HN).2.2.1).mono ?_
  rintro e w12 ⟨rfl, hb⟩
  replace KW := hbt KW hb
  replace XN := Hd ((uh XN).below hb)
  replace AS := Hd ((uh AS).below hb)
  replace XS := Hd ((uh XS).below hb)
  replace AG := Hd ((uh AG).below hb)
  replace XG := Hd ((uh XG).below hb)
  clear hb e0 e1 e2 e3 e4 e5 f0 f1 f2 f3 f4 f5
  obtain ⟨⟨e0, e1, e2, e3, e4, e5⟩, _⟩ := Blk.c6 (uh XG)
  have hMG12 : MG ≤ w12.heap.size := by have := (uh XG).1; omega
  go_wp2_with fail
  refine (markLedgerK_any lsN kN vN aN ksN ssN _ _ _ _ _ _ BG MG w12 (uh AG) hMG12 (uh HN).1 (uh HN).2.1 (uh HN).2.2.1 (uh HN).2.2.2).mono ?_
  rintro e w13 ⟨rfl, hVK, ht⟩
  have VK := Hd hVK
  replace KW := Hd ((uh KW).trans (ht.below (uh KW).size (fun x hx e => by omega)))
  replace AS := Hd ((uh AS).touch ht (fun q h1 h2 e => by omega))
  replace XS := Hd ((uh XS).kept ht (fun e => by omega))
  replace XG := Hd ((uh XG).kept ht (fun e => by omega))
  replace XN := Hd ((uh XN).kept ht (fun e => by omega))
  clear ht hVK AG e0 e1 e2 e3 e4 e5
  have HHL : Hid (∀ wx, LedK BG MG wx (.slice gla lsN.length glc) (.slice gka ksN.length gkc) (.slice gsa ssN.length gsc) lsN ksN ssN → Calls Tryz.prog 12 #[.agg #[.slice gla lsN.length glc, .string kN, .string vN, .int .i64 aN, .slice gka ksN.length gkc, .slice gsa ssN.length gsc], .int .i64 1] wx fun e w' => e = .returned (.int .i64 ((ledC3 lsN ksN ssN : Nat) : Int)) ∧ Below wx.heap.size wx w') := Hd (fun wx hx => heldLedger_any lsN kN vN aN ksN ssN _ _ _ _ _ _ BG MG wx hx (uh HN).1 (uh HN).2.1 (uh HN).2.2.1 (uh HN).2.2.2)
  generalize ledC3 lsN ksN ssN = mm at *
  have hm0 : ¬ (mm : Int) < 0 := by omega
  have b5 : (mm == mm) = true := by simp
  have b6 : ((mm : Int) == (mm : Int)) = true := by simp
  have b7 : ((mm : Int) != (mm : Int)) = false := by simp
  obtain ⟨⟨e0, e1, e2, e3, e4, e5⟩, _⟩ := Blk.c6 (uh XG)
  go_wp2_with fail
  refine (uh HHL w13 (uh VK)).mono ?_
  rintro e w14 ⟨rfl, hb⟩
  replace KW := hbt KW hb
  replace XN := Hd ((uh XN).below hb)
  replace AS := Hd ((uh AS).below hb)
  replace XS := Hd ((uh XS).below hb)
  replace XG := Hd ((uh XG).below hb)
  replace VK := Hd ((uh VK).below hb)
  clear hb e0 e1 e2 e3 e4 e5
  have A_ := Hd ((uh HF).below (uh KW))
  have x0 := (uh XN).cell 0 rfl
  have x1 := (uh XN).cell 1 rfl
  have x2 := (uh XN).cell 2 rfl
  have x3 := (uh XN).cell 3 rfl
  have x4 := (uh XN).cell 4 rfl
  have x5 := (uh XN).cell 5 rfl
  have x6 := (uh XN).cell 6 rfl
  have x7 := (uh XN).cell 7 rfl
  have x8 := (uh XN).cell 8 rfl
  have x9 := (uh XN).cell 9 rfl
  have x10 := (uh XN).cell 10 rfl
  have x11 := (uh XN).cell 11 rfl
  have x12 := (uh XN).cell 12 rfl
  go_wp2_with fail
  refine (toNode_any id tm vo ro cm el wt up lg st vs nx mt la lc sa sc va vc na nc ma mc w14 (uh A_) (uh HSM)).mono ?_
  rintro e w15 ⟨l15, s15, v15, n15, m15, rfl, hO, hb⟩
  replace KW := hbt KW hb
  replace XN := Hd ((uh XN).below hb)
  replace AS := Hd ((uh AS).below hb)
  replace XS := Hd ((uh XS).below hb)
  replace XG := Hd ((uh XG).below hb)
  replace VK := Hd ((uh VK).below hb)
  clear A_ x0 x1 x2 x3 x4 x5 x6 x7 x8 x9 x10 x11 x12
  have VR := Hd hO.read
  clear hO hb
  go_wp2_with fail
  refine (uh HIM w15 _ _ _ _ _ _ _ _ _ _ (uh VR) (uh KW)).mono ?_
  rintro e w16 ⟨hla, hlc, hka, hkn, hkc, hsa, hsc, rfl, hL, hb⟩
  dsimp only [Br.key, Br.val, Br.at_, Br.kids] at hL ⊢
  obtain rfl := hL.kn
  have AH := Hd hL.up
  obtain ⟨BH, hBH⟩ : ∃ BH, BH = w15.heap.size := ⟨_, rfl⟩
  obtain ⟨MH, hMH⟩ : ∃ MH, MH = w16.heap.size := ⟨_, rfl⟩
  rw [← hBH, ← hMH] at AH
  replace KW := hbt KW hb
  replace XN := Hd ((uh XN).below hb)
  replace AS := Hd ((uh AS).below hb)
  replace XS := Hd ((uh XS).below hb)
  replace XG := Hd ((uh XG).below hb)
  replace VK := Hd ((uh VK).below hb)
  have hbm : BH ≤ MH := by rw [hBH, hMH]; exact hb.size
  have bA := bal w16 (.cells #[.slice hla lsN.length hlc, .string kN, .string vN, .int .i64 aN, .slice hka ksN.length hkc, .slice hsa ssN.length hsc] 33)
  have XH := Hd (Blk.new w16 #[.slice hla lsN.length hlc, .string kN, .string vN, .int .i64 aN, .slice hka ksN.length hkc, .slice hsa ssN.length hsc] 33 w16.heap.size rfl)
  replace KW := hbt KW bA
  replace XN := Hd ((uh XN).below bA)
  replace AS := Hd ((uh AS).below bA)
  replace XS := Hd ((uh XS).below bA)
  replace XG := Hd ((uh XG).below bA)
  replace VK := Hd ((uh VK).below bA)
  replace AH := Hd ((uh AH).below bA)
  clear hL hb bA
  go_upto_region 25 with fail
  generalize w16.alloc (.cells #[.slice hla lsN.length hlc, .string kN, .string vN, .int .i64 aN, .slice hka ksN.length hkc, .slice hsa ssN.length hsc] 33) = w17 at *
  obtain ⟨hb_, hhb_⟩ : ∃ hb_, hb_ = w16.heap.size := ⟨_, rfl⟩
  rw [← hhb_] at XH ⊢
  have hhb_M : MH = hb_ := by rw [hhb_, hMH]
  have hhb_l : hb_ < w17.heap.size := (uh XH).1
  clear VR HIM hBH hMH hhb_
  obtain ⟨⟨e0, e1, e2, e3, e4, e5⟩, _⟩ := Blk.c6 (uh XH)
  obtain ⟨⟨f0, f1, f2, f3, f4, f5⟩, _⟩ := Blk.c6 (uh XS)
  go_wp2_with fail
  refine (eqLedger_any lsN kN vN aN ksN ssN _ _ _ _ _ _ _ _ _ _ _ _ w17 (uh AH).led (uh AS).led (uh HN).1 (uh HN).2.2.1).mono ?_
  rintro e w18 ⟨rfl, hb⟩
  replace KW := hbt KW hb
  replace XN := Hd ((uh XN).below hb)
  replace AS := Hd ((uh AS).below hb)
  replace XS := Hd ((uh XS).below hb)
  replace XG := Hd ((uh XG).below hb)
  replace VK := Hd ((uh VK).below hb)
  replace AH := Hd ((uh AH).below hb)
  replace XH := Hd ((uh XH).below hb)
  clear hb e0 e1 e2 e3 e4 e5 f0 f1 f2 f3 f4 f5
  obtain ⟨⟨e0, e1, e2, e3, e4, e5⟩, _⟩ := Blk.c6 (uh XG)
  go_wp2_with fail
  refine (uh HHL w18 (uh VK)).mono ?_
  rintro e w19 ⟨rfl, hb⟩
  replace KW := hbt KW hb
  replace XN := Hd ((uh XN).below hb)
  replace AS := Hd ((uh AS).below hb)
  replace XS := Hd ((uh XS).below hb)
  replace XG := Hd ((uh XG).below hb)
  replace VK := Hd ((uh VK).below hb)
  clear hb e0 e1 e2 e3 e4 e5
  go_wp2_with fail
  go_ret
  exact ⟨rfl, uh KW⟩

theorem vars_of_laid {W : World} (h : laidMetH Tryz.prog Rows.fnExactApplyNodeRow.laid W) :
  W.var? Tryz.prog "loop.example/g00220/impl.firstWords" = some firstCells ∧ W.var? Tryz.prog "loop.example/g00220/impl.roundWords" = some roundCells := by
 rw [MakeChecks.laidMetH_plain _ _ _ (by kernel_rfl)] at h
 obtain ⟨ps, ⟨g0, t0, cs0, f0, p0, q0, hg0, ht0, hv0, hd0, ⟨g1, t1, cs1, f1, p1, q1, hg1, ht1, hv1, hd1, _, _⟩, _⟩, _, _⟩ := h
 obtain rfl := Option.some.inj (gFirst.symm.trans hg0)
 obtain rfl := Option.some.inj (gRound.symm.trans hg1)
 obtain rfl := Option.some.inj (gFirstType.symm.trans ht0)
 obtain rfl := Option.some.inj (gRoundType.symm.trans ht1)
 have e0 := Lib.cells_of_tab (k := .u32) (cs := cs0.toList) (zs := iL.map fun (n : Nat) => (n : Int)) Tryz.underlying182 Tryz.underlying167 cellsE cellsA hd0
 have e1 := Lib.cells_of_tab (k := .u32) (cs := cs1.toList) (zs := kL.map fun (n : Nat) => (n : Int)) Tryz.underlying186 Tryz.underlying167 cellsE cellsB hd1
 have a0 : cs0 = firstCells := by
  have : cs0.toList = firstCells.toList := e0.trans (by kernel_rfl)
  exact Array.toList_inj.1 this
 have a1 : cs1 = roundCells := by
  have : cs1.toList = roundCells.toList := e1.trans (by kernel_rfl)
  exact Array.toList_inj.1 this
 exact ⟨by rw [hv0, a0], by rw [hv1, a1]⟩
theorem door_met (os : Os) (args : Array Value) : laidMetH Tryz.prog Rows.fnExactApplyNodeRow.laid ((World.doorLaid Tryz.prog 19 os).forCall (fun _ _ => 0) ⟨#[], args, []⟩).memory :=
 laidMetH_of_parts3 (fuel := 8) (laidMet_of_run' 8 (by kernel_rfl) (by kernel_rfl)) (by kernel_rfl) (by kernel_rfl)
theorem lifted (os : Os) (started : os.Started) (H : Type) (enc : TypeId × Value → H) :
  ReturnsInHanded {} Tryz.checked os 3 .any (fun w args => (Rows.fnExactApplyNodeSpec.pre enc Tryz.prog Tryz.f3 [] false w args ∧ laidMetH Tryz.prog Rows.fnExactApplyNodeRow.laid w) ∧ sizedMet enc Tryz.prog Tryz.f3 (OpenSpec.ofChange Rows.fnExactApplyNodeSpec) false w args)
   (Rows.fnExactApplyNodeSpec.post enc Tryz.prog Tryz.f3 false true false false) := by
 refine returnsInHanded_of_change_and (C := Tryz.checked) (X := fun w _ => laidMetH Tryz.prog Rows.fnExactApplyNodeRow.laid w) (fun _ _ _ hh h => h.of_heap hh) own started (by kernel_rfl) Tryz.func3
  (ChangeSpec.witness_shaped (enc := enc) (C := Tryz.checked) (os := os) (X := fun w _ => laidMetH Tryz.prog Rows.fnExactApplyNodeRow.laid w) false (World.doorLaid Tryz.prog 19 os) #[.agg #[.int .i64 0, .int .i64 0, .int .i64 0, .slice none 0 0, .slice none 0 0, .int .i64 0, .slice none 0 0, .slice none 0 0, .slice none 0 0, .int .i64 0, .int .i64 0, .int .i64 0, .bool false]] 8 rfl (World.shaped_of_RefB (by kernel_rfl) (by kernel_rfl)) (by kernel_rfl) (by kernel_rfl) (by kernel_rfl) (door_met os _)) ?_
 intro W base args ds gs before hval0 hW _ _ hL _
 have hval : ∀ (j : Nat) t v, Tryz.f3.params[j]? = some t → args[j]? = some v → Value.okWide Tryz.prog W .any base t v := hval0
 have hW' := hW
 obtain ⟨p, q, hA0, hV0, rfl, hfz, hnd⟩ := hW
 have hA : DataW.TrodAll enc Tryz.prog W 0 (fun _ => true) true Tryz.f3.params.toList args.toList ds p := hA0
 have hV : DataW.TrodVars enc Tryz.prog W (fun _ => true) ["loop.example/g00220/impl.firstWords", "loop.example/g00220/impl.roundWords"] gs q := hV0
 rw [Tryz.params3] at hA hval
 obtain ⟨v0, vs0, d0, ds0, p0, q0, hargs, rfl, rfl, h0, r0⟩ := trodAll_cons hA
 obtain ⟨rfl, rfl, rfl⟩ := trodAll_nil r0
 obtain rfl : args = #[v0] := by cases args; simp_all
 have k0 := h0
 have lt0 : ∀ x ∈ p0, x.block < W.heap.size := by obtain ⟨m, hm⟩ := k0; exact DataW.trod_lt m _ _ _ hm
 obtain ⟨id0, tm0, vo0, ro0, cm0, el0, wt0, up0, lv0, sv0, vv0, nv0, mv0, lg0, st0, vt0, nx0, mt0, rfl, hf0, hz0⟩ := open_node (hval 0 25 v0 rfl rfl) h0
 obtain ⟨hvA, hvB⟩ := vars_of_laid hL
 clear hA0 hV0 hval0
 refine (walk id0 tm0 vo0 ro0 cm0 el0 wt0 up0 lv0 sv0 vv0 nv0 mv0 lg0 st0 vt0 nx0 mt0 W hf0 hz0 (first_of hvA) (table_of hvB)).mono fun e W' ⟨he, bel⟩ => ?_
 subst he
 obtain ⟨rfl, pv, hvs⟩ := vars_again (sp := fun b => decide (b < W.heap.size)) hvA hvB hV bel
 exact ⟨_, rfl, _, _, _, [], _, pv, hW', trodAll_mk1 (shut_bool Tryz.underlying4 _), (trodAll_cons_mk (Below.trod laidOut (by kernel_rfl) (of_decide_eq_true (by kernel_rfl)) k0 bel lt0) trodAll_mk0), hvs, bel.frame _, fun h => by cases h⟩

theorem said : Rows.FnExactApplyNodeSaid :=
 OpenClaim.holds_of_wide 3 Tryz.f3 rfl rfl rfl rfl rfl rfl rfl ⟨rfl, rfl, rfl, rfl, rfl⟩ rfl rfl rfl rfl rfl (by kernel_rfl) Tryz.func3 (by kernel_rfl)
  (of_decide_eq_true (by kernel_rfl)) (by unfold Func.isWrapper; first | (rw [if_pos (by decide +kernel)]; kernel_rfl) | (rw [if_neg (by decide +kernel)]; exact ⟨rfl, rfl⟩))
  (fun os started H enc _ => lifted os started H enc)

theorem plain (f : FuncId) (fn : Func) (hf : Tryz.pinned.checked.prog.funcNamed "loop.example/g00220/laws.FnExactApplyNode" = some f) (hfn : Tryz.pinned.checked.prog.funcs[f]? = some fn) :
  false = Tryz.pinned.checked.prog.looks [] ∧ ∀ (j : Nat) t, fn.params[j]? = some t → Tryz.pinned.checked.prog.wantsStandIn t = false := by
 obtain rfl : f = 3 := Option.some.inj ((show Tryz.prog.funcNamed "loop.example/g00220/laws.FnExactApplyNode" = some 3 by kernel_rfl).symm.trans hf) |>.symm
 obtain rfl : fn = Tryz.f3 := (Option.some.inj (Tryz.func3.symm.trans hfn)).symm
 refine ⟨by kernel_rfl, fun j t ht => ?_⟩
 rw [Tryz.params3] at ht
 obtain rfl : t = 25 := by
  have := Array.mem_of_getElem? ht
  simpa using this
 exact (show Tryz.prog.wantsStandIn 25 = false by kernel_rfl)
end Go.Proofs.YtbchnheinnileaaGreatDoor.fnExactApplyNode
namespace Go.Proofs.YtbchnheinnileaaGreatDoor
theorem fnExactApplyNode_card : Rows.FnExactApplyNodeCardSaid :=
 Claim7.holds_tied_plain_at .later [] _ _ _ _ fnExactApplyNode.said (fun _ h => by cases h) (by kernel_rfl) (fun _ h => by cases h) fnExactApplyNode_row_tie rfl ⟨rfl, rfl⟩ (by kernel_rfl) rfl fnExactApplyNode.plain (by kernel_rfl)
#print axioms fnExactApplyNode_card
end Go.Proofs.YtbchnheinnileaaGreatDoor
