/- For every list of commands that can be read, laws.FnExactApplyAll returns true, the list reads as it did, and so do the two tables of words, which the card ties to the program's text. Condition: the listed tables start as the program's text lays them. (Written by py/lala.py.) -/
import Derived.Test.YtnhhnjmjodmacaaGreatDoorQaa43
import Derived.Test.YtnhhnjmjodmacaaGreatDoorQaa44
import Derived.Test.YtnhhnjmjodmacaaGreatDoorQaa45
import Derived.Test.YtnhhnjmjodmacaaGreatDoorQaa03
import Derived.Test.YtnhhnjmjodmacaaGreatDoorQaa01
import Derived.Test.YtnhhnjmjodmacaaGreatDoorCards
import Derived.Test.YtnhhnjmjodmacaaGreatDoorTie
namespace Go.Proofs.YtnhhnjmjodmacaaGreatDoor.fnExactApplyAll
set_option maxRecDepth 100000
set_option maxHeartbeats 8000000
open Go.ChangeShapes Go.WideShapes Go.ChangeAt Go.RowKit Go.Deep Sha
open Go.ChangeMaps (open_string shut_string)
set_option linter.unusedVariables false
set_option linter.unusedSimpArgs false
theorem aa_small (l : List Cm) : (aaO l).1.ls.length ≤ 50 ∧ cntL (brOf (aaO l).1.o).kids ≤ 80 ∧ (aaO l).1.ss.length ≤ 8 ∧ (aaO l).2.1.length ≤ 120 := by
 have h0 : (zLst.ls.length ≤ 50 ∧ cntL (brOf zLst.o).kids ≤ 80 ∧ zLst.ss.length ≤ 8 ∧ ([] : List Re).length ≤ 120) := ⟨Nat.zero_le _, (by show cntL [] ≤ 80; unfold cntL; omega), Nat.zero_le _, Nat.zero_le _⟩
 by_cases h4 : 4096 < l.length
 ·rw [aaO_long h4]; exact h0
 ·by_cases h1 : 120 < l.length
  ·rw [aaO_many h4 h1]; exact h0
  ·by_cases hb : ∃ i, i < l.length ∧ cmK (l.getD i default) = false
   ·rw [aaO_bad h1 hb]; exact h0
   ·have hg : ∀ i, i < l.length → cmK (l.getD i default) = true := fun i hi => by
     cases e : cmK (l.getD i default) with
     | true => rfl
     | false => exact absurd ⟨i, hi, e⟩ hb
    rw [aaO_good h1 hg]
    have h5 := stA_ok (l := l) l.length hg
    exact ⟨h5.n, lok_cnt h5, h5.m, by show (resA l l.length).length ≤ 120; rw [resA_len]; omega⟩
theorem walk (v : Value) (l : List Cm) (w : World) (hf : Css w v l) (hz : ∀ i, i < l.length → (Lit.int .i64 (l.getD i default).kd).wf = true ∧ (Lit.int .i64 (l.getD i default).ss).wf = true ∧ (Lit.int .i64 (l.getD i default).sq).wf = true ∧ (l.getD i default).ky.size ≤ maxLen ∧ (l.getD i default).vl.size ≤ maxLen) (hF : First w) (hT : Table w) :
  Calls Tryz.prog 4 #[v] w fun e w' => e = .returned (.bool true) ∧ Below w.heap.size w w' := by
 have HT := Hd (show Tab w from ⟨hF, hT⟩)
 have HF := Hd hf
 have HZ := Hd (fun i hi => (hz i hi).2.2.2)
 clear hf hz hF hT
 obtain ⟨hs1, hs2, hs3, hs4⟩ := aa_small l
 have HSP1 := Hd (fun (hs : l.length ≤ 1048576) wx vx (hx : Css wx vx l) => specApplyAll_any vx l wx hx hs (uh HZ))
 have HIM1 := Hd (fun (hs : l.length ≤ 1048576) wx vx (hx : Css wx vx l) (hb : Below w.heap.size w wx) => implApplyAll_any vx l wx hx hs (uh HZ) ((uh HT).below hb))
 generalize aaO l = out at *
 obtain ⟨⟨lsN, oN, ssN⟩, rsN, code⟩ := out
 unfold AaE at HSP1 HIM1
 dsimp only at HSP1 HIM1 hs1 hs2 hs3 hs4
 have HN := Hd (show lsN.length ≤ 1048576 ∧ cntL (brOf oN).kids ≤ 1048576 ∧ ssN.length ≤ 1048576 ∧ 1 + lsN.length + 3 * cntL (brOf oN).kids ≤ 4194304 ∧ rsN.length ≤ 1048576 from ⟨by omega, by omega, by omega, by omega, by omega⟩)
 have HC3 := Hd (show 0 < ledC3 lsN (brOf oN).kids ssN ∧ ledC3 lsN (brOf oN).kids ssN ≤ 4194304 from by unfold ledC3; exact ⟨by omega, by omega⟩)
 clear hs1 hs2 hs3 hs4
 generalize hbN : brOf oN = bN at *
 have HBN := Hd hbN
 clear hbN
 obtain ⟨kN, vN, aN, ksN⟩ := bN
 dsimp only [Br.key, Br.val, Br.at_, Br.kids] at HSP1 HIM1 HN HC3
 have KW := Hd (Below.refl w.heap.size w)
 go_enter Tryz.func4, Tryz.ntmps4
 go_wp2_with fail
 refine (szCommandS_any 1048576 (by omega) (by omega) v l w (uh HF) (uh HZ)).mono ?_
 rintro e w1 ⟨rfl, hb⟩
 replace KW := hbt KW hb
 clear hb
 rcases kcszR_cases 1048576 l with hr | ⟨hr, hrl⟩
 ·rw [hr]
  go_wp2_with fail
  go_ret
  exact ⟨rfl, uh KW⟩
 have HS := Hd (kcsmall_of 1048576 (by omega) l hr).1
 have HSP := Hd (uh HSP1 (uh HS))
 have HIM := Hd (uh HIM1 (uh HS))
 clear HSP1 HIM1
 generalize kcszR 1048576 l = r at *
 have hr2 : ¬ r < 0 := by omega
 go_wp2_with fail
 refine (toCommandS_any v l w1 ((uh HF).below (uh KW)) (uh HS)).mono ?_
 rintro e w2 ⟨rfl, hO, hlt, hb⟩
 have hlo := (uh KW).size
 replace KW := hbt KW hb
 have OA := Hd hO
 obtain ⟨ga, hga⟩ : ∃ ga, ga = w1.heap.size := ⟨_, rfl⟩
 rw [← hga] at OA ⊢
 have hgal : ga < w2.heap.size := by rw [hga]; exact hlt
 have hwga : w.heap.size ≤ ga := by rw [hga]; exact hlo
 clear hlo
 clear hga hlt hb hO
 go_wp2_with fail
 refine (uh HSP w2 _ (uh OA).read).mono ?_
 rintro e w3 ⟨slv, skv, ssv, srv, rfl, hA, hb⟩
 dsimp only at hA ⊢
 obtain ⟨SS, hU⟩ := hA.u
 dsimp only at hU
 rw [uh HBN] at hU
 dsimp only [Br.kids] at hU
 obtain ⟨sla, slc, e1, _⟩ := hA.1.strs
 obtain ⟨ssa, ssc, e2, _⟩ := hA.2.1.read
 obtain ⟨ska, skc, e3, _⟩ := hU.1.2.2.2.2.2.1.shape
 obtain ⟨sra, src, e4, _⟩ := hA.2.2.2.1.read
 dsimp only at e1 e2
 subst e1 e2 e3 e4
 have AS := Hd hU
 obtain ⟨BS, hBS⟩ : ∃ BS, BS = w2.heap.size := ⟨_, rfl⟩
 obtain ⟨MS, hMS⟩ : ∃ MS, MS = w3.heap.size := ⟨_, rfl⟩
 rw [← hBS, ← hMS] at AS
 replace KW := hbt KW hb
 replace OA := Hd ((uh OA).below hb)
 have hbm : BS ≤ MS := by rw [hBS, hMS]; exact hb.size
 have bA := bal w3 (.cells #[.slice sla lsN.length slc, .string kN, .string vN, .int .i64 aN, .slice ska ksN.length skc, .slice ssa ssN.length ssc] 38)
 have XS := Hd (Blk.new w3 #[.slice sla lsN.length slc, .string kN, .string vN, .int .i64 aN, .slice ska ksN.length skc, .slice ssa ssN.length ssc] 38 w3.heap.size rfl)
 replace KW := hbt KW bA
 replace OA := Hd ((uh OA).below bA)
 replace AS := Hd ((uh AS).below bA)
 clear hA hU hb bA
 go_upto_region 6 with fail
 generalize w3.alloc (.cells #[.slice sla lsN.length slc, .string kN, .string vN, .int .i64 aN, .slice ska ksN.length skc, .slice ssa ssN.length ssc] 38) = w4 at *
 obtain ⟨sb, hsb⟩ : ∃ sb, sb = w3.heap.size := ⟨_, rfl⟩
 rw [← hsb] at XS ⊢
 have hsbM : MS ≤ sb := by rw [hsb, hMS]; exact Nat.le_refl _
 have hsbl : sb < w4.heap.size := (uh XS).1
 clear OA HSP hBS hMS hsb
 go_wp2_with fail
 refine (toCommandS_any v l w4 ((uh HF).below (uh KW)) (uh HS)).mono ?_
 rintro e w5 ⟨rfl, hO, hlt, hb⟩
 have hlo := (uh KW).size
 replace KW := hbt KW hb
 replace AS := Hd ((uh AS).below hb)
 replace XS := Hd ((uh XS).below hb)
 have OX := Hd hO
 obtain ⟨gx, hgx⟩ : ∃ gx, gx = w4.heap.size := ⟨_, rfl⟩
 rw [← hgx] at OX ⊢
 have hgxl : gx < w5.heap.size := by rw [hgx]; exact hlt
 have hwgx : w.heap.size ≤ gx := by rw [hgx]; exact hlo
 clear hlo
 have hMx : MS < gx := by omega
 have hsg : sb < gx := by omega
 clear hgx hlt hb hO
 go_wp2_with fail
 refine (uh HIM w5 _ (uh OX).read (uh KW)).mono ?_
 rintro e w6 ⟨glv, gkv, gsv, grv, rfl, hA, hb⟩
 dsimp only at hA ⊢
 obtain ⟨SG, hU⟩ := hA.u
 dsimp only at hU
 rw [uh HBN] at hU
 dsimp only [Br.kids] at hU
 obtain ⟨gla, glc, e1, _⟩ := hA.1.strs
 obtain ⟨gsa, gsc, e2, _⟩ := hA.2.1.read
 obtain ⟨gka, gkc, e3, _⟩ := hU.1.2.2.2.2.2.1.shape
 obtain ⟨gra, grc, e4, _⟩ := hA.2.2.2.1.read
 dsimp only at e1 e2
 subst e1 e2 e3 e4
 have AG := Hd hU
 obtain ⟨BG, hBG⟩ : ∃ BG, BG = w5.heap.size := ⟨_, rfl⟩
 obtain ⟨MG, hMG⟩ : ∃ MG, MG = w6.heap.size := ⟨_, rfl⟩
 rw [← hBG, ← hMG] at AG
 replace KW := hbt KW hb
 replace AS := Hd ((uh AS).below hb)
 replace XS := Hd ((uh XS).below hb)
 replace OX := Hd ((uh OX).below hb)
 have hbm : BG ≤ MG := by rw [hBG, hMG]; exact hb.size
 have bA := bal w6 (.cells #[.slice gla lsN.length glc, .string kN, .string vN, .int .i64 aN, .slice gka ksN.length gkc, .slice gsa ssN.length gsc] 38)
 have XG := Hd (Blk.new w6 #[.slice gla lsN.length glc, .string kN, .string vN, .int .i64 aN, .slice gka ksN.length gkc, .slice gsa ssN.length gsc] 38 w6.heap.size rfl)
 replace KW := hbt KW bA
 replace AS := Hd ((uh AS).below bA)
 replace XS := Hd ((uh XS).below bA)
 replace OX := Hd ((uh OX).below bA)
 replace AG := Hd ((uh AG).below bA)
 clear hA hU hb bA
 go_upto_region 8 with fail
 generalize w6.alloc (.cells #[.slice gla lsN.length glc, .string kN, .string vN, .int .i64 aN, .slice gka ksN.length gkc, .slice gsa ssN.length gsc] 38) = w7 at *
 obtain ⟨gb, hgb⟩ : ∃ gb, gb = w6.heap.size := ⟨_, rfl⟩
 rw [← hgb] at XG ⊢
 have hgbM : MG ≤ gb := by rw [hgb, hMG]; exact Nat.le_refl _
 have hgbl : gb < w7.heap.size := (uh XG).1
 have hxg : gx < BG := by omega
 clear hBG hMG hgb
 have b3 : (code == code) = true := by simp
 have b4 : (code != code) = false := by simp
 obtain ⟨⟨e0, e1, e2, e3, e4, e5⟩, _⟩ := Blk.c6 (uh XG)
 obtain ⟨⟨f0, f1, f2, f3, f4, f5⟩, _⟩ := Blk.c6 (uh XS)
 go_wp2_with fail
 refine (eqLedger_any lsN kN vN aN ksN ssN _ _ _ _ _ _ _ _ _ _ _ _ w7 (uh AG).1.led (uh AS).1.led (uh HN).1 (uh HN).2.2.1).mono ?_
 rintro e w8 ⟨rfl, hb⟩
 replace KW := hbt KW hb
 replace AS := Hd ((uh AS).below hb)
 replace XS := Hd ((uh XS).below hb)
 replace OX := Hd ((uh OX).below hb)
 replace AG := Hd ((uh AG).below hb)
 replace XG := Hd ((uh XG).below hb)
 clear hb e0 e1 e2 e3 e4 e5 f0 f1 f2 f3 f4 f5
 go_wp2_with fail
 refine (eqReplyS_any _ _ rsN w8 (uh AG).2.1.read (uh AS).2.1.read (uh HN).2.2.2.2).mono ?_
 rintro e w9 ⟨rfl, hb⟩
 replace KW := hbt KW hb
 replace AS := Hd ((uh AS).below hb)
 replace XS := Hd ((uh XS).below hb)
 replace OX := Hd ((uh OX).below hb)
 replace AG := Hd ((uh AG).below hb)
 replace XG := Hd ((uh XG).below hb)
 clear hb
 go_wp2_with fail
 refine (toCommandS_any v l w9 ((uh HF).below (uh KW)) (uh HS)).mono ?_
 rintro e w10 ⟨rfl, hO, hlt, hb⟩
 have hlo := (uh KW).size
 replace KW := hbt KW hb
 replace AS := Hd ((uh AS).below hb)
 replace XS := Hd ((uh XS).below hb)
 replace OX := Hd ((uh OX).below hb)
 replace AG := Hd ((uh AG).below hb)
 replace XG := Hd ((uh XG).below hb)
 have OB := Hd hO
 obtain ⟨gy, hgy⟩ : ∃ gy, gy = w9.heap.size := ⟨_, rfl⟩
 rw [← hgy] at OB ⊢
 have hgyl : gy < w10.heap.size := by rw [hgy]; exact hlt
 have hwgy : w.heap.size ≤ gy := by rw [hgy]; exact hlo
 clear hlo
 clear hgy hlt hb hO
 go_wp2_with fail
 refine (eqCommandS_any _ _ l w10 (uh OX).read (uh OB).read (uh HS)).mono ?_
 rintro e w11 ⟨rfl, hb⟩
 replace KW := hbt KW hb
 replace AS := Hd ((uh AS).below hb)
 replace XS := Hd ((uh XS).below hb)
 replace OX := Hd ((uh OX).below hb)
 replace AG := Hd ((uh AG).below hb)
 replace XG := Hd ((uh XG).below hb)
 clear hb OB
 go_wp2_with fail
 refine (markCommandS_any 1 (by omega) (by omega) _ _ l w11 (uh OX) (uh HS)).mono ?_
 rintro e w12 ⟨rfl, _, ht⟩
 have hox := (uh OX).lt
 have hxe : ∀ q, (Value.slice (some ⟨gx, 0, none⟩) l.length l.length).ownBlock = some q → q = gx := fun q hq => (Option.some.inj hq).symm
 replace KW := Hd ((uh KW).trans (ht.below (uh KW).size (fun x hx e => by have := hxe x e; omega)))
 replace AS := Hd ((uh AS).touch ht (fun q h1 h2 e => by have := hxe q e; omega))
 replace AG := Hd ((uh AG).touch ht (fun q h1 h2 e => by have := hxe q e; omega))
 replace XS := Hd ((uh XS).kept ht (fun e => by have := hxe _ e; omega))
 replace XG := Hd ((uh XG).kept ht (fun e => by have := hxe _ e; omega))
 clear ht hox hxe OX
 have hk5 : ¬ ((1 : Int) + 5 * (l.length : Int)) < 0 := by omega
 generalize (1 : Int) + 5 * (l.length : Int) = kk at *
 obtain ⟨⟨e0, e1, e2, e3, e4, e5⟩, _⟩ := Blk.c6 (uh XG)
 obtain ⟨⟨f0, f1, f2, f3, f4, f5⟩, _⟩ := Blk.c6 (uh XS)
 go_wp2_with fail
 refine (eqLedger_any lsN kN vN aN ksN ssN _ _ _ _ _ _ _ _ _ _ _ _ w12 (uh AG).1.led (uh AS).1.led (uh HN).1 (uh HN).2.2.1).mono ?_
 rintro e w13 ⟨rfl, hb⟩
 replace KW := hbt KW hb
 replace AS := Hd ((uh AS).below hb)
 replace XS := Hd ((uh XS).below hb)
 replace AG := Hd ((uh AG).below hb)
 replace XG := Hd ((uh XG).below hb)
 clear hb e0 e1 e2 e3 e4 e5 f0 f1 f2 f3 f4 f5
 go_wp2_with fail
 refine (eqReplyS_any _ _ rsN w13 (uh AG).2.1.read (uh AS).2.1.read (uh HN).2.2.2.2).mono ?_
 rintro e w14 ⟨rfl, hb⟩
 replace KW := hbt KW hb
 replace AS := Hd ((uh AS).below hb)
 replace XS := Hd ((uh XS).below hb)
 replace AG := Hd ((uh AG).below hb)
 replace XG := Hd ((uh XG).below hb)
 clear hb
 obtain ⟨⟨e0, e1, e2, e3, e4, e5⟩, _⟩ := Blk.c6 (uh XG)
 have hMG14 : MG ≤ w14.heap.size := by have := (uh XG).1; omega
 go_wp2_with fail
 refine (markLedgerV_any lsN kN vN aN ksN ssN _ _ _ _ _ _ BG MG SG w14 (uh AG).1 hMG14 (uh HN).1 (uh HN).2.1 (uh HN).2.2.1 (uh HN).2.2.2.1).mono ?_
 rintro e w15 ⟨rfl, hVK, ht⟩
 have hlt9 := (uh AG).1.lt
 have OR := Hd ((uh AG).2.1.kept ht (fun q hq => ((uh AG).2.2 q hq).2))
 have hrv := (uh AG).2.2
 have VK := Hd hVK
 have HRV := Hd hrv
 replace KW := Hd ((uh KW).trans (ht.below (uh KW).size (fun x hx e => by have := hlt9 x e; omega)))
 replace AS := Hd ((uh AS).touch ht (fun q h1 h2 e => by have := hlt9 q e; omega))
 replace XS := Hd ((uh XS).kept ht (fun e => by have := hlt9 _ e; omega))
 replace XG := Hd ((uh XG).kept ht (fun e => by have := hlt9 _ e; omega))
 clear ht hVK hlt9 AG e0 e1 e2 e3 e4 e5 hrv
 have HHL : Hid (∀ wx, LedK BG MG wx (.slice gla lsN.length glc) (.slice gka ksN.length gkc) (.slice gsa ssN.length gsc) lsN ksN ssN → Calls Tryz.prog 15 #[.agg #[.slice gla lsN.length glc, .string kN, .string vN, .int .i64 aN, .slice gka ksN.length gkc, .slice gsa ssN.length gsc], .int .i64 1] wx fun e w' => e = .returned (.int .i64 ((ledC3 lsN ksN ssN : Nat) : Int)) ∧ Below wx.heap.size wx w') := Hd (fun wx hx => heldLedger_any lsN kN vN aN ksN ssN _ _ _ _ _ _ BG MG wx hx (uh HN).1 (uh HN).2.1 (uh HN).2.2.1 (uh HN).2.2.2.1)
 generalize ledC3 lsN ksN ssN = mm at *
 have hm0 : ¬ (mm : Int) < 0 := by omega
 have hMG15 : MG ≤ w15.heap.size := by have := (uh XG).1; omega
 go_wp2_with fail
 refine (markReplyS_any mm (uh HC3).1 (uh HC3).2 BG _ rsN w15 (uh OR) (uh HN).2.2.2.2).mono ?_
 rintro e w16 ⟨rfl, hRK, ht⟩
 have RK := Hd hRK
 have hrl := fun q hq => ((uh OR).lt q hq).1
 replace KW := Hd ((uh KW).trans (ht.below (uh KW).size (fun x hx e => by have := hrl x e; omega)))
 replace VK := Hd ((uh VK).touch ht (fun q hq e => ((uh HRV) q e).2 hq))
 replace AS := Hd ((uh AS).touch ht (fun q h1 h2 e => by have := hrl q e; omega))
 replace XS := Hd ((uh XS).kept ht (fun e => by have := hrl _ e; omega))
 replace XG := Hd ((uh XG).kept ht (fun e => by have := ((uh HRV) _ e).1; omega))
 clear ht hRK hrl OR HRV
 have HHR : Hid (∀ wx, OwnRe BG wx (.slice gra rsN.length grc) (rmks mm rsN.length) → Calls Tryz.prog 24 #[.slice gra rsN.length grc, .int .i64 (mm : Int)] wx fun e w' => e = .returned (.int .i64 ((mm : Int) + 3 * (rsN.length : Int))) ∧ Below wx.heap.size wx w') := Hd (fun wx hx => heldReplyS_any mm (uh HC3).1 (uh HC3).2 BG _ rsN.length wx hx (uh HN).2.2.2.2)
 have hn0 : ¬ ((mm : Int) + 3 * (rsN.length : Int)) < 0 := by omega
 generalize (mm : Int) + 3 * (rsN.length : Int) = nn at *
 have b5 : (nn == nn) = true := by simp
 have b6 : (nn != nn) = false := by simp
 obtain ⟨⟨e0, e1, e2, e3, e4, e5⟩, _⟩ := Blk.c6 (uh XG)
 go_wp2_with fail
 refine (uh HHL w16 (uh VK).k).mono ?_
 rintro e w17 ⟨rfl, hb⟩
 replace KW := hbt KW hb
 replace AS := Hd ((uh AS).below hb)
 replace XS := Hd ((uh XS).below hb)
 replace XG := Hd ((uh XG).below hb)
 replace VK := Hd ((uh VK).below hb)
 replace RK := Hd ((uh RK).below hb)
 clear hb e0 e1 e2 e3 e4 e5
 go_wp2_with fail
 refine (uh HHR w17 (uh RK)).mono ?_
 rintro e w18 ⟨rfl, hb⟩
 replace KW := hbt KW hb
 replace AS := Hd ((uh AS).below hb)
 replace XS := Hd ((uh XS).below hb)
 replace XG := Hd ((uh XG).below hb)
 replace VK := Hd ((uh VK).below hb)
 replace RK := Hd ((uh RK).below hb)
 clear hb
 go_wp2_with fail
 refine (toCommandS_any v l w18 ((uh HF).below (uh KW)) (uh HS)).mono ?_
 rintro e w19 ⟨rfl, hO, hlt, hb⟩
 have hlo := (uh KW).size
 replace KW := hbt KW hb
 replace AS := Hd ((uh AS).below hb)
 replace XS := Hd ((uh XS).below hb)
 replace XG := Hd ((uh XG).below hb)
 replace VK := Hd ((uh VK).below hb)
 replace RK := Hd ((uh RK).below hb)
 have OC := Hd hO
 obtain ⟨gc, hgc⟩ : ∃ gc, gc = w18.heap.size := ⟨_, rfl⟩
 rw [← hgc] at OC ⊢
 have hgcl : gc < w19.heap.size := by rw [hgc]; exact hlt
 have hwgc : w.heap.size ≤ gc := by rw [hgc]; exact hlo
 clear hlo
 clear hgc hlt hb hO
 go_wp2_with fail
 refine (uh HIM w19 _ (uh OC).read (uh KW)).mono ?_
 rintro e w20 ⟨hlv, hkv, hsv, hrv, rfl, hA, hb⟩
 dsimp only at hA ⊢
 obtain ⟨SH, hU⟩ := hA.u
 dsimp only at hU
 rw [uh HBN] at hU
 dsimp only [Br.kids] at hU
 obtain ⟨hla, hlc, e1, _⟩ := hA.1.strs
 obtain ⟨hsa, hsc, e2, _⟩ := hA.2.1.read
 obtain ⟨hka, hkc, e3, _⟩ := hU.1.2.2.2.2.2.1.shape
 obtain ⟨hra, hrc, e4, _⟩ := hA.2.2.2.1.read
 dsimp only at e1 e2
 subst e1 e2 e3 e4
 have AH := Hd hU
 obtain ⟨BH, hBH⟩ : ∃ BH, BH = w19.heap.size := ⟨_, rfl⟩
 obtain ⟨MH, hMH⟩ : ∃ MH, MH = w20.heap.size := ⟨_, rfl⟩
 rw [← hBH, ← hMH] at AH
 replace KW := hbt KW hb
 replace AS := Hd ((uh AS).below hb)
 replace XS := Hd ((uh XS).below hb)
 replace XG := Hd ((uh XG).below hb)
 replace VK := Hd ((uh VK).below hb)
 replace RK := Hd ((uh RK).below hb)
 replace OC := Hd ((uh OC).below hb)
 have hbm : BH ≤ MH := by rw [hBH, hMH]; exact hb.size
 have bA := bal w20 (.cells #[.slice hla lsN.length hlc, .string kN, .string vN, .int .i64 aN, .slice hka ksN.length hkc, .slice hsa ssN.length hsc] 38)
 have XH := Hd (Blk.new w20 #[.slice hla lsN.length hlc, .string kN, .string vN, .int .i64 aN, .slice hka ksN.length hkc, .slice hsa ssN.length hsc] 38 w20.heap.size rfl)
 replace KW := hbt KW bA
 replace AS := Hd ((uh AS).below bA)
 replace XS := Hd ((uh XS).below bA)
 replace XG := Hd ((uh XG).below bA)
 replace VK := Hd ((uh VK).below bA)
 replace RK := Hd ((uh RK).below bA)
 replace OC := Hd ((uh OC).below bA)
 replace AH := Hd ((uh AH).below bA)
 clear hA hU hb bA
 go_upto_region 29 with fail
 generalize w20.alloc (.cells #[.slice hla lsN.length hlc, .string kN, .string vN, .int .i64 aN, .slice hka ksN.length hkc, .slice hsa ssN.length hsc] 38) = w21 at *
 obtain ⟨hbx, hhbx⟩ : ∃ hbx, hbx = w20.heap.size := ⟨_, rfl⟩
 rw [← hhbx] at XH ⊢
 have hhbxM : MH ≤ hbx := by rw [hhbx, hMH]; exact Nat.le_refl _
 have hhbxl : hbx < w21.heap.size := (uh XH).1
 clear hBH hMH hhbx
 have b3 : (code == code) = true := by simp
 obtain ⟨⟨e0, e1, e2, e3, e4, e5⟩, _⟩ := Blk.c6 (uh XH)
 obtain ⟨⟨f0, f1, f2, f3, f4, f5⟩, _⟩ := Blk.c6 (uh XS)
 go_wp2_with fail
 refine (eqLedger_any lsN kN vN aN ksN ssN _ _ _ _ _ _ _ _ _ _ _ _ w21 (uh AH).1.led (uh AS).1.led (uh HN).1 (uh HN).2.2.1).mono ?_
 rintro e w22 ⟨rfl, hb⟩
 replace KW := hbt KW hb
 replace AS := Hd ((uh AS).below hb)
 replace XS := Hd ((uh XS).below hb)
 replace XG := Hd ((uh XG).below hb)
 replace VK := Hd ((uh VK).below hb)
 replace RK := Hd ((uh RK).below hb)
 replace AH := Hd ((uh AH).below hb)
 replace XH := Hd ((uh XH).below hb)
 clear hb e0 e1 e2 e3 e4 e5 f0 f1 f2 f3 f4 f5
 go_wp2_with fail
 refine (eqReplyS_any _ _ rsN w22 (uh AH).2.1.read (uh AS).2.1.read (uh HN).2.2.2.2).mono ?_
 rintro e w23 ⟨rfl, hb⟩
 replace KW := hbt KW hb
 replace AS := Hd ((uh AS).below hb)
 replace XS := Hd ((uh XS).below hb)
 replace XG := Hd ((uh XG).below hb)
 replace VK := Hd ((uh VK).below hb)
 replace RK := Hd ((uh RK).below hb)
 replace AH := Hd ((uh AH).below hb)
 replace XH := Hd ((uh XH).below hb)
 clear hb
 obtain ⟨⟨e0, e1, e2, e3, e4, e5⟩, _⟩ := Blk.c6 (uh XG)
 go_wp2_with fail
 refine (uh HHL w23 (uh VK).k).mono ?_
 rintro e w24 ⟨rfl, hb⟩
 replace KW := hbt KW hb
 replace AS := Hd ((uh AS).below hb)
 replace XS := Hd ((uh XS).below hb)
 replace XG := Hd ((uh XG).below hb)
 replace VK := Hd ((uh VK).below hb)
 replace RK := Hd ((uh RK).below hb)
 replace AH := Hd ((uh AH).below hb)
 replace XH := Hd ((uh XH).below hb)
 clear hb e0 e1 e2 e3 e4 e5
 go_wp2_with fail
 refine (uh HHR w24 (uh RK)).mono ?_
 rintro e w25 ⟨rfl, hb⟩
 replace KW := hbt KW hb
 replace AS := Hd ((uh AS).below hb)
 replace XS := Hd ((uh XS).below hb)
 replace XG := Hd ((uh XG).below hb)
 replace VK := Hd ((uh VK).below hb)
 replace RK := Hd ((uh RK).below hb)
 replace AH := Hd ((uh AH).below hb)
 replace XH := Hd ((uh XH).below hb)
 clear hb
 go_wp2_with fail
 go_ret
 exact ⟨rfl, uh KW⟩

theorem vars_of_laid {W : World} (h : laidMetH Tryz.prog Rows.fnExactApplyAllRow.laid W) :
  W.var? Tryz.prog "loop.example/g00220/impl.firstWords" = some firstCells ∧ W.var? Tryz.prog "loop.example/g00220/impl.roundWords" = some roundCells := by
 rw [MakeChecks.laidMetH_plain _ _ _ (by kernel_rfl)] at h
 obtain ⟨ps, ⟨g0, t0, cs0, f0, p0, q0, hg0, ht0, hv0, hd0, ⟨g1, t1, cs1, f1, p1, q1, hg1, ht1, hv1, hd1, _, _⟩, _⟩, _, _⟩ := h
 obtain rfl := Option.some.inj (gFirst.symm.trans hg0)
 obtain rfl := Option.some.inj (gRound.symm.trans hg1)
 obtain rfl := Option.some.inj (gFirstType.symm.trans ht0)
 obtain rfl := Option.some.inj (gRoundType.symm.trans ht1)
 have e0 := Lib.cells_of_tab (k := .u32) (cs := cs0.toList) (zs := iL.map fun (n : Nat) => (n : Int)) Tryz.underlying187 Tryz.underlying171 cellsE cellsA hd0
 have e1 := Lib.cells_of_tab (k := .u32) (cs := cs1.toList) (zs := kL.map fun (n : Nat) => (n : Int)) Tryz.underlying191 Tryz.underlying171 cellsE cellsB hd1
 have a0 : cs0 = firstCells := by
  have : cs0.toList = firstCells.toList := e0.trans (by kernel_rfl)
  exact Array.toList_inj.1 this
 have a1 : cs1 = roundCells := by
  have : cs1.toList = roundCells.toList := e1.trans (by kernel_rfl)
  exact Array.toList_inj.1 this
 exact ⟨by rw [hv0, a0], by rw [hv1, a1]⟩
theorem door_met (os : Os) (args : Array Value) : laidMetH Tryz.prog Rows.fnExactApplyAllRow.laid ((World.doorLaid Tryz.prog 19 os).forCall (fun _ _ => 0) ⟨#[], args, []⟩).memory :=
 laidMetH_of_parts3 (fuel := 8) (laidMet_of_run' 8 (by kernel_rfl) (by kernel_rfl)) (by kernel_rfl) (by kernel_rfl)
theorem lifted (os : Os) (started : os.Started) (H : Type) (enc : TypeId × Value → H) :
  ReturnsInHanded {} Tryz.checked os 4 .any (fun w args => (Rows.fnExactApplyAllSpec.pre enc Tryz.prog Tryz.f4 [] false w args ∧ laidMetH Tryz.prog Rows.fnExactApplyAllRow.laid w) ∧ sizedMet enc Tryz.prog Tryz.f4 (OpenSpec.ofChange Rows.fnExactApplyAllSpec) false w args)
   (Rows.fnExactApplyAllSpec.post enc Tryz.prog Tryz.f4 false true false false) := by
 refine returnsInHanded_of_change_and (C := Tryz.checked) (X := fun w _ => laidMetH Tryz.prog Rows.fnExactApplyAllRow.laid w) (fun _ _ _ hh h => h.of_heap hh) own started (by kernel_rfl) Tryz.func4
  (ChangeSpec.witness_shaped (enc := enc) (C := Tryz.checked) (os := os) (X := fun w _ => laidMetH Tryz.prog Rows.fnExactApplyAllRow.laid w) false (World.doorLaid Tryz.prog 19 os) #[.slice none 0 0] 8 rfl (World.shaped_of_RefB (by kernel_rfl) (by kernel_rfl)) (by kernel_rfl) (by kernel_rfl) (by kernel_rfl) (door_met os _)) ?_
 intro W base args ds gs before hval0 hW _ _ hL _
 have hval : ∀ (j : Nat) t v, Tryz.f4.params[j]? = some t → args[j]? = some v → Value.okWide Tryz.prog W .any base t v := hval0
 have hW' := hW
 obtain ⟨p, q, hA0, hV0, rfl, hfz, hnd⟩ := hW
 have hA : DataW.TrodAll enc Tryz.prog W 0 (fun _ => true) true Tryz.f4.params.toList args.toList ds p := hA0
 have hV : DataW.TrodVars enc Tryz.prog W (fun _ => true) ["loop.example/g00220/impl.firstWords", "loop.example/g00220/impl.roundWords"] gs q := hV0
 rw [Tryz.params4] at hA hval
 obtain ⟨v0, vs0, d0, ds0, p0, q0, hargs, rfl, rfl, h0, r0⟩ := trodAll_cons hA
 obtain ⟨rfl, rfl, rfl⟩ := trodAll_nil r0
 obtain rfl : args = #[v0] := by cases args; simp_all
 have k0 := h0
 have lt0 : ∀ x ∈ p0, x.block < W.heap.size := by obtain ⟨m, hm⟩ := k0; exact DataW.trod_lt m _ _ _ hm
 obtain ⟨l0, hf0, hz0⟩ := open_commands (hval 0 50 v0 rfl rfl) h0
 obtain ⟨hvA, hvB⟩ := vars_of_laid hL
 clear hA0 hV0 hval0
 refine (walk v0 l0 W hf0 hz0 (first_of hvA) (table_of hvB)).mono fun e W' ⟨he, bel⟩ => ?_
 subst he
 obtain ⟨rfl, pv, hvs⟩ := vars_again (sp := fun b => decide (b < W.heap.size)) hvA hvB hV bel
 exact ⟨_, rfl, _, _, _, [], _, pv, hW', trodAll_mk1 (shut_bool Tryz.underlying4 _), (trodAll_cons_mk (Below.trod laidOut (by kernel_rfl) (of_decide_eq_true (by kernel_rfl)) k0 bel lt0) trodAll_mk0), hvs, bel.frame _, fun h => by cases h⟩

theorem said : Rows.FnExactApplyAllSaid :=
 OpenClaim.holds_of_wide 4 Tryz.f4 rfl rfl rfl rfl rfl rfl rfl ⟨rfl, rfl, rfl, rfl, rfl⟩ rfl rfl rfl rfl rfl (by kernel_rfl) Tryz.func4 (by kernel_rfl)
  (of_decide_eq_true (by kernel_rfl)) (by unfold Func.isWrapper; first | (rw [if_pos (by decide +kernel)]; kernel_rfl) | (rw [if_neg (by decide +kernel)]; exact ⟨rfl, rfl⟩))
  (fun os started H enc _ => lifted os started H enc)

theorem plain (f : FuncId) (fn : Func) (hf : Tryz.pinned.checked.prog.funcNamed "loop.example/g00220/laws.FnExactApplyAll" = some f) (hfn : Tryz.pinned.checked.prog.funcs[f]? = some fn) :
  false = Tryz.pinned.checked.prog.looks [] ∧ ∀ (j : Nat) t, fn.params[j]? = some t → Tryz.pinned.checked.prog.wantsStandIn t = false := by
 obtain rfl : f = 4 := Option.some.inj ((show Tryz.prog.funcNamed "loop.example/g00220/laws.FnExactApplyAll" = some 4 by kernel_rfl).symm.trans hf) |>.symm
 obtain rfl : fn = Tryz.f4 := (Option.some.inj (Tryz.func4.symm.trans hfn)).symm
 refine ⟨by kernel_rfl, fun j t ht => ?_⟩
 rw [Tryz.params4] at ht
 obtain rfl : t = 50 := by
  have := Array.mem_of_getElem? ht
  simpa using this
 exact (show Tryz.prog.wantsStandIn 50 = false by kernel_rfl)
end Go.Proofs.YtnhhnjmjodmacaaGreatDoor.fnExactApplyAll
namespace Go.Proofs.YtnhhnjmjodmacaaGreatDoor
theorem fnExactApplyAll_card : Rows.FnExactApplyAllCardSaid :=
 Claim7.holds_tied_plain_at .later [] _ _ _ _ fnExactApplyAll.said (fun _ h => by cases h) (by kernel_rfl) (fun _ h => by cases h) fnExactApplyAll_row_tie rfl ⟨rfl, rfl⟩ (by kernel_rfl) rfl fnExactApplyAll.plain (by kernel_rfl)
#print axioms fnExactApplyAll_card
end Go.Proofs.YtnhhnjmjodmacaaGreatDoor
