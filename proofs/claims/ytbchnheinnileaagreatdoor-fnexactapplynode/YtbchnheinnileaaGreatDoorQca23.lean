/- What the proof of the claim needs (joined by program): AnL AnN AnM. -/
import Derived.Test.YtbchnheinnileaaGreatDoorQca21
import Derived.Test.YtbchnheinnileaaGreatDoorQca08
import Derived.Test.YtbchnheinnileaaGreatDoorQca01
import Derived.Test.YtbchnheinnileaaGreatDoorQca22
import Derived.Test.YtbchnheinnileaaGreatDoorQca11
import Derived.Test.YtbchnheinnileaaGreatDoorQca17
import Derived.Test.YtbchnheinnileaaGreatDoorQca20
import Derived.Deep.Cut
namespace Go.Proofs.YtbchnheinnileaaGreatDoor.Sha
set_option maxRecDepth 100000
set_option maxHeartbeats 8000000
open Go.ChangeShapes Go.WideShapes Go.ChangeAt Go.RowKit
set_option linter.unusedVariables false
set_option linter.unusedSimpArgs false
theorem node_fit {id tm vo ro cm el wt : Int} {up : Bool} {lg : List En} {st vs nx mt : List Int} (h : nodeB id tm vo ro cm el wt up lg st vs nx mt = true) : lg.length ≤ 60 ∧ (∀ i, i < lg.length → (lg.getD i default).d.size ≤ 100) ∧ 0 ≤ cm ∧ cm ≤ (lg.length : Int) := by
 unfold nodeB at h
 simp only [Bool.and_eq_true, decide_eq_true_eq] at h
 obtain ⟨h1, h2, h3, h4, h5, h6, h7, _⟩ := h
 unfold stateB at h2
 simp only [Bool.and_eq_true, decide_eq_true_eq] at h2
 obtain ⟨⟨_, h8⟩, h9⟩ := h2
 refine ⟨h8, fun i hi => ?_, (inB_iff.1 h7).1, (inB_iff.1 h7).2⟩
 have ha := List.all_eq_true.1 h9 i (List.mem_range.2 hi)
 unfold entB at ha
 simp only [Bool.and_eq_true] at ha
 exact (entOK_bounds ha.1).2.2.2.2
theorem ens_term {w : World} {a : Option Addr} {c : Nat} {lg : List En} (h : Ens w (.slice a lg.length c) lg) (q : Nat) (hq : q < lg.length) : ∃ b off, a = some ⟨b, off, none⟩ ∧ b < w.heap.size ∧ w.cell? ⟨b, off + q * 3, none⟩ = some (.int .i64 (lg.getD q default).t) ∧ w.cell? ⟨b, off + q * 3 + 1, none⟩ = some (.int .i64 (lg.getD q default).k) ∧ w.cell? ⟨b, off + q * 3 + 2, none⟩ = some (.string (lg.getD q default).d) := by
 obtain ⟨a2, c2, e, _, _, hc⟩ := h
 simp only [Value.slice.injEq] at e
 obtain ⟨rfl, _, rfl⟩ := e
 rcases hc with h0 | ⟨b, off, rfl, hl, hc⟩
 ·omega
 ·exact ⟨b, off, rfl, hl, hc q hq⟩
theorem ens_cap {w : World} {a : Option Addr} {c : Nat} {lg : List En} (h : Ens w (.slice a lg.length c) lg) : lg.length ≤ c ∧ c ≤ maxLen ∧ (a = none → lg.length = 0) := by
 obtain ⟨a2, c2, e, h1, h2, hc⟩ := h
 simp only [Value.slice.injEq] at e
 obtain ⟨rfl, _, rfl⟩ := e
 refine ⟨h1, h2, fun e => ?_⟩
 rcases hc with h0 | ⟨b, off, ha, _⟩
 ·exact h0
 ·rw [ha] at e; cases e
theorem cm_rwN (w : World) (f : Cm) (ty : TypeId) : Rw (w.alloc (.cells #[.int .i64 f.kd, .int .i64 f.ss, .int .i64 f.sq, .string f.ky, .string f.vl] ty)) (.slice (some ⟨w.heap.size, 0, none⟩) 1 1) 1 (cmC f) := by
 refine ⟨_, _, rfl, .inr ⟨_, rfl, fun j u hu => ?_⟩⟩
 have N := Blk.new w #[.int .i64 f.kd, .int .i64 f.ss, .int .i64 f.sq, .string f.ky, .string f.vl] ty w.heap.size rfl
 have hadd : (⟨w.heap.size, 0, none⟩ : Addr).add j = ⟨w.heap.size, j, none⟩ := by unfold Addr.add; split <;> simp_all
 rw [hadd]
 exact N.cell j hu
theorem own_pushN {B : Nat} {w : World} {v : Value} {l : List Cm} {f : Cm} (h : w.ownsRow B 77 5 v (l.length + 1) (csC l ++ cmC f)) : OwnC B w v (l ++ [f]) := by
 unfold OwnC
 rw [csC_app, List.length_append, show csC [f] = cmC f from rfl]
 exact h
theorem knownCommands_any (id tm vo ro el wt : Int) (cm : Nat) (up : Bool) (lg : List En) (st vs nx mt : List Int) (la : Option Addr) (lc : Nat) (sa : Option Addr) (sc : Nat) (va : Option Addr) (vc : Nat) (na : Option Addr) (nc : Nat) (ma : Option Addr) (mc : Nat) (w : World) (h : Ens w (.slice la lg.length lc) lg) (hl : lg.length ≤ 60) (hcm : cm ≤ lg.length) (hd : ∀ i, i < lg.length → (lg.getD i default).d.size ≤ 100) :
  Calls Tryz.prog 22 #[.agg #[.int .i64 id, .int .i64 tm, .int .i64 vo, .slice la lg.length lc, .slice sa st.length sc, .int .i64 ro, .slice va vs.length vc, .slice na nx.length nc, .slice ma mt.length mc, .int .i64 (cm : Int), .int .i64 el, .int .i64 wt, .bool up]] w fun e w' => ∃ v, e = .returned v ∧ OwnC w.heap.size w' v (cmL lg cm) ∧ Below w.heap.size w w' := by
 obtain ⟨i0, hi, hz0, hz1, hz2⟩ := info_parts infoCm
 obtain ⟨hlc, hlm, hnone⟩ := ens_cap h
 unfold maxLen at hlm
 have q0 : (0 : Int) ≤ (cm : Int) := by omega
 have q1 : (cm : Int) ≤ (lc : Int) := by omega
 have H := Hd h
 have B0 := Hd (bal w (.cells #[.int .i64 id, .int .i64 tm, .int .i64 vo, .slice la lg.length lc, .slice sa st.length sc, .int .i64 ro, .slice va vs.length vc, .slice na nx.length nc, .slice ma mt.length mc, .int .i64 (cm : Int), .int .i64 el, .int .i64 wt, .bool up] 38))
 have X0 := Blk.new w #[.int .i64 id, .int .i64 tm, .int .i64 vo, .slice la lg.length lc, .slice sa st.length sc, .int .i64 ro, .slice va vs.length vc, .slice na nx.length nc, .slice ma mt.length mc, .int .i64 (cm : Int), .int .i64 el, .int .i64 wt, .bool up] 38 w.heap.size rfl
 have x3 := X0.cell 3 rfl
 have x9 := X0.cell 9 rfl
 clear X0 h
 go_enter Tryz.func22, Tryz.ntmps22
 go_wp2_with fail
 go_loopw [3, 14] (fun lv i wr => ∃ q : Nat, q ≤ cm ∧ i = .int .i64 q ∧ Hid (OwnC w.heap.size wr lv (cmL lg q)) ∧ Hid (Below w.heap.size w wr)) (fun _ i _ => cm - (intOf i).toNat)
 case atStart => exact ⟨0, Nat.zero_le _, rfl, Hd (OwnC.nil _ _), B0⟩
 case round =>
  obtain ⟨q, hq, rfl, HO, HB⟩ := hrel
  obtain ⟨lv, hlv⟩ : ∃ lv, lv = u3 := ⟨_, rfl⟩
  subst hlv
  by_cases hlt : q < cm
  ·obtain ⟨g, off, hge, hgl, c0, c1, c2⟩ := ens_term ((uh H).below (uh HB)) q (by omega)
   subst hge
   have hk0 : (0 : Int) ≤ (q : Int) := by omega
   have hk1 : (q : Int) < (cm : Int) := by omega
   have hdq := hd q (by omega)
   have HCL : Hid (cmL lg (q + 1) = pushO (cmL lg q) (cmE (lg.getD q default))) := Hd rfl
   have HCE : Hid (cmE (lg.getD q default) = if (lg.getD q default).k = 1 ∧ (cmdRead (bytesI (lg.getD q default).d)).2 = 0 then some (tupC (cmdRead (bytesI (lg.getD q default).d)).1) else none) := Hd rfl
   have hcl := cmL_len lg q
   generalize cmE (lg.getD q default) = ce at *
   generalize lg.getD q default = f at *
   obtain ⟨ft, fk, fd⟩ := f
   dsimp only at c0 c1 c2 hdq HCE
   have BE := bal wr (.cells #[.int .i64 ft, .int .i64 fk, .string fd] 75)
   have B1 := hbt HB BE
   have O1 := Hd ((uh HO).below BE)
   have E1 := Hd (Blk.new wr #[.int .i64 ft, .int .i64 fk, .string fd] 75 wr.heap.size rfl)
   clear BE HB HO
   go_upto_region 5 with fail
   generalize wr.alloc (.cells #[.int .i64 ft, .int .i64 fk, .string fd] 75) = w1 at *
   generalize wr.heap.size = eb at *
   have e2 := (uh E1).cell 2 rfl
   obtain ⟨cap5, w5, hcv, hB5, hb5⟩ := str_bytesR fd w1 (by unfold maxLen; omega)
   have HR := Hd (implReadCommand_any _ _ _ w5 hB5)
   have B5 := hbt B1 hb5
   have O5 := Hd ((uh O1).below hb5)
   have E5 := Hd ((uh E1).below hb5)
   clear hB5 hb5 B1 O1 E1 c0 c1 c2
   generalize cmdRead (bytesI fd) = cr at *
   obtain ⟨⟨k1, s1, q1, ky, vl⟩, code⟩ := cr
   dsimp only [cmdVal, tupC] at HR HCE
   go_wp2_with fail
   refine (uh HR).mono ?_
   rintro e w6 ⟨rfl, hb6⟩
   have BA := bal w6 (.cells #[.int .i64 k1, .int .i64 s1, .int .i64 q1, .string ky, .string vl] 77)
   have hb7 := hb6.trans (BA.mono hb6.size)
   have B7 := hbt B5 hb7
   have O7 := Hd ((uh O5).below hb7)
   have E7 := Hd ((uh E5).below hb7)
   have C7 := Hd (Blk.new w6 #[.int .i64 k1, .int .i64 s1, .int .i64 q1, .string ky, .string vl] 77 w6.heap.size rfl)
   clear hb6 hb7 BA B5 O5 E5 HR hcv e2
   go_upto_region 6 with fail
   generalize w6.alloc (.cells #[.int .i64 k1, .int .i64 s1, .int .i64 q1, .string ky, .string vl] 77) = w7 at *
   generalize w6.heap.size = cb at *
   have e1 := (uh E7).cell 1 rfl
   by_cases hk : fk = 1 ∧ code = 0
   case neg =>
    rw [if_neg hk] at HCE
    have HL : Hid (cmL lg (q + 1) = cmL lg q) := Hd (by rw [uh HCL, uh HCE]; rfl)
    have hkb : ((fk == 1) && (code == 0)) = false := by
     by_cases h1 : fk = 1
     ·have h2 : code ≠ 0 := fun e => hk ⟨h1, e⟩
      simp [h1, h2]
     ·simp [h1]
    by_cases h1 : fk = 1
    ·have h2 : (code == 0) = false := by rw [beq_eq_false_iff_ne]; exact fun e => hk ⟨h1, e⟩
     subst h1
     clear hk hkb
     go_wp2_with fail
     refine ⟨⟨q + 1, by omega, by go_num, by rw [uh HL]; exact O7, B7⟩, ?_⟩
     simp [intOf]; omega
    ·have h2 : (fk == 1) = false := by rw [beq_eq_false_iff_ne]; exact h1
     clear hk hkb h1
     go_wp2_with fail
     refine ⟨⟨q + 1, by omega, by go_num, by rw [uh HL]; exact O7, B7⟩, ?_⟩
     simp [intOf]; omega
   rw [if_pos hk] at HCE
   have HL : Hid (cmL lg (q + 1) = cmL lg q ++ [⟨k1, s1, q1, ky, vl⟩]) := Hd (by rw [uh HCL, uh HCE]; rfl)
   obtain ⟨rfl, rfl⟩ := hk
   obtain ⟨y0, y1, y2, y3, y4⟩ : (w7.cell? ⟨cb, 0, none⟩ = some (.int .i64 k1)) ∧ (w7.cell? ⟨cb, 1, none⟩ = some (.int .i64 s1)) ∧ (w7.cell? ⟨cb, 2, none⟩ = some (.int .i64 q1)) ∧ (w7.cell? ⟨cb, 3, none⟩ = some (.string ky)) ∧ (w7.cell? ⟨cb, 4, none⟩ = some (.string vl)) := ⟨(uh C7).cell 0 rfl, (uh C7).cell 1 rfl, (uh C7).cell 2 rfl, (uh C7).cell 3 rfl, (uh C7).cell 4 rfl⟩
   generalize cmL lg q = D at *
   have BA := bal w7 (.cells #[.int .i64 k1, .int .i64 s1, .int .i64 q1, .string ky, .string vl] 77)
   have B8 := hbt B7 BA
   have O8 : Hid ((w7.alloc (.cells #[.int .i64 k1, .int .i64 s1, .int .i64 q1, .string ky, .string vl] 77)).ownsRow w.heap.size 77 5 lv D.length (csC D)) := Hd ((uh O7).below BA)
   have HRW := Hd (cm_rwN w7 ⟨k1, s1, q1, ky, vl⟩ 77)
   have H1C : Hid (∀ u ∈ cmC ⟨k1, s1, q1, ky, vl⟩, u.oneCell' = true) := Hd (by simp [cmC, Value.oneCell'])
   have hBs : w.heap.size ≤ (w7.alloc (.cells #[.int .i64 k1, .int .i64 s1, .int .i64 q1, .string ky, .string vl] 77)).heap.size := (uh B8).size
   have HLT := Hd (uh O7).lt
   clear BA E7 C7 HCL HCE O7 B7
   go_wp2_with (at_builtin; refine wpList_append_row _ rfl _ _ _ rfl w.heap.size 77 i0 _ 5 56 Tryz.underlying55 hi hz0 hz1 hz2 rfl (by omega) _ D.length (csC D) rfl (uh O8) _ 1 (cmC ⟨k1, s1, q1, ky, vl⟩) rfl (uh HRW) rfl (uh H1C) (by unfold maxLen; omega) (by omega) hBs ?_; intro a6 c6 w9 hown6 hgrow6 hat6; have R6 := Hd (And.intro hown6 (And.intro hgrow6 hat6)); clear hown6 hgrow6 hat6)
   refine ⟨⟨q + 1, by omega, by go_num, ?_, ?_⟩, ?_⟩
   ·rw [uh HL]; exact Hd (own_pushN (uh R6).1)
   ·exact Hd ((uh B8).grown (uh R6).2.1 hBs (fun k hk => (uh HLT k hk).1))
   ·simp [intOf]; omega
  ·obtain rfl : q = cm := by omega
   have R := Hd (And.intro (uh HO) (uh HB))
   clear HO HB
   go_wp2_with fail
   go_ret
   exact ⟨_, rfl, (uh R).1, (uh R).2⟩
def anO (b : Bool) (lg : List En) (n : Nat) : Lst × Int := if b then (stN lg n, 0) else (zLst, 1)
def AnE (w : World) (x : Lst × Int) (e : Ending) (w' : World) : Prop :=
 ∃ la lc ka kn kc sa sc, e = .returned (.tuple #[.agg #[.slice la x.1.ls.length lc, .string (brOf x.1.o).key, .string (brOf x.1.o).val, .int .i64 (brOf x.1.o).at_, .slice ka kn kc, .slice sa x.1.ss.length sc], .int .i64 x.2]) ∧ LedO w.heap.size w' (.slice la x.1.ls.length lc) (.slice ka kn kc) (.slice sa x.1.ss.length sc) x.1.ls (brOf x.1.o).kids x.1.ss ∧ Below w.heap.size w w'
theorem tell_no {b : Bool} (lg : List En) (n : Nat) {w w' : World} {e : Ending} (hb : b = false) (h : AnE w (zLst, 1) e w') : AnE w (anO b lg n) e w' := by subst hb; exact h
theorem tell_yes {b : Bool} (lg : List En) (n : Nat) {w w' : World} {e : Ending} {y : Lst} (hb : b = true) (hy : stN lg n = y) (h : AnE w (y, 0) e w') : AnE w (anO b lg n) e w' := by subst hb; subst hy; exact h
theorem cm_fits {c : Cm} (h : cmK c = true) : c.ky.size ≤ 60 ∧ c.vl.size ≤ 60 := by
 unfold cmK cmdOK at h
 split at h
 ·rename_i h1
  simp only [Bool.and_eq_true, decide_eq_true_eq] at h1
  refine ⟨?_, h1.2⟩
  split at h
  ·have := inB_iff.1 h; omega
  ·split at h
   ·simp only [Bool.and_eq_true] at h
    have := inB_iff.1 h.1; omega
   ·split at h
    ·simp only [Bool.and_eq_true] at h
     have := emptyB_iff.1 h.1.1; omega
    ·cases h
 ·cases h
theorem lok_cntN {x : Lst} (h : LOK x) : cntL (brOf x.o).kids ≤ 80 := by
 have h1 := h.keys
 cases ho : x.o with
 | none => show cntL [] ≤ 80; unfold cntL; omega
 | some t =>
  rw [ho] at h1
  have h2 := tr_cntL t
  have h3 : t.lvN ≤ 40 := h1
  show cntL t.toBr.kids ≤ 80
  omega
theorem LedO.nilN (B : Nat) (w : World) : LedO B w (.slice none 0 0) (.slice none 0 0) (.slice none 0 0) [] [] [] :=
 ⟨OwnS.nil _ _, OwnSe.nil _ _, (fun y h => by cases h), fun _ => False, .nil _ none 0 (by unfold maxLen; omega), fun y h => h.elim⟩
theorem AaR.led {B B' : Nat} {w : World} {lv kv sv rv : Value} {x : Lst} {rs : List Re} (h : AaR B w lv kv sv rv x rs) (hB : B' ≤ B) : LedO B' w lv kv sv x.ls (brOf x.o).kids x.ss := by
 obtain ⟨h1, h2, h3, _, _, S, h4, h5⟩ := h
 exact ⟨OwnS.down' h1 hB, h2.down hB, h3, S, h4, fun y hy => ⟨Nat.le_trans hB (h5 y hy).1, (h5 y hy).2.1, (h5 y hy).2.2.1, (h5 y hy).2.2.2.1⟩⟩
theorem LedO.down {B B' : Nat} {w : World} {lv kv sv : Value} {ls : List ByteArray} {ks : List Br} {ss : List Se} (h : LedO B w lv kv sv ls ks ss) (hB : B' ≤ B) : LedO B' w lv kv sv ls ks ss := by
 obtain ⟨h1, h2, h3, S, h4, h5⟩ := h
 exact ⟨OwnS.down' h1 hB, h2.down hB, h3, S, h4, fun y hy => ⟨Nat.le_trans hB (h5 y hy).1, (h5 y hy).2⟩⟩
theorem LedO.touchN {T : Nat → Prop} {B : Nat} {w w' : World} {lv kv sv : Value} {ls : List ByteArray} {ks : List Br} {ss : List Se} (h : LedO B w lv kv sv ls ks ss) (ht : Touch T w w') (hT : ∀ k, B ≤ k → ¬ T k) : LedO B w' lv kv sv ls ks ss := by
 obtain ⟨h1, h2, h3, S, h4, h5⟩ := h
 exact ⟨h1.kept ht (fun k hk => hT k (h1.lt k hk).1), h2.kept ht (fun k hk => hT k (h2.lt k hk).1), h3, S, h4.touch ht (fun k hk => hT k (h5 k hk).1), fun y hy => ⟨(h5 y hy).1, Nat.lt_of_lt_of_le (h5 y hy).2.1 ht.size, (h5 y hy).2.2⟩⟩
theorem implApplyNode_any (id tm vo ro cm el wt : Int) (up : Bool) (lg : List En) (st vs nx mt : List Int) (la : Option Addr) (lc : Nat) (sa : Option Addr) (sc : Nat) (va : Option Addr) (vc : Nat) (na : Option Addr) (nc : Nat) (ma : Option Addr) (mc : Nat) (w : World) (h : NoR w (.slice la lg.length lc) (.slice sa st.length sc) (.slice va vs.length vc) (.slice na nx.length nc) (.slice ma mt.length mc) lg st vs nx mt) (hs : NoS lg st vs nx mt) (hT : Tab w) :
  Calls Tryz.prog 7 #[.agg #[.int .i64 id, .int .i64 tm, .int .i64 vo, .slice la lg.length lc, .slice sa st.length sc, .int .i64 ro, .slice va vs.length vc, .slice na nx.length nc, .slice ma mt.length mc, .int .i64 cm, .int .i64 el, .int .i64 wt, .bool up]] w fun e w' => AnE w (anO (nodeB id tm vo ro cm el wt up lg st vs nx mt) lg cm.toNat) e w' := by
 have HS := Hd hs
 have HT := Hd hT
 clear hT
 have H := Hd h
 have B0 := Hd ((bal w (.cells #[.int .i64 id, .int .i64 tm, .int .i64 vo, .slice la lg.length lc, .slice sa st.length sc, .int .i64 ro, .slice va vs.length vc, .slice na nx.length nc, .slice ma mt.length mc, .int .i64 cm, .int .i64 el, .int .i64 wt, .bool up] 38)).alloc (by simp) (.cells #[.slice none 0 0, .string ⟨#[]⟩, .string ⟨#[]⟩, .int .i64 0, .slice none 0 0, .slice none 0 0] 33))
 have P0 := Hd ((Blk.new w #[.int .i64 id, .int .i64 tm, .int .i64 vo, .slice la lg.length lc, .slice sa st.length sc, .int .i64 ro, .slice va vs.length vc, .slice na nx.length nc, .slice ma mt.length mc, .int .i64 cm, .int .i64 el, .int .i64 wt, .bool up] 38 w.heap.size rfl).alloc (.cells #[.slice none 0 0, .string ⟨#[]⟩, .string ⟨#[]⟩, .int .i64 0, .slice none 0 0, .slice none 0 0] 33))
 have R0 := Hd (Blk.new (w.alloc (.cells #[.int .i64 id, .int .i64 tm, .int .i64 vo, .slice la lg.length lc, .slice sa st.length sc, .int .i64 ro, .slice va vs.length vc, .slice na nx.length nc, .slice ma mt.length mc, .int .i64 cm, .int .i64 el, .int .i64 wt, .bool up] 38)) #[.slice none 0 0, .string ⟨#[]⟩, .string ⟨#[]⟩, .int .i64 0, .slice none 0 0, .slice none 0 0] 33 (w.heap.size + 1) (by simp))
 clear h hs
 go_enter Tryz.func7, Tryz.ntmps7
 go_upto_region 1 with fail
 generalize (w.alloc (.cells #[.int .i64 id, .int .i64 tm, .int .i64 vo, .slice la lg.length lc, .slice sa st.length sc, .int .i64 ro, .slice va vs.length vc, .slice na nx.length nc, .slice ma mt.length mc, .int .i64 cm, .int .i64 el, .int .i64 wt, .bool up] 38)).alloc (.cells #[.slice none 0 0, .string ⟨#[]⟩, .string ⟨#[]⟩, .int .i64 0, .slice none 0 0, .slice none 0 0] 33) = w0 at *
 have HFIT := Hd (fun (e : nodeB id tm vo ro cm el wt up lg st vs nx mt = true) => node_fit e)
 have HN := Hd (implNodeOK_any id tm vo ro cm el wt up lg st vs nx mt la lc sa sc va vc na nc ma mc w0 ((uh H).below (uh B0)) (uh HS))
 have p0 := (uh P0).cell 0 rfl
 have p1 := (uh P0).cell 1 rfl
 have p2 := (uh P0).cell 2 rfl
 have p3 := (uh P0).cell 3 rfl
 have p4 := (uh P0).cell 4 rfl
 have p5 := (uh P0).cell 5 rfl
 have p6 := (uh P0).cell 6 rfl
 have p7 := (uh P0).cell 7 rfl
 have p8 := (uh P0).cell 8 rfl
 have p9 := (uh P0).cell 9 rfl
 have p10 := (uh P0).cell 10 rfl
 have p11 := (uh P0).cell 11 rfl
 have p12 := (uh P0).cell 12 rfl
 generalize hbe : nodeB id tm vo ro cm el wt up lg st vs nx mt = b at *
 have HBE := Hd hbe
 clear hbe
 go_wp2_with fail
 refine (uh HN).mono ?_
 rintro e w1 ⟨rfl, hb⟩
 have B1 := hbt B0 hb
 have P1 := Hd ((uh P0).below hb)
 have R1 := Hd ((uh R0).below hb)
 clear hb HN B0 P0 R0 p0 p1 p2 p3 p4 p5 p6 p7 p8 p9 p10 p11 p12
 cases b with
 | false =>
  clear HFIT
  obtain ⟨⟨x0, x1, x2, x3, x4, x5⟩, g0, g1, g2, g3, g4, g5⟩ := Blk.c6 (uh R1)
  have HR9 := Hd (st6 (uh R1) (.slice none 0 0) (.string ⟨#[]⟩) (.string ⟨#[]⟩) (.int .i64 0) (.slice none 0 0) (.slice none 0 0))
  have HT9 := Hd (tc6 (Touch.refl (fun q => q = w.heap.size + 1) w1) (w.heap.size + 1) rfl (.slice none 0 0) (.string ⟨#[]⟩) (.string ⟨#[]⟩) (.int .i64 0) (.slice none 0 0) (.slice none 0 0))
  have K9 := Hd ((uh B1).trans ((uh HT9).below (uh B1).size (fun q hq e => by omega)))
  clear R1 B1
  go_wp2_with fail
  obtain ⟨⟨z0, z1, z2, z3, z4, z5⟩, _⟩ := Blk.c6 (uh HR9)
  refine bodyPost_ret (v := .tuple #[.agg #[.slice none 0 0, .string ⟨#[]⟩, .string ⟨#[]⟩, .int .i64 0, .slice none 0 0, .slice none 0 0], .int .i64 1]) (by simp [results, Tryz.results7, go_sem, z0, z1, z2, z3, z4, z5]) rfl ?_
  exact tell_no _ _ (uh HBE) ⟨_, _, _, _, _, _, _, rfl, LedO.nilN _ _, uh K9⟩
 | true =>
  obtain ⟨hl, hd, hc0, hc1⟩ := uh HFIT rfl
  obtain ⟨n, rfl⟩ : ∃ n : Nat, cm = (n : Int) := ⟨cm.toNat, by omega⟩
  have hn : n ≤ lg.length := by omega
  have E1 := Hd ((uh H).lg.below (uh B1))
  have p0 := (uh P1).cell 0 rfl
  have p1 := (uh P1).cell 1 rfl
  have p2 := (uh P1).cell 2 rfl
  have p3 := (uh P1).cell 3 rfl
  have p4 := (uh P1).cell 4 rfl
  have p5 := (uh P1).cell 5 rfl
  have p6 := (uh P1).cell 6 rfl
  have p7 := (uh P1).cell 7 rfl
  have p8 := (uh P1).cell 8 rfl
  have p9 := (uh P1).cell 9 rfl
  have p10 := (uh P1).cell 10 rfl
  have p11 := (uh P1).cell 11 rfl
  have p12 := (uh P1).cell 12 rfl
  have HK := Hd (knownCommands_any id tm vo ro el wt n up lg st vs nx mt la lc sa sc va vc na nc ma mc w1 (uh E1) hl hn hd)
  go_wp2_with fail
  refine (uh HK).mono ?_
  rintro e w2 ⟨v, rfl, hO, hb⟩
  have B2 := hbt B1 hb
  have R2 := Hd ((uh R1).below hb)
  have HAA := implApplyAll_any v (cmL lg n) w2 hO.read (by have := cmL_len lg n; omega) (fun i hi => by have := cm_fits (cmL_ok lg n i hi); unfold maxLen; omega) ((uh HT).below (uh B2))
  rw [aaO_node lg (show n ≤ 120 by omega)] at HAA
  replace HAA := Hd HAA
  clear hO hb HK E1 H P1 B1 R1 p0 p1 p2 p3 p4 p5 p6 p7 p8 p9 p10 p11 p12 HFIT HS
  generalize hy : stN lg n = y at *
  have HY := Hd hy
  clear hy
  generalize resA (cmL lg n) (cmL lg n).length = rs at *
  go_wp2_with fail
  refine (uh HAA).mono ?_
  rintro e w3 ⟨lv, kv, sv, rv, rfl, hA, hb⟩
  (try dsimp only at hA ⊢)
  obtain ⟨qa, qc, e1, _⟩ := hA.1.strs
  obtain ⟨qs, qe, e2, _⟩ := hA.2.1.read
  obtain ⟨qr, qf, e4, _⟩ := hA.2.2.2.1.read
  have HLO := hA.led (B' := w2.heap.size) (Nat.le_refl _)
  obtain ⟨qk, qn, qd, e3⟩ : ∃ qk qn qd, kv = .slice qk qn qd := by
   obtain ⟨_, _, _, S, hbr, _⟩ := HLO
   obtain ⟨a, c, e, _⟩ := hbr.shape
   exact ⟨_, _, _, e⟩
  (try dsimp only at e1 e2 e4)
  subst e1 e2 e3 e4
  have BA := bal w3 (.cells #[.slice qa y.ls.length qc, .string (brOf y.o).key, .string (brOf y.o).val, .int .i64 (brOf y.o).at_, .slice qk qn qd, .slice qs y.ss.length qe] 33)
  have hb2 := hb.trans (BA.mono hb.size)
  have LL := Hd (HLO.below BA)
  have L3 := Hd (Blk.new w3 #[.slice qa y.ls.length qc, .string (brOf y.o).key, .string (brOf y.o).val, .int .i64 (brOf y.o).at_, .slice qk qn qd, .slice qs y.ss.length qe] 33 w3.heap.size rfl)
  have B3 := hbt B2 hb2
  have R3 := Hd ((uh R2).below hb2)
  have hlow : w.heap.size + 1 < w2.heap.size := (uh R2).1
  clear hA hb BA hb2 HLO HAA B2 R2
  go_upto_region 4 with fail
  generalize w3.alloc (.cells #[.slice qa y.ls.length qc, .string (brOf y.o).key, .string (brOf y.o).val, .int .i64 (brOf y.o).at_, .slice qk qn qd, .slice qs y.ss.length qe] 33) = w4 at *
  generalize w3.heap.size = lb at *
  obtain ⟨⟨l0, l1, l2, l3, l4, l5⟩, _⟩ := Blk.c6 (uh L3)
  have HBW : Hid (∀ wx, LedO w2.heap.size wx (.slice qa y.ls.length qc) (.slice qk qn qd) (.slice qs y.ss.length qe) y.ls (brOf y.o).kids y.ss → LedO w.heap.size wx (.slice qa y.ls.length qc) (.slice qk qn qd) (.slice qs y.ss.length qe) y.ls (brOf y.o).kids y.ss) := Hd (fun wx hx => hx.down (by omega))
  have HLX := Hd (fun wx (hx : Touch (fun q => q = w.heap.size + 1) w4 wx) => uh HBW wx ((uh LL).touchN hx (fun k hk e => by omega)))
  obtain ⟨⟨x0, x1, x2, x3, x4, x5⟩, g0, g1, g2, g3, g4, g5⟩ := Blk.c6 (uh R3)
  have HR9 := Hd (st6 (uh R3) (.slice qa y.ls.length qc) (.string (brOf y.o).key) (.string (brOf y.o).val) (.int .i64 (brOf y.o).at_) (.slice qk qn qd) (.slice qs y.ss.length qe))
  have HT9 := Hd (tc6 (Touch.refl (fun q => q = w.heap.size + 1) w4) (w.heap.size + 1) rfl (.slice qa y.ls.length qc) (.string (brOf y.o).key) (.string (brOf y.o).val) (.int .i64 (brOf y.o).at_) (.slice qk qn qd) (.slice qs y.ss.length qe))
  have K9 := Hd ((uh B3).trans ((uh HT9).below (uh B3).size (fun q hq e => by omega)))
  clear R3 B3
  go_wp2_with fail
  obtain ⟨⟨z0, z1, z2, z3, z4, z5⟩, _⟩ := Blk.c6 (uh HR9)
  refine bodyPost_ret (v := .tuple #[.agg #[.slice qa y.ls.length qc, .string (brOf y.o).key, .string (brOf y.o).val, .int .i64 (brOf y.o).at_, .slice qk qn qd, .slice qs y.ss.length qe], .int .i64 0]) (by simp [results, Tryz.results7, go_sem, z0, z1, z2, z3, z4, z5]) rfl ?_
  exact tell_yes _ _ (uh HBE) (uh HY) ⟨_, _, _, _, _, _, _, rfl, uh HLX _ (uh HT9), uh K9⟩
def AnI (w : World) (nd : List Value) (lg : List En) (q : Nat) (wr : World) : Prop :=
 Below w.heap.size w wr ∧ Blk wr w.heap.size nd ∧ Blk wr (w.heap.size + 1) [.slice none 0 0, .string ⟨#[]⟩, .string ⟨#[]⟩, .int .i64 0, .slice none 0 0, .slice none 0 0] ∧ ∃ lv kv sv, Blk wr (w.heap.size + 1 + 1) (ledC (stN lg q) lv kv sv) ∧ LedB (fun x => w.heap.size ≤ x ∧ x ≤ w.heap.size + 1 + 1) wr (stN lg q) lv kv sv
theorem AnI.below {w wr w' : World} {nd : List Value} {lg : List En} {q : Nat} (h : AnI w nd lg q wr) (hb : Below wr.heap.size wr w') : AnI w nd lg q w' := by
 obtain ⟨h1, h2, h3, lv, kv, sv, h4, h5⟩ := h
 exact ⟨h1.trans (hb.mono h1.size), h2.below hb, h3.below hb, lv, kv, sv, h4.below hb, h5.below hb⟩
theorem AnI.same {w wr : World} {nd : List Value} {lg : List En} {q q' : Nat} (h : AnI w nd lg q wr) (e : stN lg q' = stN lg q) : AnI w nd lg q' wr := by
 obtain ⟨h1, h2, h3, lv, kv, sv, h4, h5⟩ := h
 exact ⟨h1, h2, h3, lv, kv, sv, by rw [e]; exact h4, by rw [e]; exact h5⟩
theorem an_put {w w8 : World} {nd : List Value} {lg : List En} {q' : Nat} {y : Lst} {lv kv sv a0 a1 a2 a3 a4 a5 : Value} (K : Below w.heap.size w w8) (hp : Blk w8 w.heap.size nd) (hr : Blk w8 (w.heap.size + 1) [.slice none 0 0, .string ⟨#[]⟩, .string ⟨#[]⟩, .int .i64 0, .slice none 0 0, .slice none 0 0]) (hl : Blk w8 (w.heap.size + 1 + 1) [a0, a1, a2, a3, a4, a5]) (hL : LedB (fun x => w.heap.size ≤ x ∧ x ≤ w.heap.size + 1 + 1) w8 y lv kv sv) (e : stN lg q' = y) :
  AnI w nd lg q' (set6 w8 (w.heap.size + 1 + 1) lv (.string (brOf y.o).key) (.string (brOf y.o).val) (.int .i64 (brOf y.o).at_) kv sv) := by
 have ht := tc6 (Touch.refl (fun x => x = w.heap.size + 1 + 1) w8) (w.heap.size + 1 + 1) rfl lv (.string (brOf y.o).key) (.string (brOf y.o).val) (.int .i64 (brOf y.o).at_) kv sv
 refine ⟨K.trans (ht.below K.size (fun x hx e => by omega)), hp.kept ht (by omega), hr.kept ht (by omega), lv, kv, sv, ?_, ?_⟩
 ·rw [e]; exact st6 hl _ _ _ _ _ _
 ·rw [e]; exact hL.touch ht (fun k hk => by omega)
def AnS (w : World) (x : Lst) (e : Ending) (w' : World) : Prop := ∃ la lc ka kn kc sa sc, e = .returned (.agg #[.slice la x.ls.length lc, .string (brOf x.o).key, .string (brOf x.o).val, .int .i64 (brOf x.o).at_, .slice ka kn kc, .slice sa x.ss.length sc]) ∧ LedB (fun _ => False) w' x (.slice la x.ls.length lc) (.slice ka kn kc) (.slice sa x.ss.length sc) ∧ Below w.heap.size w w'
theorem an_s {w w' : World} {x y : Lst} {e : Ending} (h : x = y) (hx : AnS w y e w') : AnS w x e w' := by rw [h]; exact hx
theorem l12Applied_any (id tm vo ro el wt : Int) (cm : Nat) (up : Bool) (lg : List En) (st vs nx mt : List Int) (la : Option Addr) (lc : Nat) (sa : Option Addr) (sc : Nat) (va : Option Addr) (vc : Nat) (na : Option Addr) (nc : Nat) (ma : Option Addr) (mc : Nat) (w : World) (h : Ens w (.slice la lg.length lc) lg) (hl : lg.length ≤ 60) (hcm : cm ≤ lg.length) (hd : ∀ i, i < lg.length → (lg.getD i default).d.size ≤ 100) :
  Calls Tryz.prog 17 #[.agg #[.int .i64 id, .int .i64 tm, .int .i64 vo, .slice la lg.length lc, .slice sa st.length sc, .int .i64 ro, .slice va vs.length vc, .slice na nx.length nc, .slice ma mt.length mc, .int .i64 (cm : Int), .int .i64 el, .int .i64 wt, .bool up]] w fun e w' => AnS w (stN lg cm) e w' := by
 have H := Hd h
 have HD := Hd hd
 have B0 := ((bal w (.cells #[.int .i64 id, .int .i64 tm, .int .i64 vo, .slice la lg.length lc, .slice sa st.length sc, .int .i64 ro, .slice va vs.length vc, .slice na nx.length nc, .slice ma mt.length mc, .int .i64 (cm : Int), .int .i64 el, .int .i64 wt, .bool up] 38)).alloc (by simp) (.cells #[.slice none 0 0, .string ⟨#[]⟩, .string ⟨#[]⟩, .int .i64 0, .slice none 0 0, .slice none 0 0] 33)).alloc (by simp; omega) (.cells #[.slice none 0 0, .string ⟨#[]⟩, .string ⟨#[]⟩, .int .i64 0, .slice none 0 0, .slice none 0 0] 33)
 have X0 := ((Blk.new w #[.int .i64 id, .int .i64 tm, .int .i64 vo, .slice la lg.length lc, .slice sa st.length sc, .int .i64 ro, .slice va vs.length vc, .slice na nx.length nc, .slice ma mt.length mc, .int .i64 (cm : Int), .int .i64 el, .int .i64 wt, .bool up] 38 w.heap.size rfl).alloc (.cells #[.slice none 0 0, .string ⟨#[]⟩, .string ⟨#[]⟩, .int .i64 0, .slice none 0 0, .slice none 0 0] 33)).alloc (.cells #[.slice none 0 0, .string ⟨#[]⟩, .string ⟨#[]⟩, .int .i64 0, .slice none 0 0, .slice none 0 0] 33)
 have X1 := (Blk.new (w.alloc (.cells #[.int .i64 id, .int .i64 tm, .int .i64 vo, .slice la lg.length lc, .slice sa st.length sc, .int .i64 ro, .slice va vs.length vc, .slice na nx.length nc, .slice ma mt.length mc, .int .i64 (cm : Int), .int .i64 el, .int .i64 wt, .bool up] 38)) #[.slice none 0 0, .string ⟨#[]⟩, .string ⟨#[]⟩, .int .i64 0, .slice none 0 0, .slice none 0 0] 33 (w.heap.size + 1) (by simp)).alloc (.cells #[.slice none 0 0, .string ⟨#[]⟩, .string ⟨#[]⟩, .int .i64 0, .slice none 0 0, .slice none 0 0] 33)
 have X2 := Blk.new ((w.alloc (.cells #[.int .i64 id, .int .i64 tm, .int .i64 vo, .slice la lg.length lc, .slice sa st.length sc, .int .i64 ro, .slice va vs.length vc, .slice na nx.length nc, .slice ma mt.length mc, .int .i64 (cm : Int), .int .i64 el, .int .i64 wt, .bool up] 38)).alloc (.cells #[.slice none 0 0, .string ⟨#[]⟩, .string ⟨#[]⟩, .int .i64 0, .slice none 0 0, .slice none 0 0] 33)) #[.slice none 0 0, .string ⟨#[]⟩, .string ⟨#[]⟩, .int .i64 0, .slice none 0 0, .slice none 0 0] 33 (w.heap.size + 1 + 1) (by simp)
 have I0 : Hid (AnI w [.int .i64 id, .int .i64 tm, .int .i64 vo, .slice la lg.length lc, .slice sa st.length sc, .int .i64 ro, .slice va vs.length vc, .slice na nx.length nc, .slice ma mt.length mc, .int .i64 (cm : Int), .int .i64 el, .int .i64 wt, .bool up] lg 0 (((w.alloc (.cells #[.int .i64 id, .int .i64 tm, .int .i64 vo, .slice la lg.length lc, .slice sa st.length sc, .int .i64 ro, .slice va vs.length vc, .slice na nx.length nc, .slice ma mt.length mc, .int .i64 (cm : Int), .int .i64 el, .int .i64 wt, .bool up] 38)).alloc (.cells #[.slice none 0 0, .string ⟨#[]⟩, .string ⟨#[]⟩, .int .i64 0, .slice none 0 0, .slice none 0 0] 33)).alloc (.cells #[.slice none 0 0, .string ⟨#[]⟩, .string ⟨#[]⟩, .int .i64 0, .slice none 0 0, .slice none 0 0] 33))) := Hd ⟨B0, X0, X1, _, _, _, X2, LedB.nil _ _⟩
 clear B0 X0 X1 X2 h hd
 go_enter Tryz.func17, Tryz.ntmps17
 go_wp2_with fail
 generalize ((w.alloc (.cells #[.int .i64 id, .int .i64 tm, .int .i64 vo, .slice la lg.length lc, .slice sa st.length sc, .int .i64 ro, .slice va vs.length vc, .slice na nx.length nc, .slice ma mt.length mc, .int .i64 (cm : Int), .int .i64 el, .int .i64 wt, .bool up] 38)).alloc (.cells #[.slice none 0 0, .string ⟨#[]⟩, .string ⟨#[]⟩, .int .i64 0, .slice none 0 0, .slice none 0 0] 33)).alloc (.cells #[.slice none 0 0, .string ⟨#[]⟩, .string ⟨#[]⟩, .int .i64 0, .slice none 0 0, .slice none 0 0] 33) = w0 at *
 go_loopw [4] (fun i wr => ∃ q : Nat, q ≤ cm ∧ i = .int .i64 q ∧ Hid (AnI w [.int .i64 id, .int .i64 tm, .int .i64 vo, .slice la lg.length lc, .slice sa st.length sc, .int .i64 ro, .slice va vs.length vc, .slice na nx.length nc, .slice ma mt.length mc, .int .i64 (cm : Int), .int .i64 el, .int .i64 wt, .bool up] lg q wr)) (fun i _ => cm - (intOf i).toNat)
 case atStart => exact ⟨0, Nat.zero_le _, rfl, I0⟩
 case round =>
  obtain ⟨q, hq, rfl, HI⟩ := hrel
  clear I0
  have p3 := (uh HI).2.1.cell 3 rfl
  have p9 := (uh HI).2.1.cell 9 rfl
  by_cases hlt : q < cm
  ·obtain ⟨g, off, hge, hgl, c0, c1, c2⟩ := ens_term ((uh H).below (uh HI).1) q (by omega)
   subst hge
   have hk0 : (0 : Int) ≤ (q : Int) := by omega
   have hk1 : (q : Int) < (lg.length : Int) := by omega
   have hk2 : (q : Int) < (cm : Int) := by omega
   have hk3 : q < cm := hlt
   have hdq := uh HD q (by omega)
   have HN := Hd (fun e => stN_none (lg := lg) (k := q) e)
   have HS := Hd (fun c e => stN_some (lg := lg) (k := q) (c := c) e)
   have HCE : Hid (cmE (lg.getD q default) = if (lg.getD q default).k = 1 ∧ (cmdRead (bytesI (lg.getD q default).d)).2 = 0 then some (tupC (cmdRead (bytesI (lg.getD q default).d)).1) else none) := Hd rfl
   have HOK := Hd (stN_ok lg q)
   generalize cmE (lg.getD q default) = ce at *
   generalize lg.getD q default = f at *
   obtain ⟨ft, fk, fd⟩ := f
   dsimp only at c0 c1 c2 hdq HCE
   by_cases hk : fk = 1
   case neg =>
    rw [if_neg (fun e => hk e.1)] at HCE
    have hkb : (fk == 1) = false := by rw [beq_eq_false_iff_ne]; exact hk
    have E := Hd ((uh HI).same (uh HN (uh HCE)))
    clear HI HN HS HOK
    go_wp2_with fail
    refine ⟨⟨q + 1, by omega, by go_num, E⟩, ?_⟩
    simp [intOf]; omega
   subst hk
   go_upto_region 6 with fail
   obtain ⟨cap5, w5, hcv, hB5, hb5⟩ := str_bytesR fd wr (by unfold maxLen; omega)
   have hbl : (bytesI fd).length ≤ 65536 := by rw [bytesI_lenR]; omega
   have HR := Hd (l02Read_any _ _ _ w5 hB5 hbl)
   obtain ⟨hok1, hok2⟩ := l02_ok (l := bytesI fd) (by omega)
   rw [hok1] at HR
   have HK2 := Hd hok2
   have HKO := Hd (fun e => cmdRead_ok (l := bytesI fd) e)
   have I5 := Hd ((uh HI).below hb5)
   have hg5 := Hd (hb5.cell (p := ⟨g, off + q * 3, none⟩) hgl)
   clear hB5 hb5 hok1 hok2 HI
   generalize (cmdP (some (bytesI fd))).1 = cp at *
   generalize cmdRead (bytesI fd) = cr at *
   obtain ⟨⟨k2, s2, q2, ky2, vl2⟩, code⟩ := cr
   obtain ⟨k1, s1, q1, ky, vl⟩ := cp
   dsimp only [cmdVal, tupC] at HR HCE HK2 HKO
   go_wp2_with fail
   refine (uh HR).mono ?_
   rintro e w6 ⟨rfl, hb6⟩
   have I6 := (uh I5).below hb6
   have BA := bal w6 (.cells #[.int .i64 k1, .int .i64 s1, .int .i64 q1, .string ky, .string vl] 77)
   have I7 := Hd (I6.below BA)
   have C7 := Hd (Blk.new w6 #[.int .i64 k1, .int .i64 s1, .int .i64 q1, .string ky, .string vl] 77 w6.heap.size rfl)
   clear hb6 HR I5 hcv I6 BA p3 p9 c0 c1 c2 hg5
   by_cases hr : code = 0
   case neg =>
    have hd0 : decide (code = 0) = false := decide_eq_false hr
    rw [if_neg (fun e => hr e.2)] at HCE
    have E := Hd ((uh I7).same (uh HN (uh HCE)))
    rw [hd0]
    clear I7 HN HS HOK HK2 HKO C7
    go_wp2_with fail
    refine ⟨⟨q + 1, by omega, by go_num, E⟩, ?_⟩
    simp [intOf]; omega
   have hd0 : decide (code = 0) = true := decide_eq_true hr
   rw [if_pos (by simp [hr])] at HCE
   have he := uh HK2 hr
   simp only [Prod.mk.injEq] at he
   obtain ⟨rfl, rfl, rfl, rfl, rfl⟩ := he
   have HST := Hd (uh HS _ (uh HCE))
   have hcok := uh HKO hr
   rw [hd0]
   clear HN HS HK2 HKO HCE hd0
   have x7 := (uh C7).cell 0 rfl
   have x8 := (uh C7).cell 1 rfl
   have x9 := (uh C7).cell 2 rfl
   have xa := (uh C7).cell 3 rfl
   have xb := (uh C7).cell 4 rfl
   go_upto_region 8 with fail
   generalize hw7 : w6.alloc (.cells #[.int .i64 k1, .int .i64 s1, .int .i64 q1, .string ky, .string vl] 77) = w7 at *
   obtain ⟨K7, P7, R7, lv, kv, sv, L7, LB7⟩ := uh I7
   have hT7 : ∀ k, w.heap.size ≤ k ∧ k ≤ w.heap.size + 1 + 1 → k < w7.heap.size := fun k hk => by have := L7.1; omega
   have HT7 := Hd hT7
   have HLB := Hd LB7
   have HL7 := Hd L7
   have HP7 := Hd P7
   have HR7 := Hd R7
   have HK7 := Hd K7
   generalize stN lg q = y0 at *
   obtain ⟨ls, o, ss⟩ := y0
   obtain ⟨la3, lc3, ka3, kn3, kc3, sa3, sc3, rfl, rfl, rfl⟩ := LB7.shape
   have HCA := Hd (l09Apply_any ls o ss la3 ka3 sa3 lc3 kn3 kc3 sc3 ⟨k1, s1, q1, ky, vl⟩ w7 (fun x => ¬ (w.heap.size ≤ x ∧ x ≤ w.heap.size + 1 + 1) ∧ x < w7.heap.size) (fun x h9 => h9.2) LB7.s LB7.b.boundS LB7.e (uh HOK) hcok)
   obtain ⟨⟨y0, y1, y2, y3, y4, y5⟩, _⟩ := Blk.c6 L7
   dsimp only at y0 y1 y2 y3 y4 y5 HCA
   clear K7 P7 R7 L7 LB7 I7 HOK hT7 hw7
   generalize apOut ⟨ls, o, ss⟩ ⟨k1, s1, q1, ky, vl⟩ = yy at *
   obtain ⟨⟨lsN, oN, ssN⟩, rN⟩ := yy
   dsimp only at HST
   go_wp2_with fail
   refine (uh HCA).mono ?_
   rintro e w8 ⟨lv2, kv2, sv2, rfl, hs2, hb2, he2, hbs, fl2, fs2⟩
   dsimp only at hs2 hb2 he2
   have L8 := Hd ((uh HLB).next2 (y := ⟨lsN, oN, ssN⟩) hs2 hb2 he2 fl2 fs2 (uh HT7))
   obtain ⟨la4, lc4, ka4, kn4, kc4, sa4, sc4, rfl, rfl, rfl⟩ := (uh L8).shape
   dsimp only at L8
   have Z8 := Hd (an_put (lg := lg) (q' := q + 1) ((uh HK7).trans (hbs.mono (uh HK7).size)) ((uh HP7).below hbs) ((uh HR7).below hbs) ((uh HL7).below hbs) (uh L8) (uh HST))
   obtain ⟨⟨z0, z1, z2, z3, z4, z5⟩, g0, g1, g2, g3, g4, g5⟩ := Blk.c6 ((uh HL7).below hbs)
   dsimp only
   clear hs2 hb2 he2 fl2 fs2 hbs y0 y1 y2 y3 y4 y5 HCA HLB HT7 HL7 HP7 HR7 HK7 L8 C7 x7 x8 x9 xa xb
   go_wp2_with fail
   refine ⟨⟨q + 1, by omega, by go_num, Z8⟩, ?_⟩
   simp [intOf]; omega
  ·obtain rfl : q = cm := by omega
   obtain ⟨K7, P7, R7, lv, kv, sv, L7, LB7⟩ := uh HI
   generalize hy : stN lg q = y0 at *
   have HY := Hd hy
   clear hy
   obtain ⟨ls, o, ss⟩ := y0
   obtain ⟨la3, lc3, ka3, kn3, kc3, sa3, sc3, rfl, rfl, rfl⟩ := LB7.shape
   obtain ⟨⟨y0, y1, y2, y3, y4, y5⟩, _⟩ := Blk.c6 L7
   dsimp only at y0 y1 y2 y3 y4 y5
   obtain ⟨⟨x0, x1, x2, x3, x4, x5⟩, g0, g1, g2, g3, g4, g5⟩ := Blk.c6 R7
   have HR9 := Hd (st6 R7 (.slice la3 ls.length lc3) (.string (brOf o).key) (.string (brOf o).val) (.int .i64 (brOf o).at_) (.slice ka3 kn3 kc3) (.slice sa3 ss.length sc3))
   have ht := tc6 (Touch.refl (fun x => x = w.heap.size + 1) wr) (w.heap.size + 1) rfl (.slice la3 ls.length lc3) (.string (brOf o).key) (.string (brOf o).val) (.int .i64 (brOf o).at_) (.slice ka3 kn3 kc3) (.slice sa3 ss.length sc3)
   have HF := Hd (And.intro ((LB7.touch ht (fun k hk => by omega)).mono (T' := fun _ => False) (fun k hk => hk.elim)) (K7.trans (ht.below K7.size (fun x hx e => by omega))))
   clear K7 P7 R7 L7 LB7 ht HI
   go_wp2_with fail
   obtain ⟨⟨z0, z1, z2, z3, z4, z5⟩, _⟩ := Blk.c6 (uh HR9)
   refine bodyPost_ret (v := .agg #[.slice la3 ls.length lc3, .string (brOf o).key, .string (brOf o).val, .int .i64 (brOf o).at_, .slice ka3 kn3 kc3, .slice sa3 ss.length sc3]) (by simp [results, Tryz.results17, go_sem, z0, z1, z2, z3, z4, z5]) rfl ?_
   exact an_s (uh HY) ⟨_, _, _, _, _, _, _, rfl, (uh HF).1, (uh HF).2⟩
end Go.Proofs.YtbchnheinnileaaGreatDoor.Sha
