/- What the proof of the claim needs (joined by program): AqS LedM. -/
import Derived.Test.YtnhhnjmjodmacaaGreatDoorQap47
import Derived.Test.YtnhhnjmjodmacaaGreatDoorQap48
import Derived.Test.YtnhhnjmjodmacaaGreatDoorQap01
import Derived.Test.YtnhhnjmjodmacaaGreatDoorQap33
import Derived.Test.YtnhhnjmjodmacaaGreatDoorQap31
import Derived.Test.YtnhhnjmjodmacaaGreatDoorQap22
import Derived.Test.YtnhhnjmjodmacaaGreatDoorQap00
namespace Go.Proofs.YtnhhnjmjodmacaaGreatDoor.Sha
set_option maxRecDepth 100000
set_option maxHeartbeats 8000000
open Go.ChangeShapes Go.WideShapes Go.ChangeAt Go.RowKit Go.Deep
set_option linter.unusedVariables false
set_option linter.unusedSimpArgs false
theorem lok_cnt {x : Lst} (h : LOK x) : cntL (brOf x.o).kids ≤ 80 := by
 have h1 := h.keys
 cases ho : x.o with
 | none => show cntL [] ≤ 80; unfold cntL; omega
 | some t =>
  rw [ho] at h1
  have h2 := tr_cntL t
  have h3 : t.lvN ≤ 40 := h1
  show cntL t.toBr.kids ≤ 80
  omega
theorem specApply_any (ls : List ByteArray) (k v : ByteArray) (a : Int) (ks : List Br) (ss : List Se) (lb loff lc : Nat) (ka : Option Addr) (kc : Nat) (sa : Option Addr) (sc : Nat) (c : Cm) (w : World)
  (hS : SA w lb loff lc ls) (h : LedR w (.slice (some ⟨lb, loff, none⟩) ls.length lc) (.slice ka ks.length kc) (.slice sa ss.length sc) ls ks ss) (t1 : ∀ i, (ls.getD i ByteArray.empty).size ≤ 1048576) (zk : k.size ≤ maxLen) (zv : v.size ≤ maxLen) (t3 : ∀ i, (ss.getD i default).vl.size ≤ 1048576) (hcz : c.ky.size ≤ maxLen ∧ c.vl.size ≤ maxLen) :
  Calls Tryz.prog 8 #[.agg #[.slice (some ⟨lb, loff, none⟩) ls.length lc, .string k, .string v, .int .i64 a, .slice ka ks.length kc, .slice sa ss.length sc], .agg #[.int .i64 c.kd, .int .i64 c.ss, .int .i64 c.sq, .string c.ky, .string c.vl]] w fun e w' => ApyE w (apyO ls (.mk k v a ks) ss c) e w' := by
 have HBAD : Hid (∀ w', apyO ls (.mk k v a ks) ss c = (zLst, zRe, 1) → Below w.heap.size w w' → ApyE w (apyO ls (.mk k v a ks) ss c) (.returned (.tuple #[.agg #[.slice none 0 0, .string ⟨#[]⟩, .string ⟨#[]⟩, .int .i64 0, .slice none 0 0, .slice none 0 0], .agg #[.int .i64 0, .int .i64 0, .string ⟨#[]⟩], .int .i64 1])) w') := Hd (fun w' h hb => apy_bad h hb)
 have HB := Hd (fun hx => apyO_bad (ls := ls) (b := .mk k v a ks) (ss := ss) (c := c) hx)
 have HG := Hd (fun o hx hy hm => apyO_good (ls := ls) (b := .mk k v a ks) (ss := ss) (c := c) (o := o) hx hy hm)
 have HL := Hd (fun o hx hm => lok_of (ls := ls) (b := .mk k v a ks) (ss := ss) (o := o) hx hm)
 have HMP := Hd (fun hx => ledB_map (ls := ls) (b := .mk k v a ks) (ss := ss) hx)
 have HTE := Hd (fun (y : Lst × Re × Int) e w' (he : apyO ls (.mk k v a ks) ss c = y) (hh : ApyE w y e w') => apy_tell he hh)
 have HOB := Hd (fun wx (hx : Below w.heap.size w wx) => specLedgerOK_any ls k v a ks ss lb loff lc ka kc sa sc wx (hS.below hx) (h.below hx) t1 zk zv t3)
 have HCO := Hd (fun wx => specCommandOK_any c.kd c.ss c.sq c.ky c.vl wx hcz.1 hcz.2)
 have hck : cmdOK c.kd c.ss c.sq c.ky c.vl = cmK c := rfl
 rw [hck] at HCO
 have HAY := Hd (fun om (hmo : mapV (.mk k v a ks) = some om) (hlo : LOK ⟨ls, om, ss⟩) (hcc : cmK c = true) wx (hx : Below w.heap.size w wx) => show Calls Tryz.prog 32 #[.agg #[.slice (some ⟨lb, loff, none⟩) ls.length lc, .string k, .string v, .int .i64 a, .slice ka ks.length kc, .slice sa ss.length sc], .agg #[.int .i64 c.kd, .int .i64 c.ss, .int .i64 c.sq, .string c.ky, .string c.vl]] wx (fun e w' => ApN (fun x => x < wx.heap.size) (.slice (some ⟨lb, loff, none⟩) ls.length lc) (.slice sa ss.length sc) (apOut ⟨ls, om, ss⟩ c) wx e w') from by
  have e := (mapV_br hmo).1
  have q := l09Apply_any ls om ss (some ⟨lb, loff, none⟩) ka sa lc ks.length kc sc c wx (fun x => x < wx.heap.size) (fun x h9 => h9) (h.lv.below hx) (by rw [← e]; exact (h.kv.blw hx).low) (h.sv.below hx) hlo hcc
  rw [← e] at q
  exact q)
 clear hck hS h t1 zk zv t3 hcz
 generalize apyO ls (.mk k v a ks) ss c = out at *
 have B0 := Hd ((((bal w (.cells #[.slice (some ⟨lb, loff, none⟩) ls.length lc, .string k, .string v, .int .i64 a, .slice ka ks.length kc, .slice sa ss.length sc] 38)).alloc (by simp) (.cells #[.int .i64 c.kd, .int .i64 c.ss, .int .i64 c.sq, .string c.ky, .string c.vl] 44)).alloc (by simp; omega) (.cells #[.slice none 0 0, .string ⟨#[]⟩, .string ⟨#[]⟩, .int .i64 0, .slice none 0 0, .slice none 0 0] 38)).alloc (by simp; omega) (.cells #[.int .i64 0, .int .i64 0, .string ⟨#[]⟩] 40))
 have X0 := Hd ((((Blk.new w #[.slice (some ⟨lb, loff, none⟩) ls.length lc, .string k, .string v, .int .i64 a, .slice ka ks.length kc, .slice sa ss.length sc] 38 w.heap.size rfl).alloc (.cells #[.int .i64 c.kd, .int .i64 c.ss, .int .i64 c.sq, .string c.ky, .string c.vl] 44)).alloc (.cells #[.slice none 0 0, .string ⟨#[]⟩, .string ⟨#[]⟩, .int .i64 0, .slice none 0 0, .slice none 0 0] 38)).alloc (.cells #[.int .i64 0, .int .i64 0, .string ⟨#[]⟩] 40))
 have C0 := Hd (((Blk.new (w.alloc (.cells #[.slice (some ⟨lb, loff, none⟩) ls.length lc, .string k, .string v, .int .i64 a, .slice ka ks.length kc, .slice sa ss.length sc] 38)) #[.int .i64 c.kd, .int .i64 c.ss, .int .i64 c.sq, .string c.ky, .string c.vl] 44 (w.heap.size + 1) (by simp)).alloc (.cells #[.slice none 0 0, .string ⟨#[]⟩, .string ⟨#[]⟩, .int .i64 0, .slice none 0 0, .slice none 0 0] 38)).alloc (.cells #[.int .i64 0, .int .i64 0, .string ⟨#[]⟩] 40))
 have L0 := Hd ((Blk.new ((w.alloc (.cells #[.slice (some ⟨lb, loff, none⟩) ls.length lc, .string k, .string v, .int .i64 a, .slice ka ks.length kc, .slice sa ss.length sc] 38)).alloc (.cells #[.int .i64 c.kd, .int .i64 c.ss, .int .i64 c.sq, .string c.ky, .string c.vl] 44)) #[.slice none 0 0, .string ⟨#[]⟩, .string ⟨#[]⟩, .int .i64 0, .slice none 0 0, .slice none 0 0] 38 (w.heap.size + 2) (by simp)).alloc (.cells #[.int .i64 0, .int .i64 0, .string ⟨#[]⟩] 40))
 have R0 := Hd (Blk.new (((w.alloc (.cells #[.slice (some ⟨lb, loff, none⟩) ls.length lc, .string k, .string v, .int .i64 a, .slice ka ks.length kc, .slice sa ss.length sc] 38)).alloc (.cells #[.int .i64 c.kd, .int .i64 c.ss, .int .i64 c.sq, .string c.ky, .string c.vl] 44)).alloc (.cells #[.slice none 0 0, .string ⟨#[]⟩, .string ⟨#[]⟩, .int .i64 0, .slice none 0 0, .slice none 0 0] 38)) #[.int .i64 0, .int .i64 0, .string ⟨#[]⟩] 40 (w.heap.size + 3) (by simp))
 go_enter Tryz.func8, Tryz.ntmps8
 go_upto_region 1 with fail
 generalize (((w.alloc (.cells #[.slice (some ⟨lb, loff, none⟩) ls.length lc, .string k, .string v, .int .i64 a, .slice ka ks.length kc, .slice sa ss.length sc] 38)).alloc (.cells #[.int .i64 c.kd, .int .i64 c.ss, .int .i64 c.sq, .string c.ky, .string c.vl] 44)).alloc (.cells #[.slice none 0 0, .string ⟨#[]⟩, .string ⟨#[]⟩, .int .i64 0, .slice none 0 0, .slice none 0 0] 38)).alloc (.cells #[.int .i64 0, .int .i64 0, .string ⟨#[]⟩] 40) = w0 at *
 have hw0 : w.heap.size + 3 < w0.heap.size := (uh R0).1
 obtain ⟨⟨x0, x1, x2, x3, x4, x5⟩, _⟩ := Blk.c6 (uh X0)
 have HO1 := Hd (uh HOB w0 (uh B0))
 clear HOB
 cases hlb : ledB ls (.mk k v a ks) ss
 ·rw [hlb] at HO1
  have E := Hd (uh HB (fun h => by rw [hlb] at h; cases h.1))
  go_wp2_with fail
  refine (uh HO1).mono ?_
  rintro e w1 ⟨rfl, hb1⟩
  have K1 := hbt B0 hb1
  have RL := Hd ((uh L0).below hb1)
  have RR := Hd ((uh R0).below hb1)
  have hw1 : w.heap.size + 3 < w1.heap.size := (uh RR).1
  clear hb1 HO1 x0 x1 x2 x3 x4 x5 L0 R0 C0 B0 X0
  have RLX := uh RL
  have RRX := uh RR
  obtain ⟨⟨l0, l1, l2, l3, l4, l5⟩, lf0, lf1, lf2, lf3, lf4, lf5⟩ := Blk.c6 RLX
  obtain ⟨⟨r0, r1, r2⟩, rf0, rf1, rf2⟩ := Blk.c3 RRX
  have T8 := (((((((Touch.refl (fun x => x = w.heap.size + 2 ∨ x = w.heap.size + 3) w1).setCell ⟨w.heap.size + 2, 0, none⟩ (.slice none 0 0) (fun _ => .inl rfl)).setCell ⟨w.heap.size + 2, 1, none⟩ (.string ⟨#[]⟩) (fun _ => .inl rfl)).setCell ⟨w.heap.size + 2, 2, none⟩ (.string ⟨#[]⟩) (fun _ => .inl rfl)).setCell ⟨w.heap.size + 2, 3, none⟩ (.int .i64 0) (fun _ => .inl rfl)).setCell ⟨w.heap.size + 2, 4, none⟩ (.slice none 0 0) (fun _ => .inl rfl)).setCell ⟨w.heap.size + 2, 5, none⟩ (.slice none 0 0) (fun _ => .inl rfl))
  have T9 := (((T8.setCell ⟨w.heap.size + 3, 0, none⟩ (.int .i64 0) (fun _ => .inr rfl)).setCell ⟨w.heap.size + 3, 1, none⟩ (.int .i64 0) (fun _ => .inr rfl)).setCell ⟨w.heap.size + 3, 2, none⟩ (.string ⟨#[]⟩) (fun _ => .inr rfl))
  have N9 := Hd (((((((((RLX.set 0 (.slice none 0 0) (by simp)).set 1 (.string ⟨#[]⟩) (by simp)).set 2 (.string ⟨#[]⟩) (by simp)).set 3 (.int .i64 0) (by simp)).set 4 (.slice none 0 0) (by simp)).set 5 (.slice none 0 0) (by simp)).other (C := w.heap.size + 3) 0 (.int .i64 0) (by omega)).other (C := w.heap.size + 3) 1 (.int .i64 0) (by omega)).other (C := w.heap.size + 3) 2 (.string ⟨#[]⟩) (by omega))
  have V9 := Hd (((((((((RRX.other (C := w.heap.size + 2) 0 (.slice none 0 0) (by omega)).other (C := w.heap.size + 2) 1 (.string ⟨#[]⟩) (by omega)).other (C := w.heap.size + 2) 2 (.string ⟨#[]⟩) (by omega)).other (C := w.heap.size + 2) 3 (.int .i64 0) (by omega)).other (C := w.heap.size + 2) 4 (.slice none 0 0) (by omega)).other (C := w.heap.size + 2) 5 (.slice none 0 0) (by omega)).set 0 (.int .i64 0) (by simp)).set 1 (.int .i64 0) (by simp)).set 2 (.string ⟨#[]⟩) (by simp))
  have K9 := Hd ((uh K1).trans (T9.below (uh K1).size (fun x hx e => by rcases e with e | e <;> omega)))
  clear T8 T9 RLX RRX
  go_wp2_with fail
  have N9' := uh N9
  have V9' := uh V9
  obtain ⟨⟨z0, z1, z2, z3, z4, z5⟩, _⟩ := Blk.c6 N9'
  have u0 := V9'.cell 0 rfl
  have u1 := V9'.cell 1 rfl
  have u2 := V9'.cell 2 rfl
  refine bodyPost_ret (v := .tuple #[.agg #[.slice none 0 0, .string ⟨#[]⟩, .string ⟨#[]⟩, .int .i64 0, .slice none 0 0, .slice none 0 0], .agg #[.int .i64 0, .int .i64 0, .string ⟨#[]⟩], .int .i64 1]) (by simp [results, Tryz.results8, go_sem, z0, z1, z2, z3, z4, z5, u0, u1, u2]) rfl ?_
  exact (uh HBAD) _ (uh E) (uh K9)
 rw [hlb] at HO1
 obtain ⟨om, hmo⟩ := uh HMP hlb
 have HLO := Hd (uh HL om hlb hmo)
 go_wp2_with fail
 refine (uh HO1).mono ?_
 rintro e w1 ⟨rfl, hb1⟩
 have K1 := hbt B0 hb1
 have X1 := Hd ((uh X0).below hb1)
 have C1 := Hd ((uh C0).below hb1)
 have L1 := Hd ((uh L0).below hb1)
 have R1 := Hd ((uh R0).below hb1)
 clear hb1 HO1 x0 x1 x2 x3 x4 x5 L0 R0 C0 B0 X0 hw0
 have HC1 := Hd (uh HCO w1)
 obtain ⟨y0, y1, y2, y3, y4⟩ := Blk.c5 (uh C1)
 cases hcc : cmK c
 ·rw [hcc] at HC1
  have E := Hd (uh HB (fun h => by rw [hcc] at h; cases h.2))
  go_wp2_with fail
  refine (uh HC1).mono ?_
  rintro e w2 ⟨rfl, hb2⟩
  have K2 := hbt K1 hb2
  have RL := Hd ((uh L1).below hb2)
  have RR := Hd ((uh R1).below hb2)
  have hw2 : w.heap.size + 3 < w2.heap.size := (uh RR).1
  clear hb2 HC1 y0 y1 y2 y3 y4 L1 R1 C1 K1 X1
  have RLX := uh RL
  have RRX := uh RR
  obtain ⟨⟨l0, l1, l2, l3, l4, l5⟩, lf0, lf1, lf2, lf3, lf4, lf5⟩ := Blk.c6 RLX
  obtain ⟨⟨r0, r1, r2⟩, rf0, rf1, rf2⟩ := Blk.c3 RRX
  have T8 := (((((((Touch.refl (fun x => x = w.heap.size + 2 ∨ x = w.heap.size + 3) w2).setCell ⟨w.heap.size + 2, 0, none⟩ (.slice none 0 0) (fun _ => .inl rfl)).setCell ⟨w.heap.size + 2, 1, none⟩ (.string ⟨#[]⟩) (fun _ => .inl rfl)).setCell ⟨w.heap.size + 2, 2, none⟩ (.string ⟨#[]⟩) (fun _ => .inl rfl)).setCell ⟨w.heap.size + 2, 3, none⟩ (.int .i64 0) (fun _ => .inl rfl)).setCell ⟨w.heap.size + 2, 4, none⟩ (.slice none 0 0) (fun _ => .inl rfl)).setCell ⟨w.heap.size + 2, 5, none⟩ (.slice none 0 0) (fun _ => .inl rfl))
  have T9 := (((T8.setCell ⟨w.heap.size + 3, 0, none⟩ (.int .i64 0) (fun _ => .inr rfl)).setCell ⟨w.heap.size + 3, 1, none⟩ (.int .i64 0) (fun _ => .inr rfl)).setCell ⟨w.heap.size + 3, 2, none⟩ (.string ⟨#[]⟩) (fun _ => .inr rfl))
  have N9 := Hd (((((((((RLX.set 0 (.slice none 0 0) (by simp)).set 1 (.string ⟨#[]⟩) (by simp)).set 2 (.string ⟨#[]⟩) (by simp)).set 3 (.int .i64 0) (by simp)).set 4 (.slice none 0 0) (by simp)).set 5 (.slice none 0 0) (by simp)).other (C := w.heap.size + 3) 0 (.int .i64 0) (by omega)).other (C := w.heap.size + 3) 1 (.int .i64 0) (by omega)).other (C := w.heap.size + 3) 2 (.string ⟨#[]⟩) (by omega))
  have V9 := Hd (((((((((RRX.other (C := w.heap.size + 2) 0 (.slice none 0 0) (by omega)).other (C := w.heap.size + 2) 1 (.string ⟨#[]⟩) (by omega)).other (C := w.heap.size + 2) 2 (.string ⟨#[]⟩) (by omega)).other (C := w.heap.size + 2) 3 (.int .i64 0) (by omega)).other (C := w.heap.size + 2) 4 (.slice none 0 0) (by omega)).other (C := w.heap.size + 2) 5 (.slice none 0 0) (by omega)).set 0 (.int .i64 0) (by simp)).set 1 (.int .i64 0) (by simp)).set 2 (.string ⟨#[]⟩) (by simp))
  have K9 := Hd ((uh K2).trans (T9.below (uh K2).size (fun x hx e => by rcases e with e | e <;> omega)))
  clear T8 T9 RLX RRX
  go_wp2_with fail
  have N9' := uh N9
  have V9' := uh V9
  obtain ⟨⟨z0, z1, z2, z3, z4, z5⟩, _⟩ := Blk.c6 N9'
  have u0 := V9'.cell 0 rfl
  have u1 := V9'.cell 1 rfl
  have u2 := V9'.cell 2 rfl
  refine bodyPost_ret (v := .tuple #[.agg #[.slice none 0 0, .string ⟨#[]⟩, .string ⟨#[]⟩, .int .i64 0, .slice none 0 0, .slice none 0 0], .agg #[.int .i64 0, .int .i64 0, .string ⟨#[]⟩], .int .i64 1]) (by simp [results, Tryz.results8, go_sem, z0, z1, z2, z3, z4, z5, u0, u1, u2]) rfl ?_
  exact (uh HBAD) _ (uh E) (uh K9)
 rw [hcc] at HC1
 have E := Hd (uh HG om hlb hcc hmo)
 have HLN := Hd (ap_ok (uh HLO) hcc).1
 have HA2 := Hd (uh HAY om hmo (uh HLO) hcc)
 clear hcc hlb hmo HB HG HBAD HAY HLO HL HMP
 go_wp2_with fail
 refine (uh HC1).mono ?_
 rintro e w2 ⟨rfl, hb2⟩
 have K2 := hbt K1 hb2
 have X2 := Hd ((uh X1).below hb2)
 have C2 := Hd ((uh C1).below hb2)
 have L2 := Hd ((uh L1).below hb2)
 have R2 := Hd ((uh R1).below hb2)
 clear hb2 HC1 y0 y1 y2 y3 y4 C1 L1 R1 X1 K1
 have HA3 := Hd (uh HA2 w2 (uh K2))
 clear HA2
 generalize apOut ⟨ls, om, ss⟩ c = y at *
 obtain ⟨⟨lsN, oN, ssN⟩, rN⟩ := y
 dsimp only at E
 obtain ⟨⟨x0, x1, x2, x3, x4, x5⟩, _⟩ := Blk.c6 (uh X2)
 obtain ⟨y0, y1, y2, y3, y4⟩ := Blk.c5 (uh C2)
 go_wp2_with fail
 refine (uh HA3).mono ?_
 rintro e w3 ⟨lv, kv, sv, rfl, hs3, hb3, he3, hbl3, _, _⟩
 dsimp only at hs3 hb3 he3 ⊢
 have hs3' := hs3
 have he3' := he3
 obtain ⟨la3, lc3, rfl, _⟩ := hs3'
 obtain ⟨ka3, kc3, rfl, _⟩ := hb3.shape
 obtain ⟨sa3, sc3, rfl, _⟩ := he3'
 have HLS := Hd (show LedR w3 (.slice la3 lsN.length lc3) (.slice ka3 (brOf oN).kids.length kc3) (.slice sa3 ssN.length sc3) lsN (brOf oN).kids ssN from ⟨hs3, hb3.mono (fun _ _ => trivial), he3⟩)
 have HWN := Hd (fun wx (hx : Below w3.heap.size w3 wx) => l09Own_any (brOf oN).key (brOf oN).val (brOf oN).at_ lsN (brOf oN).kids ssN la3 ka3 sa3 lc3 kc3 sc3 wx ((uh HLS).below hx).lv ((uh HLS).below hx).kv ((uh HLS).below hx).sv (by have := (uh HLN).n; dsimp only at this; omega) (by have := lok_cnt (uh HLN); dsimp only at this; omega) (by have := (uh HLN).m; dsimp only at this; omega))
 have K3 := hbt K2 hbl3
 have L3 := Hd ((uh L2).below hbl3)
 have R3 := Hd ((uh R2).below hbl3)
 clear hs3 hb3 he3 hbl3 HA3 x0 x1 x2 x3 x4 x5 y0 y1 y2 y3 y4 K2 X2 C2 L2 R2 HLS
 have bA := (bal w3 (.cells #[.slice la3 lsN.length lc3, .string (brOf oN).key, .string (brOf oN).val, .int .i64 (brOf oN).at_, .slice ka3 (brOf oN).kids.length kc3, .slice sa3 ssN.length sc3] 38)).alloc (by simp) (.cells #[.int .i64 rN.kd, .int .i64 rN.pl, .string rN.vl] 40)
 have N4 := Hd ((Blk.new w3 #[.slice la3 lsN.length lc3, .string (brOf oN).key, .string (brOf oN).val, .int .i64 (brOf oN).at_, .slice ka3 (brOf oN).kids.length kc3, .slice sa3 ssN.length sc3] 38 w3.heap.size rfl).alloc (.cells #[.int .i64 rN.kd, .int .i64 rN.pl, .string rN.vl] 40))
 have V4 := Hd (Blk.new (w3.alloc (.cells #[.slice la3 lsN.length lc3, .string (brOf oN).key, .string (brOf oN).val, .int .i64 (brOf oN).at_, .slice ka3 (brOf oN).kids.length kc3, .slice sa3 ssN.length sc3] 38)) #[.int .i64 rN.kd, .int .i64 rN.pl, .string rN.vl] 40 (w3.heap.size + 1) (by simp))
 have KB4 := Hd bA
 have K4 := hbt K3 bA
 have L4 := Hd ((uh L3).below bA)
 have R4 := Hd ((uh R3).below bA)
 have hw3 : w.heap.size + 3 < w3.heap.size := (uh R3).1
 clear bA K3 L3 R3
 go_upto_region 4 with fail
 generalize (w3.alloc (.cells #[.slice la3 lsN.length lc3, .string (brOf oN).key, .string (brOf oN).val, .int .i64 (brOf oN).at_, .slice ka3 (brOf oN).kids.length kc3, .slice sa3 ssN.length sc3] 38)).alloc (.cells #[.int .i64 rN.kd, .int .i64 rN.pl, .string rN.vl] 40) = w4 at *
 have hnw : w3.heap.size + 1 < w4.heap.size := (uh V4).1
 have HWN4 := Hd (fun wx (hx : Below w4.heap.size w4 wx) => uh HWN wx ((uh KB4).trans (hx.mono (uh KB4).size)))
 clear HWN KB4
 obtain ⟨nb, hnb⟩ : ∃ nb, nb = w3.heap.size := ⟨_, rfl⟩
 rw [← hnb] at N4 V4 hnw hw3 ⊢
 clear hnb
 obtain ⟨vb, hvb⟩ : ∃ vb, vb = nb + 1 := ⟨_, rfl⟩
 rw [← hvb] at V4 hnw ⊢
 have hnv : nb < w4.heap.size := by omega
 have hvn : nb < vb := by omega
 clear hvb
 obtain ⟨⟨n0, n1, n2, n3, n4, n5⟩, _⟩ := Blk.c6 (uh N4)
 have v0 := (uh V4).cell 0 rfl
 have v1 := (uh V4).cell 1 rfl
 have v2 := (uh V4).cell 2 rfl
 refine wp_region_noPanic ?_
 refine wp_region_held_drew (S := (fun wx => wx.cell? ⟨nb, 0, none⟩ = some (.slice la3 lsN.length lc3) ∧ wx.cell? ⟨nb, 1, none⟩ = some (.string (brOf oN).key) ∧ wx.cell? ⟨nb, 2, none⟩ = some (.string (brOf oN).val) ∧ wx.cell? ⟨nb, 3, none⟩ = some (.int .i64 (brOf oN).at_) ∧ wx.cell? ⟨nb, 4, none⟩ = some (.slice ka3 (brOf oN).kids.length kc3) ∧ wx.cell? ⟨nb, 5, none⟩ = some (.slice sa3 ssN.length sc3) ∧ wx.cell? ⟨vb, 0, none⟩ = some (.int .i64 rN.kd) ∧ wx.cell? ⟨vb, 1, none⟩ = some (.int .i64 rN.pl) ∧ wx.cell? ⟨vb, 2, none⟩ = some (.string rN.vl))) (by kernel_rfl) ?_ (fun hHeld => ?_)
 ·exact ⟨n0, n1, n2, n3, n4, n5, v0, v1, v2⟩
 refine tkH 0 rfl ?_
 refine tkH 2 rfl ?_
 have hdr := below_drewN (Below.refl w4.heap.size w4) 1
 change Below w4.heap.size w4 w4.drew at hdr
 have KD := Hd hdr
 have HL5 := Hd (uh HWN4 w4.drew hdr)
 clear hdr HWN4
 generalize w4.drew = w5 at *
 refine rdy1 1 rfl (fun K hK => ?_)
 go_simp
 refine (uh HL5).mono ?_
 rintro e w6 ⟨la2, lc2, ka2, kn2, kc2, sa2, sc2, rfl, hlo, hb6⟩
 have KD6 := hbt KD hb6
 have HLO2 := Hd hlo
 have hs5 := (uh KD).size
 clear hb6 hlo
 go_wp2_with fail
 refine outH hK ?_ (fun hHeld => ?_)
 ·exact ⟨((uh KD6).cell (p := ⟨nb, 0, none⟩) hnv).trans n0, ((uh KD6).cell (p := ⟨nb, 1, none⟩) hnv).trans n1, ((uh KD6).cell (p := ⟨nb, 2, none⟩) hnv).trans n2, ((uh KD6).cell (p := ⟨nb, 3, none⟩) hnv).trans n3, ((uh KD6).cell (p := ⟨nb, 4, none⟩) hnv).trans n4, ((uh KD6).cell (p := ⟨nb, 5, none⟩) hnv).trans n5, ((uh KD6).cell (p := ⟨vb, 0, none⟩) hnw).trans v0, ((uh KD6).cell (p := ⟨vb, 1, none⟩) hnw).trans v1, ((uh KD6).cell (p := ⟨vb, 2, none⟩) hnw).trans v2⟩
 clear hK K
 have RLX := (uh L4).below (uh KD6)
 have RRX := (uh R4).below (uh KD6)
 obtain ⟨⟨l0, l1, l2, l3, l4, l5⟩, lf0, lf1, lf2, lf3, lf4, lf5⟩ := Blk.c6 RLX
 obtain ⟨⟨r0, r1, r2⟩, rf0, rf1, rf2⟩ := Blk.c3 RRX
 have T8 := (((((((Touch.refl (fun x => x = w.heap.size + 2 ∨ x = w.heap.size + 3) w6).setCell ⟨w.heap.size + 2, 0, none⟩ (.slice la2 lsN.length lc2) (fun _ => .inl rfl)).setCell ⟨w.heap.size + 2, 1, none⟩ (.string (brOf oN).key) (fun _ => .inl rfl)).setCell ⟨w.heap.size + 2, 2, none⟩ (.string (brOf oN).val) (fun _ => .inl rfl)).setCell ⟨w.heap.size + 2, 3, none⟩ (.int .i64 (brOf oN).at_) (fun _ => .inl rfl)).setCell ⟨w.heap.size + 2, 4, none⟩ (.slice ka2 kn2 kc2) (fun _ => .inl rfl)).setCell ⟨w.heap.size + 2, 5, none⟩ (.slice sa2 ssN.length sc2) (fun _ => .inl rfl))
 have T9 := (((T8.setCell ⟨w.heap.size + 3, 0, none⟩ (.int .i64 rN.kd) (fun _ => .inr rfl)).setCell ⟨w.heap.size + 3, 1, none⟩ (.int .i64 rN.pl) (fun _ => .inr rfl)).setCell ⟨w.heap.size + 3, 2, none⟩ (.string rN.vl) (fun _ => .inr rfl))
 have N9 := Hd (((((((((RLX.set 0 (.slice la2 lsN.length lc2) (by simp)).set 1 (.string (brOf oN).key) (by simp)).set 2 (.string (brOf oN).val) (by simp)).set 3 (.int .i64 (brOf oN).at_) (by simp)).set 4 (.slice ka2 kn2 kc2) (by simp)).set 5 (.slice sa2 ssN.length sc2) (by simp)).other (C := w.heap.size + 3) 0 (.int .i64 rN.kd) (by omega)).other (C := w.heap.size + 3) 1 (.int .i64 rN.pl) (by omega)).other (C := w.heap.size + 3) 2 (.string rN.vl) (by omega))
 have V9 := Hd (((((((((RRX.other (C := w.heap.size + 2) 0 (.slice la2 lsN.length lc2) (by omega)).other (C := w.heap.size + 2) 1 (.string (brOf oN).key) (by omega)).other (C := w.heap.size + 2) 2 (.string (brOf oN).val) (by omega)).other (C := w.heap.size + 2) 3 (.int .i64 (brOf oN).at_) (by omega)).other (C := w.heap.size + 2) 4 (.slice ka2 kn2 kc2) (by omega)).other (C := w.heap.size + 2) 5 (.slice sa2 ssN.length sc2) (by omega)).set 0 (.int .i64 rN.kd) (by simp)).set 1 (.int .i64 rN.pl) (by simp)).set 2 (.string rN.vl) (by simp))
 have hs6 := (uh KD6).size
 have hk8 := fun (b i : Nat) (u : Value) (h9 : nb ≤ b) (h10 : b < w4.heap.size) (h : w4.cell? ⟨b, i, none⟩ = some u) => (T8.cell (p := ⟨b, i, none⟩) (show b < w6.heap.size by omega) (show ¬ (b = w.heap.size + 2 ∨ b = w.heap.size + 3) by omega)).trans (((uh KD6).cell (p := ⟨b, i, none⟩) h10).trans h)
 have hk9 := fun (b i : Nat) (u : Value) (h9 : nb ≤ b) (h10 : b < w4.heap.size) (h : w4.cell? ⟨b, i, none⟩ = some u) => (T9.cell (p := ⟨b, i, none⟩) (show b < w6.heap.size by omega) (show ¬ (b = w.heap.size + 2 ∨ b = w.heap.size + 3) by omega)).trans (((uh KD6).cell (p := ⟨b, i, none⟩) h10).trans h)
 refine rdy1 3 rfl (fun K hK => ?_)
 go_simp
 refine outH hK ?_ (fun hHeld => ?_)
 ·exact ⟨hk8 _ _ _ (Nat.le_refl _) hnv n0, hk8 _ _ _ (Nat.le_refl _) hnv n1, hk8 _ _ _ (Nat.le_refl _) hnv n2, hk8 _ _ _ (Nat.le_refl _) hnv n3, hk8 _ _ _ (Nat.le_refl _) hnv n4, hk8 _ _ _ (Nat.le_refl _) hnv n5, hk8 _ _ _ (by omega) hnw v0, hk8 _ _ _ (by omega) hnw v1, hk8 _ _ _ (by omega) hnw v2⟩
 clear hK K
 refine rdy1 4 rfl (fun K hK => ?_)
 go_simp
 refine outH hK ?_ (fun hHeld => ?_)
 ·exact ⟨hk9 _ _ _ (Nat.le_refl _) hnv n0, hk9 _ _ _ (Nat.le_refl _) hnv n1, hk9 _ _ _ (Nat.le_refl _) hnv n2, hk9 _ _ _ (Nat.le_refl _) hnv n3, hk9 _ _ _ (Nat.le_refl _) hnv n4, hk9 _ _ _ (Nat.le_refl _) hnv n5, hk9 _ _ _ (by omega) hnw v0, hk9 _ _ _ (by omega) hnw v1, hk9 _ _ _ (by omega) hnw v2⟩
 clear hK K
 refine tkH 5 rfl ?_
 refine wpAnyH_done (by kernel_rfl) (NoPanic.normal ?_) _
 clear hHeld hk8 hk9
 have K6 := (uh K4).trans ((uh KD6).mono (uh K4).size)
 have K9 := Hd (K6.trans (T9.below K6.size (fun x hx e => by rcases e with e | e <;> omega)))
 have LO9 := Hd (show LedO w.heap.size _ (.slice la2 lsN.length lc2) (.slice ka2 kn2 kc2) (.slice sa2 ssN.length sc2) lsN (brOf oN).kids ssN from by
  obtain ⟨q1, q2, q3, Sq, q4, q5⟩ := uh HLO2
  exact ⟨OwnS.down' (q1.kept T9 (fun x hx e => by have := (q1.lt x hx).1; omega)) (by omega), OwnSe.down (q2.kept T9 (fun x hx e => by have := (q2.lt x hx).1; omega)) (by omega), q3, Sq, q4.touch T9 (fun x hx e => by have := (q5 x hx).1; omega), fun x hx => ⟨by have := (q5 x hx).1; omega, Nat.lt_of_lt_of_le (q5 x hx).2.1 T9.size, (q5 x hx).2.2⟩⟩)
 clear T8 T9 K6 RLX RRX HLO2
 generalize (((((((((w6.setCell ⟨w.heap.size + 2, 0, none⟩ (.slice la2 lsN.length lc2)).setCell ⟨w.heap.size + 2, 1, none⟩ (.string (brOf oN).key)).setCell ⟨w.heap.size + 2, 2, none⟩ (.string (brOf oN).val)).setCell ⟨w.heap.size + 2, 3, none⟩ (.int .i64 (brOf oN).at_)).setCell ⟨w.heap.size + 2, 4, none⟩ (.slice ka2 kn2 kc2)).setCell ⟨w.heap.size + 2, 5, none⟩ (.slice sa2 ssN.length sc2)).setCell ⟨w.heap.size + 3, 0, none⟩ (.int .i64 rN.kd)).setCell ⟨w.heap.size + 3, 1, none⟩ (.int .i64 rN.pl)).setCell ⟨w.heap.size + 3, 2, none⟩ (.string rN.vl)) = w9 at *
 go_wp2_with fail
 have N9' := uh N9
 have V9' := uh V9
 obtain ⟨⟨z0, z1, z2, z3, z4, z5⟩, _⟩ := Blk.c6 N9'
 have u0 := V9'.cell 0 rfl
 have u1 := V9'.cell 1 rfl
 have u2 := V9'.cell 2 rfl
 refine bodyPost_ret (v := .tuple #[.agg #[.slice la2 lsN.length lc2, .string (brOf oN).key, .string (brOf oN).val, .int .i64 (brOf oN).at_, .slice ka2 kn2 kc2, .slice sa2 ssN.length sc2], .agg #[.int .i64 rN.kd, .int .i64 rN.pl, .string rN.vl], .int .i64 0]) (by simp [results, Tryz.results8, go_sem, z0, z1, z2, z3, z4, z5, u0, u1, u2]) rfl ?_
 exact (uh HTE) _ _ _ (uh E) ⟨_, _, _, _, _, _, _, rfl, uh LO9, uh K9⟩
end Go.Proofs.YtnhhnjmjodmacaaGreatDoor.Sha
namespace Go.Proofs.YtnhhnjmjodmacaaGreatDoor.Sha
set_option maxRecDepth 100000
set_option maxHeartbeats 8000000
open Go.ChangeShapes Go.WideShapes Go.ChangeAt Go.RowKit
set_option linter.unusedVariables false
theorem markBranchK_any (c : Nat) (hc0 : 0 < c) (k v : ByteArray) (at_ : Int) (a : Option Addr) (n cap : Nat) {S : Nat → Prop} {w : World} {l : List Br} (h : BrO w S (.slice a n cap) l) (hc : c + 3 * cntL l ≤ 8388608) :
  Calls Tryz.prog 45 #[.agg #[.string k, .string v, .int .i64 at_, .slice a n cap], .int .i64 (c : Int)] w fun e w' => e = .returned (.int .i64 ((c + 3 * cntL l : Nat) : Int)) ∧ BrO w' S (.slice a n cap) (markL c l) ∧ Touch S w w' := by
 have T1 := Hd ((Touch.refl (fun _ => False) w).alloc (.cells #[.string k, .string v, .int .i64 at_, .slice a n cap] 35))
 have HE := Hd (markBranchS_any h _ (fun _ => False) c (uh T1) (fun _ _ h => h) hc0 hc)
 have TS := Hd ((Touch.refl S w).alloc (.cells #[.string k, .string v, .int .i64 at_, .slice a n cap] 35))
 clear h
 generalize c + 3 * cntL l = m at *
 go_enter Tryz.func45, Tryz.ntmps45
 go_wp2_with fail
 refine (uh HE).mono ?_
 rintro e w2 ⟨rfl, hO2, hT2⟩
 have R := Hd (And.intro hO2 ((uh TS).trans hT2 (fun _ _ h => h)))
 clear hO2 hT2 HE
 go_wp2_with fail
 go_ret
 exact ⟨rfl, (uh R).1, (uh R).2⟩
def LedU (B M : Nat) (w : World) (lv kv sv : Value) (ls : List ByteArray) (ks : List Br) (ss : List Se) : Prop :=
 OwnS B w lv ls ∧ OwnSe B w sv ss ∧ (∀ x, lv.ownBlock = some x → sv.ownBlock ≠ some x) ∧ (∀ x, lv.ownBlock = some x → x < M) ∧ (∀ x, sv.ownBlock = some x → x < M) ∧ ∃ S : Nat → Prop, BrO w S kv ks ∧ ∀ x, S x → B ≤ x ∧ x < M ∧ lv.ownBlock ≠ some x ∧ sv.ownBlock ≠ some x
theorem LedO.up {B : Nat} {w : World} {lv kv sv : Value} {ls : List ByteArray} {ks : List Br} {ss : List Se} (h : LedO B w lv kv sv ls ks ss) : LedU B w.heap.size w lv kv sv ls ks ss := by
 obtain ⟨h1, h2, h4, S, h3, h5⟩ := h
 exact ⟨h1, h2, h4, fun x hx => (h1.lt x hx).2, fun x hx => (h2.lt x hx).2, S, h3, h5⟩
theorem LedU.below {B M : Nat} {w w' : World} {lv kv sv : Value} {ls : List ByteArray} {ks : List Br} {ss : List Se} (h : LedU B M w lv kv sv ls ks ss) (hb : Below w.heap.size w w') : LedU B M w' lv kv sv ls ks ss := by
 obtain ⟨h1, h2, h4, h6, h7, S, h3, h5⟩ := h
 exact ⟨h1.below hb, h2.below hb, h4, h6, h7, S, h3.blw hb, h5⟩
theorem LedU.led {B M : Nat} {w : World} {lv kv sv : Value} {ls : List ByteArray} {ks : List Br} {ss : List Se} (h : LedU B M w lv kv sv ls ks ss) : LedR w lv kv sv ls ks ss := by
 obtain ⟨h1, h2, _, _, _, S, h3, _⟩ := h
 exact ⟨h1.strs, h3.brs.mono (fun _ _ => trivial), h2.read⟩
theorem ledR_sum (L : Int) (ls : List ByteArray) (wt : Int) (ss : List Se) (h : 0 ≤ ledR L ls wt ss) : (ls.length : Int) + wt ≤ L := by
 unfold ledR at h
 split at h
 ·omega
 ·rename_i h1
  split at h
  ·omega
  ·rename_i h2
   have hw0 := sw_mono ls 0 ls.length (Nat.zero_le _)
   have hw00 : swTo ls 0 = 0 := rfl
   unfold szB at h2
   split at h2
   ·rename_i h3
    unfold sszR at h1 h3
    split at h3
    ·omega
    ·rename_i h4
     rw [if_neg h4] at h1
     omega
   ·omega
end Go.Proofs.YtnhhnjmjodmacaaGreatDoor.Sha
