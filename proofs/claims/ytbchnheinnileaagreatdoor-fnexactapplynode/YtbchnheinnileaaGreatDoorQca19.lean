/- What the proof of the claim needs (joined by program): AqA Rd RdD RdT RdC. -/
import Derived.Test.YtbchnheinnileaaGreatDoorQca18
import Derived.Test.YtbchnheinnileaaGreatDoorQca08
import Derived.Test.YtbchnheinnileaaGreatDoorQca11
import Derived.Test.YtbchnheinnileaaGreatDoorQca00
import Derived.Deep.RegionHeld3
import Derived.WalkSpells
namespace Go.Proofs.YtbchnheinnileaaGreatDoor.Sha
set_option maxRecDepth 100000
set_option maxHeartbeats 8000000
open Go.ChangeShapes Go.WideShapes Go.ChangeAt Go.RowKit Go.Deep
set_option linter.unusedVariables false
set_option linter.unusedSimpArgs false
def zLst : Lst := ⟨[], none, []⟩
open Classical in
noncomputable def aaO (l : List Cm) : Lst × List Re × Int :=
 if 4096 < l.length then (zLst, [], 2) else if 120 < l.length then (zLst, [], 6) else if ∃ i, i < l.length ∧ cmK (l.getD i default) = false then (zLst, [], 1) else (stA l l.length, resA l l.length, 0)
theorem aaO_long {l : List Cm} (h : 4096 < l.length) : aaO l = (zLst, [], 2) := by unfold aaO; rw [if_pos h]
theorem aaO_many {l : List Cm} (h : ¬ 4096 < l.length) (h1 : 120 < l.length) : aaO l = (zLst, [], 6) := by unfold aaO; rw [if_neg h, if_pos h1]
theorem aaO_bad {l : List Cm} (h1 : ¬ 120 < l.length) (h2 : ∃ i, i < l.length ∧ cmK (l.getD i default) = false) : aaO l = (zLst, [], 1) := by unfold aaO; rw [if_neg (by omega), if_neg h1, if_pos h2]
theorem aaO_good {l : List Cm} (h1 : ¬ 120 < l.length) (h2 : ∀ i, i < l.length → cmK (l.getD i default) = true) : aaO l = (stA l l.length, resA l l.length, 0) := by
 unfold aaO
 rw [if_neg (by omega), if_neg h1, if_neg (fun ⟨i, hi, e⟩ => by rw [h2 i hi] at e; cases e)]
def AaR (B : Nat) (w : World) (lv kv sv rv : Value) (x : Lst) (rs : List Re) : Prop :=
 OwnS B w lv x.ls ∧ OwnSe B w sv x.ss ∧ (∀ y, lv.ownBlock = some y → sv.ownBlock ≠ some y) ∧ OwnRe B w rv rs ∧ (∀ y, rv.ownBlock = some y → lv.ownBlock ≠ some y ∧ sv.ownBlock ≠ some y) ∧ ∃ S : Nat → Prop, BrO w S kv (brOf x.o).kids ∧ ∀ y, S y → B ≤ y ∧ y < w.heap.size ∧ lv.ownBlock ≠ some y ∧ sv.ownBlock ≠ some y ∧ rv.ownBlock ≠ some y
theorem AaR.nil (B : Nat) (w : World) : AaR B w (.slice none 0 0) (.slice none 0 0) (.slice none 0 0) (.slice none 0 0) zLst [] :=
 ⟨OwnS.nil _ _, OwnSe.nil _ _, (fun y h => by cases h), OwnRe.nil _ _, (fun y h => by cases h), fun _ => False, .nil _ none 0 (by unfold maxLen; omega), fun y h => h.elim⟩
def AaE (w : World) (x : Lst × List Re × Int) (e : Ending) (w' : World) : Prop :=
 ∃ lv kv sv rv, e = .returned (.tuple #[.agg #[lv, .string (brOf x.1.o).key, .string (brOf x.1.o).val, .int .i64 (brOf x.1.o).at_, kv, sv], rv, .int .i64 x.2.2]) ∧ AaR w.heap.size w' lv kv sv rv x.1 x.2.1 ∧ Below w.heap.size w w'
theorem aa_tell {x y : Lst × List Re × Int} {w w' : World} {e : Ending} (he : x = y) (h : AaE w y e w') : AaE w x e w' := by rw [he]; exact h
def AaI (w : World) (l : List Cm) (k : Nat) (rv : Value) (wr : World) : Prop :=
 Below w.heap.size w wr ∧ Blk wr w.heap.size [.slice none 0 0, .string ⟨#[]⟩, .string ⟨#[]⟩, .int .i64 0, .slice none 0 0, .slice none 0 0] ∧ ∃ lv tp sv S, Bk (w.heap.size + 1) wr (w.heap.size + 1) lv tp sv S (stA l k).ls (stA l k).o (stA l k).ss ∧ OwnRe (w.heap.size + 1) wr rv (resA l k) ∧ ∀ y, rv.ownBlock = some y → Av (w.heap.size + 1) lv sv S y
theorem grownR {w5 w6 : World} {r : Option Nat} (hg : w5.grownBy w6 r) : Touch (fun q => r = some q) w5 w6 := (Touch.refl _ w5).grown hg (fun q hq _ => hq)
theorem OwnS.down' {B B' : Nat} {w : World} {v : Value} {l : List ByteArray} (h : OwnS B w v l) (hB : B' ≤ B) : OwnS B' w v l := by
 rcases h.2 with ⟨e, h0⟩ | ⟨g, cap, cur, e, hb, hr⟩
 ·exact ⟨h.1, .inl ⟨e, h0⟩⟩
 ·exact ⟨h.1, .inr ⟨g, cap, cur, e, Nat.le_trans hB hb, hr⟩⟩
theorem Bk.nil {w : World} {B p : Nat} (h : Blk w p [.slice none 0 0, .pointer none, .slice none 0 0]) (hB : B ≤ p) : Bk B w p (.slice none 0 0) none (.slice none 0 0) (fun _ => False) [] none [] :=
 ⟨h, hB, OwnS.nil _ _, OwnSe.nil _ _, rfl, (fun x h => h.elim), (fun e => by cases e), (fun e => by cases e), fun x e => by cases e⟩
theorem implApplyAll_any (v : Value) (l : List Cm) (w : World) (h : Css w v l) (hs : l.length ≤ 1048576) (hz : ∀ i, i < l.length → (l.getD i default).ky.size ≤ maxLen ∧ (l.getD i default).vl.size ≤ maxLen) (hT : Tab w) :
  Calls Tryz.prog 21 #[v] w fun e w' => AaE w (aaO l) e w' := by
 have HL := Hd (fun hx => aaO_long (l := l) hx)
 have HM := Hd (fun hx hy => aaO_many (l := l) hx hy)
 have HB := Hd (fun hx hy => aaO_bad (l := l) hx hy)
 have HGD := Hd (fun hx hy => aaO_good (l := l) hx hy)
 have HZ := Hd hz
 have HTB := Hd hT
 clear hz hT
 generalize aaO l = out at *
 obtain ⟨a, cap, rfl, hn, hm, hc⟩ := h
 have HC := Hd hc
 clear hc hm hn
 have B0 := Hd (bal w (.cells #[.slice none 0 0, .string ⟨#[]⟩, .string ⟨#[]⟩, .int .i64 0, .slice none 0 0, .slice none 0 0] 33))
 have R0 := Hd (Blk.new w #[.slice none 0 0, .string ⟨#[]⟩, .string ⟨#[]⟩, .int .i64 0, .slice none 0 0, .slice none 0 0] 33 w.heap.size rfl)
 go_enter Tryz.func21, Tryz.ntmps21
 go_upto_region 1 with fail
 have hsz0 : (w.alloc (.cells #[.slice none 0 0, .string ⟨#[]⟩, .string ⟨#[]⟩, .int .i64 0, .slice none 0 0, .slice none 0 0] 33)).heap.size = w.heap.size + 1 := by simp
 generalize w.alloc (.cells #[.slice none 0 0, .string ⟨#[]⟩, .string ⟨#[]⟩, .int .i64 0, .slice none 0 0, .slice none 0 0] 33) = w0 at *
 have hw0 : w.heap.size < w0.heap.size := (uh R0).1
 by_cases h4 : 4096 < l.length
 ·have hi4 : (4096 : Int) < (l.length : Int) := by omega
  have E := Hd (uh HL h4)
  have RX := uh R0
  obtain ⟨⟨rx0, rx1, rx2, rx3, rx4, rx5⟩, _⟩ := Blk.c6 RX
  have rf0 := RX.fro 0
  have rf1 := RX.fro 1
  have rf2 := RX.fro 2
  have rf3 := RX.fro 3
  have rf4 := RX.fro 4
  have rf5 := RX.fro 5
  have HR9 := Hd ((((((RX.set 0 (.slice none 0 0) (by simp)).set 1 (.string ⟨#[]⟩) (by simp)).set 2 (.string ⟨#[]⟩) (by simp)).set 3 (.int .i64 0) (by simp)).set 4 (.slice none 0 0) (by simp)).set 5 (.slice none 0 0) (by simp))
  have HT9 := Hd (((((((Touch.refl (fun x => x = w.heap.size) w0).setCell ⟨w.heap.size, 0, none⟩ (.slice none 0 0) (fun _ => rfl)).setCell ⟨w.heap.size, 1, none⟩ (.string ⟨#[]⟩) (fun _ => rfl)).setCell ⟨w.heap.size, 2, none⟩ (.string ⟨#[]⟩) (fun _ => rfl)).setCell ⟨w.heap.size, 3, none⟩ (.int .i64 0) (fun _ => rfl)).setCell ⟨w.heap.size, 4, none⟩ (.slice none 0 0) (fun _ => rfl)).setCell ⟨w.heap.size, 5, none⟩ (.slice none 0 0) (fun _ => rfl))
  have K9 := Hd ((uh B0).trans ((uh HT9).below (uh B0).size (fun x hx e => by omega)))
  clear RX
  go_wp2_with fail
  have R9 := uh HR9
  obtain ⟨⟨z0, z1, z2, z3, z4, z5⟩, _⟩ := Blk.c6 R9
  refine bodyPost_ret (v := .tuple #[.agg #[.slice none 0 0, .string ⟨#[]⟩, .string ⟨#[]⟩, .int .i64 0, .slice none 0 0, .slice none 0 0], .slice none 0 0, .int .i64 2]) (by simp [results, Tryz.results21, go_sem, z0, z1, z2, z3, z4, z5]) rfl ?_
  refine aa_tell (uh E) ⟨_, _, _, _, rfl, ?_, uh K9⟩
  exact AaR.nil _ _
 by_cases h1 : 120 < l.length
 ·have hi4 : ¬ (4096 : Int) < (l.length : Int) := by omega
  have hi1 : (120 : Int) < (l.length : Int) := by omega
  have E := Hd (uh HM h4 h1)
  have RX := uh R0
  obtain ⟨⟨rx0, rx1, rx2, rx3, rx4, rx5⟩, _⟩ := Blk.c6 RX
  have rf0 := RX.fro 0
  have rf1 := RX.fro 1
  have rf2 := RX.fro 2
  have rf3 := RX.fro 3
  have rf4 := RX.fro 4
  have rf5 := RX.fro 5
  have HR9 := Hd ((((((RX.set 0 (.slice none 0 0) (by simp)).set 1 (.string ⟨#[]⟩) (by simp)).set 2 (.string ⟨#[]⟩) (by simp)).set 3 (.int .i64 0) (by simp)).set 4 (.slice none 0 0) (by simp)).set 5 (.slice none 0 0) (by simp))
  have HT9 := Hd (((((((Touch.refl (fun x => x = w.heap.size) w0).setCell ⟨w.heap.size, 0, none⟩ (.slice none 0 0) (fun _ => rfl)).setCell ⟨w.heap.size, 1, none⟩ (.string ⟨#[]⟩) (fun _ => rfl)).setCell ⟨w.heap.size, 2, none⟩ (.string ⟨#[]⟩) (fun _ => rfl)).setCell ⟨w.heap.size, 3, none⟩ (.int .i64 0) (fun _ => rfl)).setCell ⟨w.heap.size, 4, none⟩ (.slice none 0 0) (fun _ => rfl)).setCell ⟨w.heap.size, 5, none⟩ (.slice none 0 0) (fun _ => rfl))
  have K9 := Hd ((uh B0).trans ((uh HT9).below (uh B0).size (fun x hx e => by omega)))
  clear RX
  go_wp2_with fail
  have R9 := uh HR9
  obtain ⟨⟨z0, z1, z2, z3, z4, z5⟩, _⟩ := Blk.c6 R9
  refine bodyPost_ret (v := .tuple #[.agg #[.slice none 0 0, .string ⟨#[]⟩, .string ⟨#[]⟩, .int .i64 0, .slice none 0 0, .slice none 0 0], .slice none 0 0, .int .i64 6]) (by simp [results, Tryz.results21, go_sem, z0, z1, z2, z3, z4, z5]) rfl ?_
  refine aa_tell (uh E) ⟨_, _, _, _, rfl, ?_, uh K9⟩
  exact AaR.nil _ _
 have hi4 : ¬ (4096 : Int) < (l.length : Int) := by omega
 have hi1 : ¬ (120 : Int) < (l.length : Int) := by omega
 have bA := bal w0 (.cells #[.slice none 0 0, .pointer none, .slice none 0 0] 94)
 have I0 : Hid (AaI w l 0 (.slice none 0 0) (w0.alloc (.cells #[.slice none 0 0, .pointer none, .slice none 0 0] 94))) := Hd ⟨(uh B0).trans (bA.mono (uh B0).size), (uh R0).below bA, .slice none 0 0, none, .slice none 0 0, fun _ => False, Bk.nil (Blk.new w0 #[.slice none 0 0, .pointer none, .slice none 0 0] 94 (w.heap.size + 1) hsz0) (Nat.le_refl _), OwnRe.nil _ _, fun y e => by cases e⟩
 clear bA B0 R0 HL HM
 go_upto_region 6 with fail
 generalize w0.alloc (.cells #[.slice none 0 0, .pointer none, .slice none 0 0] 94) = w1 at *
 go_wp2_with fail
 go_loopw [6, 19] (fun rv i wr => ∃ k : Nat, k ≤ l.length ∧ i = .int .i64 k ∧ Hid (∀ j, j < k → cmK (l.getD j default) = true) ∧ Hid (AaI w l k rv wr)) (fun _ i _ => l.length - (intOf i).toNat)
 case atStart => exact ⟨0, Nat.zero_le _, rfl, Hd (fun j hj => absurd hj (Nat.not_lt_zero _)), I0⟩
 case round =>
  obtain ⟨k, hk, rfl, HGO, HI⟩ := hrel
  clear I0
  obtain ⟨rv, hrv⟩ : ∃ rv, rv = u6 := ⟨_, rfl⟩
  subst hrv
  obtain ⟨K0, R0, lv, tp, sv, S, BK0, OR0, AV0⟩ := uh HI
  have K := Hd K0
  have R := Hd R0
  have BK := Hd BK0
  have OR := Hd OR0
  have AV := Hd AV0
  have HOK := Hd (stA_ok (l := l) k (uh HGO))
  have hg1 : 0 < w.heap.size := (uh HTB).1.1
  have hg2 : 1 < w.heap.size := (uh HTB).2.1
  have hwr : w.heap.size + 1 < wr.heap.size := BK0.1.1
  clear HI K0 R0 BK0 OR0 AV0
  by_cases hlt : k < l.length
  ·obtain ⟨b, off, rfl, hbl, hsrc⟩ : ∃ b off, a = some ⟨b, off, none⟩ ∧ b < w.heap.size ∧ ∀ i, i < l.length → w.cell? ⟨b, off + i * 5, none⟩ = some (.int .i64 (l.getD i default).kd) ∧ w.cell? ⟨b, off + i * 5 + 1, none⟩ = some (.int .i64 (l.getD i default).ss) ∧ w.cell? ⟨b, off + i * 5 + 2, none⟩ = some (.int .i64 (l.getD i default).sq) ∧ w.cell? ⟨b, off + i * 5 + 3, none⟩ = some (.string (l.getD i default).ky) ∧ w.cell? ⟨b, off + i * 5 + 4, none⟩ = some (.string (l.getD i default).vl) := by
    rcases uh HC with h0 | h1
    ·omega
    ·exact h1
   obtain ⟨s0, s1, s2, s3, s4⟩ := hsrc k hlt
   have d0 := ((uh K).cell (p := ⟨b, off + k * 5, none⟩) hbl).trans s0
   have d1 := ((uh K).cell (p := ⟨b, off + k * 5 + 1, none⟩) hbl).trans s1
   have d2 := ((uh K).cell (p := ⟨b, off + k * 5 + 2, none⟩) hbl).trans s2
   have d3 := ((uh K).cell (p := ⟨b, off + k * 5 + 3, none⟩) hbl).trans s3
   have d4 := ((uh K).cell (p := ⟨b, off + k * 5 + 4, none⟩) hbl).trans s4
   have hk0 : (0 : Int) ≤ (k : Int) := by omega
   have hk1 : (k : Int) < (l.length : Int) := by omega
   have m2 : IntKind.i64.wrap ((k : Int) + 1) = (k : Int) + 1 := wrapCm _ (by omega) (by omega)
   have hzk := uh HZ k hlt
   have HST : Hid (stA l (k + 1) = (apOut (stA l k) (l.getD k default)).1) := Hd rfl
   have HRE : Hid (reA l k = (apOut (stA l k) (l.getD k default)).2) := Hd rfl
   have HBD := Hd (fun e => uh HB h1 ⟨k, hlt, e⟩)
   have HGN := Hd (fun (e : cmK (l.getD k default) = true) => show ∀ j, j < k + 1 → cmK (l.getD j default) = true from fun j hj => by
     by_cases q : j = k
     ·rw [q]; exact e
     ·exact uh HGO j (by omega))
   obtain ⟨f, hf⟩ : ∃ f, f = l.getD k default := ⟨_, rfl⟩
   rw [← hf] at d0 d1 d2 d3 d4 HST HRE HBD HGN hzk
   clear hf hsrc s0 s1 s2 s3 s4
   obtain ⟨f0, f1, f2, f3, f4⟩ := f
   dsimp only at d0 d1 d2 d3 d4 hzk
   have HCO := Hd (fun wx => implCommandOK_any f0 f1 f2 f3 f4 wx hzk.1 hzk.2)
   have hck : cmdOK f0 f1 f2 f3 f4 = cmK ⟨f0, f1, f2, f3, f4⟩ := rfl
   rw [hck] at HCO
   clear hck hzk
   have bA := bal wr (.cells #[.int .i64 f0, .int .i64 f1, .int .i64 f2, .string f3, .string f4] 77)
   have X2 := Hd (Blk.new wr #[.int .i64 f0, .int .i64 f1, .int .i64 f2, .string f3, .string f4] 77 wr.heap.size rfl)
   have K2 := hbt K bA
   have R2 := Hd ((uh R).below bA)
   have BK2 := Hd ((uh BK).below bA)
   have OR2 := Hd ((uh OR).below bA)
   have NZ := Blk.new wr #[.int .i64 0, .int .i64 0, .int .i64 0, .string ⟨#[]⟩, .string ⟨#[]⟩] 77 wr.heap.size rfl
   have zc0 := NZ.cell 0 rfl
   have zf0 := NZ.fro 0
   have zc1 := NZ.cell 1 rfl
   have zf1 := NZ.fro 1
   have zc2 := NZ.cell 2 rfl
   have zf2 := NZ.fro 2
   have zc3 := NZ.cell 3 rfl
   have zf3 := NZ.fro 3
   have zc4 := NZ.cell 4 rfl
   have zf4 := NZ.fro 4
   clear NZ bA K R BK OR
   go_upto_region 10 with fail
   clear zc0 zf0 zc1 zf1 zc2 zf2 zc3 zf3 zc4 zf4 d0 d1 d2 d3 d4
   generalize wr.alloc (.cells #[.int .i64 f0, .int .i64 f1, .int .i64 f2, .string f3, .string f4] 77) = w2 at *
   generalize wr.heap.size = cb at *
   obtain ⟨x0, x1, x2, x3, x4⟩ := Blk.c5 (uh X2)
   have HC2 := Hd (uh HCO w2)
   clear HCO
   cases hq : cmK ⟨f0, f1, f2, f3, f4⟩
   ·rw [hq] at HC2
    have E := Hd (uh HBD hq)
    clear hq HGN HST HRE
    go_wp2_with fail
    refine (uh HC2).mono ?_
    rintro e w3 ⟨rfl, hb3⟩
    have K3 := hbt K2 hb3
    have R3 := Hd ((uh R2).below hb3)
    have hw3 : w.heap.size < w3.heap.size := (uh R3).1
    clear hb3 HC2 x0 x1 x2 x3 x4 K2 R2 X2 OR2 BK2
    have RX := uh R3
    obtain ⟨⟨rx0, rx1, rx2, rx3, rx4, rx5⟩, _⟩ := Blk.c6 RX
    have rf0 := RX.fro 0
    have rf1 := RX.fro 1
    have rf2 := RX.fro 2
    have rf3 := RX.fro 3
    have rf4 := RX.fro 4
    have rf5 := RX.fro 5
    have HR9 := Hd ((((((RX.set 0 (.slice none 0 0) (by simp)).set 1 (.string ⟨#[]⟩) (by simp)).set 2 (.string ⟨#[]⟩) (by simp)).set 3 (.int .i64 0) (by simp)).set 4 (.slice none 0 0) (by simp)).set 5 (.slice none 0 0) (by simp))
    have HT9 := Hd (((((((Touch.refl (fun x => x = w.heap.size) w3).setCell ⟨w.heap.size, 0, none⟩ (.slice none 0 0) (fun _ => rfl)).setCell ⟨w.heap.size, 1, none⟩ (.string ⟨#[]⟩) (fun _ => rfl)).setCell ⟨w.heap.size, 2, none⟩ (.string ⟨#[]⟩) (fun _ => rfl)).setCell ⟨w.heap.size, 3, none⟩ (.int .i64 0) (fun _ => rfl)).setCell ⟨w.heap.size, 4, none⟩ (.slice none 0 0) (fun _ => rfl)).setCell ⟨w.heap.size, 5, none⟩ (.slice none 0 0) (fun _ => rfl))
    have K9 := Hd ((uh K3).trans ((uh HT9).below (uh K3).size (fun x hx e => by omega)))
    clear RX
    go_wp2_with fail
    have R9 := uh HR9
    obtain ⟨⟨z0, z1, z2, z3, z4, z5⟩, _⟩ := Blk.c6 R9
    refine bodyPost_ret (v := .tuple #[.agg #[.slice none 0 0, .string ⟨#[]⟩, .string ⟨#[]⟩, .int .i64 0, .slice none 0 0, .slice none 0 0], .slice none 0 0, .int .i64 1]) (by simp [results, Tryz.results21, go_sem, z0, z1, z2, z3, z4, z5]) rfl ?_
    refine aa_tell (uh E) ⟨_, _, _, _, rfl, ?_, uh K9⟩
    exact AaR.nil _ _
   ·rw [hq] at HC2
    replace HGN := Hd (uh HGN hq)
    have HCK := Hd hq
    clear hq HBD
    go_wp2_with fail
    refine (uh HC2).mono ?_
    rintro e w3 ⟨rfl, hb3⟩
    have K3 := hbt K2 hb3
    have R3 := Hd ((uh R2).below hb3)
    have BK3 := Hd ((uh BK2).below hb3)
    have OR3 := Hd ((uh OR2).below hb3)
    have X3 := Hd ((uh X2).below hb3)
    clear hb3 HC2 x0 x1 x2 x3 x4 K2 R2 X2 OR2 BK2
    generalize stA l k = x at *
    obtain ⟨ls, o, ss⟩ := x
    have hw3 : w.heap.size + 1 < w3.heap.size := (uh BK3).1.1
    have HAP := Hd (apply_any (w.heap.size + 1) (w.heap.size + 1) lv sv tp S ls o ss ⟨f0, f1, f2, f3, f4⟩ w3 (uh BK3) (uh HOK) (uh HCK) (by omega) ((uh HTB).below (uh K3)) (by omega) (by omega))
    dsimp only at HAP
    generalize apOut ⟨ls, o, ss⟩ ⟨f0, f1, f2, f3, f4⟩ = y at *
    obtain ⟨⟨lsN, oN, ssN⟩, rN⟩ := y
    dsimp only at HST HRE
    obtain ⟨x0, x1, x2, x3, x4⟩ := Blk.c5 (uh X3)
    go_wp2_with fail
    refine (uh HAP).mono ?_
    rintro e w4 ⟨rfl, lv2, tp2, sv2, S2, bk4, av4, t4⟩
    dsimp only at bk4
    have hAR : Av (w.heap.size + 1) lv sv S w.heap.size := Classical.byContradiction (fun h => by have := (uh BK3).ge _ h; omega)
    have R4 := Hd ((uh R3).kept t4 (fun h => h hAR))
    have K4 := Hd ((uh K3).trans (t4.below (uh K3).size (fun x hx e => by have := (uh BK3).ge _ e; omega)))
    have OR4 := (uh OR3).kept t4 (fun q hq e => e (uh AV q hq))
    have AV4 := Hd (fun y (hy : rv.ownBlock = some y) => av4 y (((uh OR3).lt y hy).2) (uh AV y hy))
    have BK4 := Hd bk4
    have hw4 : w.heap.size + 1 < w4.heap.size := bk4.1.1
    obtain ⟨i0, hi, hz0, hz1, hz2⟩ := info_parts infoRe
    have bB := bal w4 (.cells #[.int .i64 rN.kd, .int .i64 rN.pl, .string rN.vl] 82)
    have O5 := Hd (OR4.below bB)
    unfold OwnRe at O5
    rw [resA_len] at O5
    have V5 := Hd (Blk.new w4 #[.int .i64 rN.kd, .int .i64 rN.pl, .string rN.vl] 82 w4.heap.size rfl)
    have R5 := Hd ((uh R4).below bB)
    have K5 := hbt K4 bB
    have BK5 := Hd ((uh BK4).below bB)
    have hw5 : w.heap.size + 1 ≤ (w4.alloc (.cells #[.int .i64 rN.kd, .int .i64 rN.pl, .string rN.vl] 82)).heap.size := by simp; omega
    have hnew : Hid (∀ y, (w4.alloc (.cells #[.int .i64 rN.kd, .int .i64 rN.pl, .string rN.vl] 82)).heap.size ≤ y → Av (w.heap.size + 1) lv2 sv2 S2 y) := Hd (fun y hy => (uh BK5).av y hy)
    clear bk4 av4 t4 OR4 bB HAP x0 x1 x2 x3 x4 X3 K3 R3 BK3 OR3 AV BK4 R4 K4
    go_wp2_with (at_builtin; refine wpList_append_row _ rfl _ _ _ rfl (w.heap.size + 1) 82 i0 _ 3 32 Tryz.underlying52 hi hz0 hz1 hz2 rfl (by omega) _ k (resC (resA l k)) rfl (uh O5) _ 1 [.int .i64 rN.kd, .int .i64 rN.pl, .string rN.vl] rfl ⟨_, _, rfl, .inr ⟨_, rfl, blk_rw (uh V5)⟩⟩ rfl (by simp [Value.oneCell']) (by unfold maxLen; omega) (by omega) hw5 ?_; intro a6 c6 w6 hown6 hgrow6 hat6; have HA6 := Hd (And.intro hown6 (And.intro hgrow6 hat6)); clear hown6 hgrow6 hat6)
    obtain ⟨hown6, hgrow6, hat6⟩ := uh HA6
    have T6 := grownR hgrow6
    refine ⟨⟨k + 1, by omega, by go_num, HGN, Hd ⟨?_, ?_, lv2, tp2, sv2, S2, ?_, ?_, ?_⟩⟩, ?_⟩
    ·exact (uh K5).trans (T6.below (uh K5).size (fun x hx e => by have := (World.ownsRow.lt (uh O5) x e).1; omega))
    ·exact (uh R5).kept T6 (fun e => by have := (World.ownsRow.lt (uh O5) _ e).1; omega)
    ·rw [uh HST]
     exact (uh BK5).keep T6 (fun q hq => uh AV4 q hq)
    ·rw [resA_succ, uh HRE]
     unfold OwnRe
     rw [List.length_append, resA_len, resC_app]
     exact hown6
    ·intro y hy
     rcases hat6 with e | e
     ·exact uh AV4 y (e.symm.trans hy)
     ·have e2 := hy.symm.trans e
      exact uh hnew y (by have := Option.some.inj e2; omega)
    ·simp [intOf]; omega
  ·obtain rfl : k = l.length := by omega
   have E := Hd (uh HGD h1 (uh HGO))
   have HLE := Hd (ledger_any (w.heap.size + 1) (w.heap.size + 1) lv sv tp S _ _ _ wr (uh BK) (uh HOK).ok (by omega))
   generalize stA l l.length = x at *
   obtain ⟨ls, o, ss⟩ := x
   dsimp only at HLE
   go_wp2_with fail
   refine (uh HLE).mono ?_
   rintro e w3 ⟨kv, rfl, ho1, ho2, hap, hbo, hb3⟩
   obtain ⟨la, lc, rfl, _⟩ := ho1.strs
   obtain ⟨sa, sc, rfl, _⟩ := ho2.read
   obtain ⟨ka, kc, rfl, _⟩ := hbo.shape
   generalize (brOf o).kids.length = kn at *
   have K3 := hbt K hb3
   have R3 := Hd ((uh R).below hb3)
   have OR3 := Hd ((uh OR).below hb3)
   have ORL := Hd ((uh OR).lt)
   have HO1 := Hd ho1
   have HO2 := Hd ho2
   have HBO := Hd hbo
   have HAP := Hd hap
   have HA : Hid (∀ y, rv.ownBlock = some y → (Value.slice la ls.length lc).ownBlock ≠ some y ∧ (Value.slice sa ss.length sc).ownBlock ≠ some y) := Hd (fun y hy => ⟨(uh AV y hy).2.1, (uh AV y hy).2.2.1⟩)
   have HLL : Hid (∀ y, (Value.slice la ls.length lc).ownBlock = some y → y < wr.heap.size) := Hd (fun y hy => ((uh BK).2.2.1.lt y hy).2)
   have HSL : Hid (∀ y, (Value.slice sa ss.length sc).ownBlock = some y → y < wr.heap.size) := Hd (fun y hy => ((uh BK).2.2.2.1.lt y hy).2)
   have hw3 : w.heap.size < w3.heap.size := (uh R3).1
   clear ho1 ho2 hap hbo hb3 HLE BK AV K R OR
   have RX := uh R3
   obtain ⟨⟨rx0, rx1, rx2, rx3, rx4, rx5⟩, _⟩ := Blk.c6 RX
   have rf0 := RX.fro 0
   have rf1 := RX.fro 1
   have rf2 := RX.fro 2
   have rf3 := RX.fro 3
   have rf4 := RX.fro 4
   have rf5 := RX.fro 5
   have HR9 := Hd ((((((RX.set 0 (.slice la ls.length lc) (by simp)).set 1 (.string (brOf o).key) (by simp)).set 2 (.string (brOf o).val) (by simp)).set 3 (.int .i64 (brOf o).at_) (by simp)).set 4 (.slice ka kn kc) (by simp)).set 5 (.slice sa ss.length sc) (by simp))
   have HT9 := Hd (((((((Touch.refl (fun x => x = w.heap.size) w3).setCell ⟨w.heap.size, 0, none⟩ (.slice la ls.length lc) (fun _ => rfl)).setCell ⟨w.heap.size, 1, none⟩ (.string (brOf o).key) (fun _ => rfl)).setCell ⟨w.heap.size, 2, none⟩ (.string (brOf o).val) (fun _ => rfl)).setCell ⟨w.heap.size, 3, none⟩ (.int .i64 (brOf o).at_) (fun _ => rfl)).setCell ⟨w.heap.size, 4, none⟩ (.slice ka kn kc) (fun _ => rfl)).setCell ⟨w.heap.size, 5, none⟩ (.slice sa ss.length sc) (fun _ => rfl))
   have K9 := Hd ((uh K3).trans ((uh HT9).below (uh K3).size (fun x hx e => by omega)))
   clear RX
   go_wp2_with fail
   have R9 := uh HR9
   obtain ⟨⟨z0, z1, z2, z3, z4, z5⟩, _⟩ := Blk.c6 R9
   refine bodyPost_ret (v := .tuple #[.agg #[.slice la ls.length lc, .string (brOf o).key, .string (brOf o).val, .int .i64 (brOf o).at_, .slice ka kn kc, .slice sa ss.length sc], rv, .int .i64 0]) (by simp [results, Tryz.results21, go_sem, z0, z1, z2, z3, z4, z5]) rfl ?_
   have hT9 := uh HT9
   have hs9 := hT9.size
   refine aa_tell (uh E) ⟨_, _, _, _, rfl, ⟨?_, ?_, uh HAP, ?_, uh HA, _, (uh HBO).touch hT9 (fun x hx e => by have := hx.1; omega), fun y hy => ⟨by have := hy.1; omega, by have := hy.2; omega, fun e => by have := uh HLL y e; have := hy.1; omega, fun e => by have := uh HSL y e; have := hy.1; omega, fun e => by have := (uh ORL y e).2; have := hy.1; omega⟩⟩, uh K9⟩
   ·exact OwnS.down' ((uh HO1).kept hT9 (fun x hx e => by have := ((uh HO1).lt x hx).1; omega)) (by omega)
   ·exact ((uh HO2).kept hT9 (fun x hx e => by have := ((uh HO2).lt x hx).1; omega)).down (by omega)
   ·exact ((uh OR3).kept hT9 (fun x hx e => by have := ((uh OR3).lt x hx).1; omega)).down (by omega)

end Go.Proofs.YtbchnheinnileaaGreatDoor.Sha
namespace Go.Proofs.YtbchnheinnileaaGreatDoor
set_option maxRecDepth 100000
set_option maxHeartbeats 8000000
open Go.ChangeShapes Go.WideShapes Go.ChangeAt Go.RowKit
set_option linter.unusedVariables false
def RdV (w : World) (b : Nat) (v : Value) (rs : List Int) : Prop :=
 ∃ a cap, v = .slice a rs.length cap ∧ rs.length ≤ cap ∧ cap ≤ maxLen ∧ (cap = 0 ∨ ∃ c off, a = some ⟨c, off, none⟩ ∧ c < b ∧ ∀ i, i < rs.length → w.cell? ⟨c, off + i, none⟩ = some (.int .u8 (rs.getD i 0))) ∧ ∀ i, 0 ≤ rs.getD i 0 ∧ rs.getD i 0 ≤ 255
theorem RdV.kept {T : Nat → Prop} {w w' : World} {b : Nat} {v : Value} {rs : List Int} (h : RdV w b v rs) (hb : b ≤ w.heap.size) (ht : Touch T w w') (hn : ∀ k, k < b → ¬ T k) : RdV w' b v rs := by
 obtain ⟨a, cap, hv, h1, h2, hc, hr⟩ := h
 refine ⟨a, cap, hv, h1, h2, ?_, hr⟩
 rcases hc with h0 | ⟨c, off, ha, hlt, hcell⟩
 ·exact .inl h0
 ·exact .inr ⟨c, off, ha, hlt, fun i hi => (ht.cell (p := ⟨c, off + i, none⟩) (Nat.lt_of_lt_of_le hlt hb) (hn c hlt)).trans (hcell i hi)⟩
theorem RdV.nil (w : World) (b : Nat) : RdV w b (.slice none 0 0) [] := ⟨none, 0, rfl, Nat.le_refl _, by unfold maxLen; omega, .inl rfl, fun i => by simp⟩
theorem RdV.zero (w : World) (b : Nat) (a : Option Addr) : RdV w b (.slice a 0 0) [] := ⟨a, 0, rfl, Nat.le_refl _, by unfold maxLen; omega, .inl rfl, fun i => by simp⟩

def Rd (w : World) (b : Nat) : Option (List Int) → Prop
 | none => w.cell? ⟨b, 0, none⟩ = some (.slice none 0 0) ∧ w.cell? ⟨b, 1, none⟩ = some (.bool true) ∧ (∀ j, w.frozen? ⟨b, j, none⟩ = false) ∧ b < w.heap.size
 | some rs => (∃ v, w.cell? ⟨b, 0, none⟩ = some v ∧ RdV w b v rs) ∧ w.cell? ⟨b, 1, none⟩ = some (.bool false) ∧ (∀ j, w.frozen? ⟨b, j, none⟩ = false) ∧ b < w.heap.size
theorem Rd.lt {w : World} {b : Nat} {st : Option (List Int)} (h : Rd w b st) : b < w.heap.size := by
 cases st with
 | none => exact h.2.2.2
 | some rs => exact h.2.2.2
theorem Rd.kept {T : Nat → Prop} {w w' : World} {b : Nat} {st : Option (List Int)} (h : Rd w b st) (ht : Touch T w w') (hn : ∀ k, k ≤ b → ¬ T k) : Rd w' b st := by
 have hlt := h.lt
 have hnb : ¬ T b := hn b (Nat.le_refl _)
 cases st with
 | none =>
  obtain ⟨h0, h1, hf, _⟩ := h
  exact ⟨(ht.cell hlt hnb).trans h0, (ht.cell hlt hnb).trans h1, fun j => (ht.frozen hlt hnb).trans (hf j), Nat.lt_of_lt_of_le hlt ht.size⟩
 | some rs =>
  obtain ⟨⟨v, h0, hv⟩, h1, hf, _⟩ := h
  exact ⟨⟨v, (ht.cell hlt hnb).trans h0, hv.kept (Nat.le_of_lt hlt) ht (fun k hk => hn k (Nat.le_of_lt hk))⟩, (ht.cell hlt hnb).trans h1, fun j => (ht.frozen hlt hnb).trans (hf j), Nat.lt_of_lt_of_le hlt ht.size⟩
def takeP (n : Nat) : Option (List Int) → List Int × Option (List Int)
 | none => ([], none)
 | some rs => if n ≤ rs.length then (rs.take n, some (rs.drop n)) else ([], none)
theorem set_touch (w : World) (b j : Nat) (v : Value) : Touch (fun k => k = b) w (w.setCell ⟨b, j, none⟩ v) := (Touch.refl _ _).setCell _ _ (fun _ => rfl)
theorem getD_take {l : List Int} {n i : Nat} (h : i < n) : (l.take n).getD i 0 = l.getD i 0 := by simp [List.getD_eq_getElem?_getD, h]
theorem getD_drop {l : List Int} {n i : Nat} : (l.drop n).getD i 0 = l.getD (n + i) 0 := by simp [List.getD_eq_getElem?_getD]
theorem range_take {l : List Int} (n : Nat) (h : ∀ i, 0 ≤ l.getD i 0 ∧ l.getD i 0 ≤ 255) : ∀ i, 0 ≤ (l.take n).getD i 0 ∧ (l.take n).getD i 0 ≤ 255 := fun i => by
 by_cases hi : i < n
 ·rw [getD_take hi]; exact h i
 ·rw [List.getD_eq_getElem?_getD, List.getElem?_eq_none (by rw [List.length_take]; omega)]; simp
theorem range_drop {l : List Int} (n : Nat) (h : ∀ i, 0 ≤ l.getD i 0 ∧ l.getD i 0 ≤ 255) : ∀ i, 0 ≤ (l.drop n).getD i 0 ∧ (l.drop n).getD i 0 ≤ 255 := fun i => by
 rw [getD_drop]; exact h _

theorem take_fits {w : World} {b n c off cap : Nat} {rs : List Int} {v v2 : Value} (c0 : w.cell? ⟨b, 0, none⟩ = some v) (c1 : w.cell? ⟨b, 1, none⟩ = some (.bool false)) (hf : ∀ j, w.frozen? ⟨b, j, none⟩ = false) (hb : b < w.heap.size)
  (h1 : rs.length ≤ cap) (h2 : cap ≤ maxLen) (hlt : c < b) (hcell : ∀ i, i < rs.length → w.cell? ⟨c, off + i, none⟩ = some (.int .u8 (rs.getD i 0))) (hr : ∀ i, 0 ≤ rs.getD i 0 ∧ rs.getD i 0 ≤ 255) (hle : n ≤ rs.length)
  (hv : v2 = .slice (some ⟨c, off + n, none⟩) (rs.length - n) (cap - n) ∨ (v2 = .slice (some ⟨c, off, none⟩) (rs.length - n) 0 ∧ cap = n)) :
  RdV (w.setCell ⟨b, 0, none⟩ v2) b (.slice (some ⟨c, off, none⟩) n cap) (rs.take n) ∧ Rd (w.setCell ⟨b, 0, none⟩ v2) b (some (rs.drop n)) := by
 have hl1 : (rs.take n).length = n := by rw [List.length_take]; omega
 have hl2 : (rs.drop n).length = rs.length - n := List.length_drop ..
 have ht := set_touch w b 0 v2
 have hother : ∀ i, i < rs.length → (w.setCell ⟨b, 0, none⟩ v2).cell? ⟨c, off + i, none⟩ = some (.int .u8 (rs.getD i 0)) := fun i hi =>
  (ht.cell (p := ⟨c, off + i, none⟩) (by show c < _; omega) (by show ¬ c = b; omega)).trans (hcell i hi)
 refine ⟨⟨some ⟨c, off, none⟩, cap, by rw [hl1], by omega, h2, .inr ⟨c, off, rfl, hlt, fun i hi => ?_⟩, range_take n hr⟩, ⟨v2, World.cell?_setCell_same _ _ _ c0, ?_⟩, ?_, fun j => by rw [World.frozen?_setCell]; exact hf j, by simpa using hb⟩
 ·rw [hl1] at hi
  rw [hother i (by omega), getD_take hi]
 ·rcases hv with rfl | ⟨rfl, rfl⟩
  ·refine ⟨_, _, by rw [hl2], by omega, by omega, .inr ⟨c, off + n, rfl, hlt, fun i hi => ?_⟩, range_drop n hr⟩
   rw [Nat.add_assoc, hother (n + i) (by omega), getD_drop]
  ·refine ⟨_, _, by rw [hl2], by omega, by omega, .inr ⟨c, off, rfl, hlt, fun i hi => by omega⟩, range_drop cap hr⟩
 ·rw [World.cell?_setCell_other _ _ _ _ (by simp)]; exact c1
theorem take_short {w : World} {b : Nat} {v : Value} {sh : Bool} (c0 : w.cell? ⟨b, 0, none⟩ = some v) (c1 : w.cell? ⟨b, 1, none⟩ = some (.bool sh)) (hf : ∀ j, w.frozen? ⟨b, j, none⟩ = false) (hb : b < w.heap.size) :
  Rd ((w.setCell ⟨b, 0, none⟩ (.slice none 0 0)).setCell ⟨b, 1, none⟩ (.bool true)) b none ∧ Touch (fun k => k = b) w ((w.setCell ⟨b, 0, none⟩ (.slice none 0 0)).setCell ⟨b, 1, none⟩ (.bool true)) := by
 have d1 : (w.setCell ⟨b, 0, none⟩ (.slice none 0 0)).cell? ⟨b, 1, none⟩ = some (.bool sh) := by rw [World.cell?_setCell_other _ _ _ _ (by simp)]; exact c1
 refine ⟨⟨?_, World.cell?_setCell_same _ _ _ d1, fun j => by simpa using hf j, by simpa using hb⟩, (set_touch w b 0 _).setCell _ _ (fun _ => rfl)⟩
 rw [World.cell?_setCell_other _ _ _ _ (by simp)]; exact World.cell?_setCell_same _ _ _ c0

theorem take_any (n : Nat) (b : Nat) (st : Option (List Int)) (w : World) (h : Rd w b st) (hn : n ≤ 65535) :
  Calls Tryz.prog 112 #[.pointer (some ⟨b, 0, none⟩), .int .i64 n] w fun e w' => ∃ v1, e = .returned v1 ∧ RdV w' b v1 (takeP n st).1 ∧ Rd w' b (takeP n st).2 ∧ Touch (fun k => k = b) w w' ∧ w'.heap.size = w.heap.size := by
 cases st with
 | none =>
  obtain ⟨c0, c1, hf, hb⟩ := h
  have f0 := hf 0
  have f1 := hf 1
  have HF := Hd hf
  clear hf
  by_cases h0 : n = 0
  ·subst h0
   go_enter Tryz.func112, Tryz.ntmps112
   go_wp2_with fail
   go_ret
   refine ⟨.slice none 0 0, rfl, RdV.nil _ _, ⟨World.cell?_setCell_same _ _ _ c0, ?_, fun j => by simpa using uh HF j, by simpa using hb⟩, set_touch _ _ _ _, by simp⟩
   rw [World.cell?_setCell_other _ _ _ _ (by simp)]; exact c1
  ·have hn0 : (0 : Int) < (n : Int) := by omega
   have d1 : (w.setCell ⟨b, 0, none⟩ (.slice none 0 0)).cell? ⟨b, 1, none⟩ = some (.bool true) := by rw [World.cell?_setCell_other _ _ _ _ (by simp)]; exact c1
   have R := Hd (take_short c0 c1 (uh HF) hb)
   go_enter Tryz.func112, Tryz.ntmps112
   go_wp2_with fail
   go_ret
   exact ⟨.slice none 0 0, rfl, RdV.nil _ _, (uh R).1, (uh R).2, by simp⟩
 | some rs =>
  obtain ⟨⟨v, c0, a, cap, rfl, hc1, hc2, hsrc, hr⟩, c1, hf, hb⟩ := h
  have f0 := hf 0
  have f1 := hf 1
  have HF := Hd hf
  have HM := Hd hc2
  clear hf
  unfold maxLen at hc2
  by_cases hle : n ≤ rs.length
  ·have HP := Hd (show takeP n (some rs) = (rs.take n, some (rs.drop n)) by simp [takeP, hle])
   rcases hsrc with rfl | ⟨c, off, rfl, hlt, hcell⟩
   ·have hl0 : rs.length = 0 := by omega
    obtain rfl : rs = [] := List.eq_nil_of_length_eq_zero hl0
    obtain rfl : n = 0 := by omega
    clear hr hl0
    cases a with
    | none =>
     go_enter Tryz.func112, Tryz.ntmps112
     go_wp2_with fail
     go_ret
     rw [uh HP]
     refine ⟨.slice none 0 0, rfl, RdV.nil _ _, ⟨⟨_, World.cell?_setCell_same _ _ _ c0, RdV.nil _ _⟩, ?_, fun j => by simpa using uh HF j, by simpa using hb⟩, set_touch _ _ _ _, by simp⟩
     rw [World.cell?_setCell_other _ _ _ _ (by simp)]; exact c1
    | some x =>
     go_enter Tryz.func112, Tryz.ntmps112
     go_wp2_with fail
     go_ret
     rw [uh HP]
     refine ⟨.slice (some x) 0 0, rfl, RdV.zero _ _ _, ⟨⟨_, World.cell?_setCell_same _ _ _ c0, RdV.zero _ _ _⟩, ?_, fun j => by simpa using uh HF j, by simpa using hb⟩, set_touch _ _ _ _, by simp⟩
     rw [World.cell?_setCell_other _ _ _ _ (by simp)]; exact c1
   ·have R := fun v2 hv => take_fits (v2 := v2) c0 c1 (uh HF) hb hc1 (uh HM) hlt hcell hr hle hv
    have HR := Hd R
    clear hcell hr R
    have hle2 : (n : Int) ≤ (rs.length : Int) := by omega
    have hle3 : (n : Int) ≤ (cap : Int) := by omega
    go_enter Tryz.func112, Tryz.ntmps112
    go_wp2_with fail
    all_goals
     go_ret
     rw [uh HP]
    ·have hcn : cap = n := by assumption
     have r := uh HR _ (.inr ⟨rfl, hcn⟩)
     rw [hcn] at r
     exact ⟨_, rfl, r.1, r.2, set_touch _ _ _ _, by simp⟩
    ·have r := uh HR _ (.inl rfl)
     exact ⟨_, rfl, r.1, r.2, set_touch _ _ _ _, by simp⟩
  ·have HP := Hd (show takeP n (some rs) = ([], none) by simp [takeP]; omega)
   have hn0 : (rs.length : Int) < (n : Int) := by omega
   have d1 : (w.setCell ⟨b, 0, none⟩ (.slice none 0 0)).cell? ⟨b, 1, none⟩ = some (.bool false) := by rw [World.cell?_setCell_other _ _ _ _ (by simp)]; exact c1
   have R := Hd (take_short c0 c1 (uh HF) hb)
   clear hsrc hr
   go_enter Tryz.func112, Tryz.ntmps112
   go_wp2_with fail
   go_ret
   rw [uh HP]
   exact ⟨.slice none 0 0, rfl, RdV.nil _ _, (uh R).1, (uh R).2, by simp⟩

def decN (l : List Int) : Nat → Int
 | 0 => 0
 | k + 1 => decN l k * 256 + l.getD k 0
def dec (l : List Int) : Int := decN l l.length
theorem decN_lo (l : List Int) (h : ∀ i, 0 ≤ l.getD i 0 ∧ l.getD i 0 ≤ 255) (k : Nat) : 0 ≤ decN l k ∧ decN l k < 256 ^ k := by
 induction k with
 | zero => simp [decN]
 | succ k ih => have := h k; simp only [decN, Int.pow_succ]; omega
theorem or_byte (n c : Int) (hn : 0 ≤ n) (hn2 : n < 16777216) (h0 : 0 ≤ c) (h1 : c ≤ 255) : bits BinOp.or IntKind.i64 (n * 256) c = n * 256 + c := by
 obtain ⟨a, rfl⟩ := Int.eq_ofNat_of_zero_le hn
 obtain ⟨d, rfl⟩ := Int.eq_ofNat_of_zero_le h0
 have e : ∀ m : Nat, m < 4294967296 → (BitVec.ofInt 64 (m : Int)).toNat = m := fun m hm => by
  rw [BitVec.ofInt_natCast, BitVec.toNat_ofNat]; omega
 show IntKind.i64.wrap ((BitVec.ofInt 64 ((a : Int) * 256) ||| BitVec.ofInt 64 (d : Int)).toNat : Int) = _
 rw [show ((a : Int) * 256) = ((a * 256 : Nat) : Int) by omega, BitVec.toNat_or, e (a * 256) (by omega), e d (by omega)]
 have h : a * 256 ||| d = a * 256 + d := by
  have := Nat.shiftLeft_add_eq_or_of_lt (a := a) (b := d) (i := 8) (by omega)
  rw [Nat.shiftLeft_eq] at this
  exact this.symm
 rw [h]
 simp only [IntKind.wrap, IntKind.bits, IntKind.signed]
 simp; omega
def numP (n : Nat) (st : Option (List Int)) : Int × Option (List Int) := (dec (takeP n st).1, (takeP n st).2)
theorem takeP_len (n : Nat) (st : Option (List Int)) : (takeP n st).1.length ≤ n := by
 cases st with
 | none => simp [takeP]
 | some rs => simp only [takeP]; split <;> simp; omega

theorem implNumber_any (n : Nat) (ni : Int) (hni : ni = (n : Int)) (b : Nat) (st : Option (List Int)) (w : World) (h : Rd w b st) (hn : n ≤ 4) :
  Calls Tryz.prog 91 #[.pointer (some ⟨b, 0, none⟩), .int .i64 ni] w fun e w' => e = .returned (.int .i64 (numP n st).1) ∧ Rd w' b (numP n st).2 ∧ Touch (fun k => k = b) w w' ∧ w'.heap.size = w.heap.size := by
 subst hni
 have H := Hd h
 clear h
 go_enter Tryz.func91, Tryz.ntmps91
 go_wp2_with fail
 refine (take_any n b st w (uh H) (by omega)).mono ?_
 rintro e w1 ⟨v1, rfl, hv, hR, hT, hz⟩
 have R := Hd (And.intro hR (And.intro hT hz))
 have hln := takeP_len n st
 have HP := Hd (show (numP n st).1 = dec (takeP n st).1 from rfl)
 clear hR hT hz H
 generalize (takeP n st).1 = tk at *
 obtain ⟨a, cap, rfl, hc1, hc2, hsrc, hr⟩ := hv
 have HC := Hd hsrc
 have HR := Hd hr
 clear hsrc hr
 go_wp2_with fail
 go_loop [5, 7, 12] (fun x _ i => ∃ k : Nat, k ≤ tk.length ∧ i = .int .i64 k ∧ x = .int .i64 (decN tk k)) (fun _ _ i => tk.length - (intOf i).toNat)
 case atStart => exact ⟨0, Nat.zero_le _, rfl, rfl⟩
 case round =>
  obtain ⟨k, hk, rfl, rfl⟩ := hrel
  by_cases hlt : k < tk.length
  ·obtain ⟨c, off, rfl, hcb, hcell⟩ : ∃ c off, a = some ⟨c, off, none⟩ ∧ c < b ∧ ∀ i, i < tk.length → w1.cell? ⟨c, off + i, none⟩ = some (.int .u8 (tk.getD i 0)) := by
    rcases uh HC with h0 | h0
    ·omega
    ·exact h0
   have hs1 := hcell k hlt
   have hx := uh HR k
   have hd := decN_lo tk (uh HR) k
   have hp : (256 : Int) ^ k ≤ 16777216 := by rcases (show k = 0 ∨ k = 1 ∨ k = 2 ∨ k = 3 by omega) with rfl | rfl | rfl | rfl <;> decide
   have hd2 : decN tk k < 16777216 := by omega
   have hd1 := hd.1
   have HS : Hid (decN tk (k + 1) = decN tk k * 256 + tk.getD k 0) := rfl
   clear hcell hd hp
   generalize tk.getD k 0 = x at *
   generalize decN tk k = y at *
   have m1 : IntKind.i64.wrap (y * 256) = y * 256 := by simp only [IntKind.wrap, IntKind.bits, IntKind.signed]; simp; omega
   have m2 := or_byte y x hd1 hd2 hx.1 hx.2
   have hk0 : (0 : Int) ≤ (k : Int) := by omega
   have hk1 : (k : Int) < (tk.length : Int) := by omega
   go_wp2_with fail
   go_round
   case rel => exact ⟨k + 1, by omega, by go_num, by rw [uh HS]⟩
   case measure => simp [intOf]; omega
  ·obtain rfl : k = tk.length := by omega
   go_wp2_with fail
   go_ret
   exact ⟨ret_int (uh HP).symm, (uh R).1, (uh R).2.1, (uh R).2.2⟩
end Go.Proofs.YtbchnheinnileaaGreatDoor
namespace Go.Proofs.YtbchnheinnileaaGreatDoor
set_option maxRecDepth 100000
set_option maxHeartbeats 8000000
open Go.ChangeShapes Go.WideShapes Go.ChangeAt Go.RowKit
set_option linter.unusedVariables false
set_option linter.unusedSimpArgs false
def rangeP : Option (List Int) → Prop
 | none => True
 | some rs => ∀ i, 0 ≤ rs.getD i 0 ∧ rs.getD i 0 ≤ 255
theorem Rd.range {w : World} {b : Nat} {st : Option (List Int)} (h : Rd w b st) : rangeP st := by
 cases st with
 | none => trivial
 | some rs => obtain ⟨⟨v, _, _, _, _, _, _, _, hr⟩, _⟩ := h; exact hr
theorem takeP_range {st : Option (List Int)} (h : rangeP st) (n : Nat) : (∀ i, 0 ≤ (takeP n st).1.getD i 0 ∧ (takeP n st).1.getD i 0 ≤ 255) ∧ rangeP (takeP n st).2 := by
 cases st with
 | none => exact ⟨fun i => by simp [takeP], trivial⟩
 | some rs =>
  by_cases hle : n ≤ rs.length
  ·simp only [takeP, hle, if_true]; exact ⟨range_take n h, range_drop n h⟩
  ·simp only [takeP, hle, if_false]; exact ⟨fun i => by simp, trivial⟩
theorem num1_range {st : Option (List Int)} (h : rangeP st) : 0 ≤ (numP 1 st).1 ∧ (numP 1 st).1 ≤ 255 := by
 have hl := takeP_len 1 st
 have hr := (takeP_range h 1).1
 show 0 ≤ dec (takeP 1 st).1 ∧ dec (takeP 1 st).1 ≤ 255
 have hd := decN_lo _ hr (takeP 1 st).1.length
 unfold dec
 rcases (show (takeP 1 st).1.length = 0 ∨ (takeP 1 st).1.length = 1 by omega) with e | e
 ·rw [e] at hd ⊢; simp at hd; omega
 ·rw [e] at hd ⊢; simp at hd; omega
theorem ret_str {a b : ByteArray} (h : a = b) : Ending.returned (.string a) = .returned (.string b) := by rw [h]
def textP (st : Option (List Int)) : List Int × Option (List Int) := takeP (numP 1 st).1.toNat (numP 1 st).2
theorem conv_zero {P : Program} (src dst e : TypeId) (hs : P.underlying src = some (.slice e)) (he : P.underlying e = some (.int .u8)) (hd : P.underlying dst = some .string) (a : Option Addr) (cap : Nat) (w : World) :
  (convert src dst (.slice a 0 cap)).run P w = .ok (.string (strOfNums [])) w := by
 cases a with
 | none => exact run_convert_bytes_nil w src e hs he 0 cap dst hd
 | some x =>
  have hl : (loadCells x 0).run P w = .ok (([] : List Int).map (Value.int .u8)).toArray w := run_loadCells_list (P := P) w x [] (fun j v hj => by simp at hj)
  rw [run_convert_bytes_string w src dst e _ 0 cap hs he hd, run_bytesToString w _ 0 cap [] hl]
  rfl
theorem conv_rd {P : Program} {w : World} {b : Nat} {v : Value} {l : List Int} (src dst e : TypeId)
  (hs : P.underlying src = some (.slice e)) (he : P.underlying e = some (.int .u8)) (hd : P.underlying dst = some .string)
  (h : RdV w b v l) : (convert src dst v).run P w = .ok (.string (strOfNums l)) w := by
 obtain ⟨a, cap, rfl, _, _, hc, _⟩ := h
 rcases hc with rfl | ⟨c, off, rfl, _, hcell⟩
 ·have : l.length = 0 := by omega
  obtain rfl := List.eq_nil_of_length_eq_zero this
  exact conv_zero src dst e hs he hd a 0 w
 ·exact run_convert_bytes_arg w src e hs he c off l.length cap l rfl hcell dst hd

def doneP : Option (List Int) → Bool
 | some [] => true
 | _ => false
theorem done_any (b : Nat) (st : Option (List Int)) (w : World) (h : Rd w b st) :
  Calls Tryz.prog 74 #[.pointer (some ⟨b, 0, none⟩)] w fun e w' => e = .returned (.bool (doneP st)) ∧ w' = w := by
 cases st with
 | none =>
  obtain ⟨c0, c1, _, _⟩ := h
  go_enter Tryz.func74, Tryz.ntmps74
  go_wp2_with fail
  go_ret
  exact ⟨rfl, rfl⟩
 | some rs =>
  obtain ⟨⟨v, c0, a, cap, rfl, hc1, hc2, _, _⟩, c1, _, _⟩ := h
  unfold maxLen at hc2
  cases rs with
  | nil =>
   simp only [List.length_nil] at c0
   go_enter Tryz.func74, Tryz.ntmps74
   go_wp2_with fail
   go_ret
   exact ⟨rfl, rfl⟩
  | cons x r =>
   have hx : (((x :: r).length : Int) == 0) = false := by simp; omega
   generalize (x :: r).length = n at *
   go_enter Tryz.func74, Tryz.ntmps74
   go_wp2_with fail
   go_ret
   exact ⟨rfl, rfl⟩

theorem Rd.alloc {w : World} {b : Nat} {st : Option (List Int)} (h : Rd w b st) (o : Obj) : Rd (w.alloc o) b st := h.kept (T := fun _ => False) ((Touch.refl _ _).alloc o) (fun _ _ h => h)
theorem Rd.other {w : World} {b C : Nat} {st : Option (List Int)} (h : Rd w b st) (j : Nat) (v : Value) (hne : b < C) : Rd (w.setCell ⟨C, j, none⟩ v) b st :=
 h.kept (T := fun k => k = C) ((Touch.refl _ _).setCell _ _ (fun _ => rfl)) (fun k hk e => by omega)

end Go.Proofs.YtbchnheinnileaaGreatDoor
namespace Go.Proofs.YtbchnheinnileaaGreatDoor
set_option maxRecDepth 100000
set_option maxHeartbeats 8000000
open Go.ChangeShapes Go.WideShapes Go.ChangeAt Go.RowKit
set_option linter.unusedVariables false
theorem implText_any (b : Nat) (st : Option (List Int)) (w : World) (h : Rd w b st) :
  Calls Tryz.prog 92 #[.pointer (some ⟨b, 0, none⟩)] w fun e w' => e = .returned (.string (strOfNums (textP st).1)) ∧ Rd w' b (textP st).2 ∧ Touch (fun k => k = b) w w' ∧ w'.heap.size = w.heap.size := by
 have H := Hd h
 have hr := num1_range h.range
 have HP : Hid (textP st = takeP (numP 1 st).1.toNat (numP 1 st).2) := rfl
 clear h
 go_enter Tryz.func92, Tryz.ntmps92
 go_wp2_with fail
 refine (implNumber_any 1 1 rfl b st w (uh H) (by omega)).mono ?_
 rintro e w1 ⟨rfl, hR1, hT1, hz1⟩
 have R1 := Hd (And.intro hR1 (And.intro hT1 hz1))
 clear hR1 hT1 hz1 H
 generalize (numP 1 st).1 = x at *
 generalize (numP 1 st).2 = st1 at *
 obtain ⟨n, rfl⟩ : ∃ n : Nat, x = (n : Int) := ⟨x.toNat, by omega⟩
 rw [Int.toNat_natCast] at HP
 go_wp2_with fail
 refine (take_any n b st1 w1 (uh R1).1 (by omega)).mono ?_
 rintro e w2 ⟨v2, rfl, hv2, hR2, hT2, hz2⟩
 have hcv := conv_rd (P := Tryz.prog) 80 9 5 Tryz.underlying80 Tryz.underlying5 Tryz.underlying9 hv2
 have R2 := Hd (And.intro hR2 (And.intro hT2 hz2))
 clear hR2 hT2 hz2 hv2
 generalize hs2 : strOfNums (takeP n st1).1 = s2 at *
 have HS := Hd hs2
 clear hs2
 go_wp2_with fail
 go_ret
 rw [uh HP]
 exact ⟨ret_str (uh HS).symm, (uh R2).1, (uh R1).2.1.trans (uh R2).2.1 (fun _ _ h => h), by rw [(uh R2).2.2, (uh R1).2.2]⟩

end Go.Proofs.YtbchnheinnileaaGreatDoor
namespace Go.Proofs.YtbchnheinnileaaGreatDoor
set_option maxRecDepth 100000
set_option maxHeartbeats 8000000
open Go.ChangeShapes Go.WideShapes Go.ChangeAt Go.RowKit
set_option linter.unusedVariables false
set_option linter.unusedSimpArgs false
def cmdP (st : Option (List Int)) : (Int × Int × Int × ByteArray × ByteArray) × Option (List Int) :=
 (((numP 1 st).1, (numP 2 (numP 1 st).2).1, (numP 2 (numP 2 (numP 1 st).2).2).1, strOfNums (textP (numP 2 (numP 2 (numP 1 st).2).2).2).1, strOfNums (textP (textP (numP 2 (numP 2 (numP 1 st).2).2).2).2).1), (textP (textP (numP 2 (numP 2 (numP 1 st).2).2).2).2).2)
def cmdVal (c : Int × Int × Int × ByteArray × ByteArray) : Value := .agg #[.int .i64 c.1, .int .i64 c.2.1, .int .i64 c.2.2.1, .string c.2.2.2.1, .string c.2.2.2.2]
theorem implCommand_any (b : Nat) (st : Option (List Int)) (w : World) (h : Rd w b st) :
  Calls Tryz.prog 73 #[.pointer (some ⟨b, 0, none⟩)] w fun e w' => e = .returned (cmdVal (cmdP st).1) ∧ Rd w' b (cmdP st).2 ∧ Touch (fun k => k = b) w w' := by
 have hb := h.lt
 have H0 := Hd h
 clear h
 go_enter Tryz.func73, Tryz.ntmps73
 go_wp2_with fail
 have D0 := Hd (Blk.new w #[.int .i64 0, .int .i64 0, .int .i64 0, .string ⟨#[]⟩, .string ⟨#[]⟩] 77 w.heap.size rfl)
 have R0 := Hd ((uh D0).alloc (.cells #[.int .i64 0, .int .i64 0, .int .i64 0, .string ⟨#[]⟩, .string ⟨#[]⟩] 77))
 have C0 := Hd (Blk.new (w.alloc (.cells #[.int .i64 0, .int .i64 0, .int .i64 0, .string ⟨#[]⟩, .string ⟨#[]⟩] 77)) #[.int .i64 0, .int .i64 0, .int .i64 0, .string ⟨#[]⟩, .string ⟨#[]⟩] 77 (w.heap.size + 1) (by simp))
 have T0 := Hd (((Touch.refl (fun k => k = b) w).alloc (.cells #[.int .i64 0, .int .i64 0, .int .i64 0, .string ⟨#[]⟩, .string ⟨#[]⟩] 77)).alloc (.cells #[.int .i64 0, .int .i64 0, .int .i64 0, .string ⟨#[]⟩, .string ⟨#[]⟩] 77))
 have S0 := Hd (((uh H0).alloc (.cells #[.int .i64 0, .int .i64 0, .int .i64 0, .string ⟨#[]⟩, .string ⟨#[]⟩] 77)).alloc (.cells #[.int .i64 0, .int .i64 0, .int .i64 0, .string ⟨#[]⟩, .string ⟨#[]⟩] 77))
 clear D0 H0
 generalize (w.alloc (.cells #[.int .i64 0, .int .i64 0, .int .i64 0, .string ⟨#[]⟩, .string ⟨#[]⟩] 77)).alloc (.cells #[.int .i64 0, .int .i64 0, .int .i64 0, .string ⟨#[]⟩, .string ⟨#[]⟩] 77) = w0 at *
 refine (implNumber_any 1 1 rfl b st _ (uh S0) (by omega)).mono ?_
 rintro e w1 ⟨rfl, hR, hT, hz⟩
 obtain ⟨x1, st1, hx1⟩ : ∃ x s, numP 1 st = (x, s) := ⟨_, _, rfl⟩
 rw [hx1] at hR ⊢
 have HX1 := Hd hx1
 dsimp only at hR ⊢
 have R1 := Hd ((uh R0).kept hT (by show ¬ w.heap.size = b; omega))
 have C1' := Hd ((uh C0).kept hT (by show ¬ w.heap.size + 1 = b; omega))
 have T1' := Hd ((uh T0).trans hT (fun _ _ h => h))
 have S1' := Hd hR
 clear hx1 hR hT hz R0 C0 T0 S0
 have c1 := (uh C1').cell 0 rfl
 have f1 := (uh C1').fro 0
 have C1 := Hd ((uh C1').set 0 (.int .i64 x1) (by simp))
 have R1s := Hd ((uh R1).other (C := w.heap.size + 1) 0 (.int .i64 x1) (by omega))
 have T1 := Hd ((uh T1').setCell ⟨w.heap.size + 1, 0, none⟩ (.int .i64 x1) (fun hlt => by simp at hlt; omega))
 have S1 := Hd ((uh S1').other (C := w.heap.size + 1) 0 (.int .i64 x1) (by omega))
 simp only [List.set_cons_zero, List.set_cons_succ] at C1
 clear C1' R1 T1' S1'
 have R1 := R1s
 clear R1s
 go_wp2_with fail
 clear c1 f1
 generalize w1.setCell ⟨w.heap.size + 1, 0, none⟩ (.int .i64 x1) = w1s at *
 refine (implNumber_any 2 2 rfl b st1 _ (uh S1) (by omega)).mono ?_
 rintro e w2 ⟨rfl, hR, hT, hz⟩
 obtain ⟨x2, st2, hx2⟩ : ∃ x s, numP 2 st1 = (x, s) := ⟨_, _, rfl⟩
 rw [hx2] at hR ⊢
 have HX2 := Hd hx2
 dsimp only at hR ⊢
 have R2 := Hd ((uh R1).kept hT (by show ¬ w.heap.size = b; omega))
 have C2' := Hd ((uh C1).kept hT (by show ¬ w.heap.size + 1 = b; omega))
 have T2' := Hd ((uh T1).trans hT (fun _ _ h => h))
 have S2' := Hd hR
 clear hx2 hR hT hz R1 C1 T1 S1
 have c2 := (uh C2').cell 1 rfl
 have f2 := (uh C2').fro 1
 have C2 := Hd ((uh C2').set 1 (.int .i64 x2) (by simp))
 have R2s := Hd ((uh R2).other (C := w.heap.size + 1) 1 (.int .i64 x2) (by omega))
 have T2 := Hd ((uh T2').setCell ⟨w.heap.size + 1, 1, none⟩ (.int .i64 x2) (fun hlt => by simp at hlt; omega))
 have S2 := Hd ((uh S2').other (C := w.heap.size + 1) 1 (.int .i64 x2) (by omega))
 simp only [List.set_cons_zero, List.set_cons_succ] at C2
 clear C2' R2 T2' S2'
 have R2 := R2s
 clear R2s
 go_wp2_with fail
 clear c2 f2
 generalize w2.setCell ⟨w.heap.size + 1, 1, none⟩ (.int .i64 x2) = w2s at *
 refine (implNumber_any 2 2 rfl b st2 _ (uh S2) (by omega)).mono ?_
 rintro e w3 ⟨rfl, hR, hT, hz⟩
 obtain ⟨x3, st3, hx3⟩ : ∃ x s, numP 2 st2 = (x, s) := ⟨_, _, rfl⟩
 rw [hx3] at hR ⊢
 have HX3 := Hd hx3
 dsimp only at hR ⊢
 have R3 := Hd ((uh R2).kept hT (by show ¬ w.heap.size = b; omega))
 have C3' := Hd ((uh C2).kept hT (by show ¬ w.heap.size + 1 = b; omega))
 have T3' := Hd ((uh T2).trans hT (fun _ _ h => h))
 have S3' := Hd hR
 clear hx3 hR hT hz R2 C2 T2 S2
 have c3 := (uh C3').cell 2 rfl
 have f3 := (uh C3').fro 2
 have C3 := Hd ((uh C3').set 2 (.int .i64 x3) (by simp))
 have R3s := Hd ((uh R3).other (C := w.heap.size + 1) 2 (.int .i64 x3) (by omega))
 have T3 := Hd ((uh T3').setCell ⟨w.heap.size + 1, 2, none⟩ (.int .i64 x3) (fun hlt => by simp at hlt; omega))
 have S3 := Hd ((uh S3').other (C := w.heap.size + 1) 2 (.int .i64 x3) (by omega))
 simp only [List.set_cons_zero, List.set_cons_succ] at C3
 clear C3' R3 T3' S3'
 have R3 := R3s
 clear R3s
 go_wp2_with fail
 clear c3 f3
 generalize w3.setCell ⟨w.heap.size + 1, 2, none⟩ (.int .i64 x3) = w3s at *
 refine (implText_any b st3 _ (uh S3)).mono ?_
 rintro e w4 ⟨rfl, hR, hT, hz⟩
 obtain ⟨x4, st4, hx4⟩ : ∃ x s, textP st3 = (x, s) := ⟨_, _, rfl⟩
 rw [hx4] at hR ⊢
 have HX4 := Hd hx4
 dsimp only at hR ⊢
 have R4 := Hd ((uh R3).kept hT (by show ¬ w.heap.size = b; omega))
 have C4' := Hd ((uh C3).kept hT (by show ¬ w.heap.size + 1 = b; omega))
 have T4' := Hd ((uh T3).trans hT (fun _ _ h => h))
 have S4' := Hd hR
 clear hx4 hR hT hz R3 C3 T3 S3
 generalize hs4 : strOfNums x4 = s4 at *
 have HS4 := Hd hs4
 clear hs4
 have c4 := (uh C4').cell 3 rfl
 have f4 := (uh C4').fro 3
 have C4 := Hd ((uh C4').set 3 (.string s4) (by simp))
 have R4s := Hd ((uh R4).other (C := w.heap.size + 1) 3 (.string s4) (by omega))
 have T4 := Hd ((uh T4').setCell ⟨w.heap.size + 1, 3, none⟩ (.string s4) (fun hlt => by simp at hlt; omega))
 have S4 := Hd ((uh S4').other (C := w.heap.size + 1) 3 (.string s4) (by omega))
 simp only [List.set_cons_zero, List.set_cons_succ] at C4
 clear C4' R4 T4' S4'
 have R4 := R4s
 clear R4s
 go_wp2_with fail
 clear c4 f4
 generalize w4.setCell ⟨w.heap.size + 1, 3, none⟩ (.string s4) = w4s at *
 refine (implText_any b st4 _ (uh S4)).mono ?_
 rintro e w5 ⟨rfl, hR, hT, hz⟩
 obtain ⟨x5, st5, hx5⟩ : ∃ x s, textP st4 = (x, s) := ⟨_, _, rfl⟩
 rw [hx5] at hR ⊢
 have HX5 := Hd hx5
 dsimp only at hR ⊢
 have R5 := Hd ((uh R4).kept hT (by show ¬ w.heap.size = b; omega))
 have C5' := Hd ((uh C4).kept hT (by show ¬ w.heap.size + 1 = b; omega))
 have T5' := Hd ((uh T4).trans hT (fun _ _ h => h))
 have S5' := Hd hR
 clear hx5 hR hT hz R4 C4 T4 S4
 generalize hs5 : strOfNums x5 = s5 at *
 have HS5 := Hd hs5
 clear hs5
 have c5 := (uh C5').cell 4 rfl
 have f5 := (uh C5').fro 4
 have g0 := (uh C5').cell 0 rfl
 have g1 := (uh C5').cell 1 rfl
 have g2 := (uh C5').cell 2 rfl
 have g3 := (uh C5').cell 3 rfl
 have r0 := (uh R5).cell 0 rfl
 have q0 := (uh R5).fro 0
 have r1 := (uh R5).cell 1 rfl
 have q1 := (uh R5).fro 1
 have r2 := (uh R5).cell 2 rfl
 have q2 := (uh R5).fro 2
 have r3 := (uh R5).cell 3 rfl
 have q3 := (uh R5).fro 3
 have r4 := (uh R5).cell 4 rfl
 have q4 := (uh R5).fro 4
 have C5 := Hd ((uh C5').set 4 (.string s5) (by simp))
 have R5s := Hd ((uh R5).other (C := w.heap.size + 1) 4 (.string s5) (by omega))
 have T5 := Hd ((uh T5').setCell ⟨w.heap.size + 1, 4, none⟩ (.string s5) (fun hlt => by simp at hlt; omega))
 have S5 := Hd ((uh S5').other (C := w.heap.size + 1) 4 (.string s5) (by omega))
 simp only [List.set_cons_zero, List.set_cons_succ] at C5
 clear C5' R5 T5' S5'
 have R5 := R5s
 clear R5s
 have hne : w.heap.size + 1 ≠ w.heap.size := by omega
 go_wp2_with fail
 refine bodyPost_ret (v := .agg #[.int .i64 x1, .int .i64 x2, .int .i64 x3, .string s4, .string s5]) (by simp [results, Tryz.results73, go_sem, r0, r1, r2, r3, r4]) rfl ⟨?_, ?_, ?_⟩
 ·have e : (cmdP st).1 = (x1, x2, x3, s4, s5) := by simp only [cmdP, uh HX1, uh HX2, uh HX3, uh HX4, uh HX5, uh HS4, uh HS5]
  rw [e]; rfl
 ·have e : (cmdP st).2 = st5 := by simp only [cmdP, uh HX1, uh HX2, uh HX3, uh HX4, uh HX5]
  rw [e]
  exact (((((uh S5).other 0 _ hb).other 1 _ hb).other 2 _ hb).other 3 _ hb).other 4 _ hb
 ·exact (((((uh T5).setCell _ _ (fun hlt => by simp at hlt)).setCell _ _ (fun hlt => by simp at hlt)).setCell _ _ (fun hlt => by simp at hlt)).setCell _ _ (fun hlt => by simp at hlt)).setCell _ _ (fun hlt => by simp at hlt)

end Go.Proofs.YtbchnheinnileaaGreatDoor
