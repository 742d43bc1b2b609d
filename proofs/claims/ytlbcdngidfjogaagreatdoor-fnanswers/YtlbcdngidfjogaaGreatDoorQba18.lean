/- What the proof of the claim needs (joined by program): ApW AqA ApY. -/
import Derived.Test.YtlbcdngidfjogaaGreatDoorQba17
import Derived.Test.YtlbcdngidfjogaaGreatDoorQba12
import Derived.Test.YtlbcdngidfjogaaGreatDoorQba06
import Derived.Test.YtlbcdngidfjogaaGreatDoorQba08
import Derived.Test.YtlbcdngidfjogaaGreatDoorQba00
import Derived.Deep.RegionHeld3
import Derived.Laws.Cover1
import Derived.Laws.StructEq
import Derived.Deep.Cut
namespace Go.Proofs.YtlbcdngidfjogaaGreatDoor.Sha
set_option maxRecDepth 100000
set_option maxHeartbeats 8000000
open Go.ChangeShapes Go.WideShapes Go.ChangeAt Go.RowKit Go.Deep
set_option linter.unusedVariables false
set_option linter.unusedSimpArgs false
def stA (l : List Cm) : Nat → Lst
 | 0 => ⟨[], none, []⟩
 | k + 1 => (apOut (stA l k) (l.getD k default)).1
def reA (l : List Cm) (k : Nat) : Re := (apOut (stA l k) (l.getD k default)).2
def resA (l : List Cm) (k : Nat) : List Re := (List.range k).map (reA l)
theorem resA_succ (l : List Cm) (k : Nat) : resA l (k + 1) = resA l k ++ [reA l k] := by unfold resA; rw [List.range_succ, List.map_append]; rfl
theorem resA_len (l : List Cm) (k : Nat) : (resA l k).length = k := by simp [resA]
theorem resA_get (l : List Cm) (k i : Nat) (h : i < k) : (resA l k).getD i default = reA l i := by simp [resA, List.getD_eq_getElem?_getD, h]
theorem lok_nil : LOK ⟨[], none, []⟩ := ⟨by simp, by simp, trivial, trivial, trivial, by simp, fun i j _ h => absurd h (by simp), by simp⟩
theorem stA_ok {l : List Cm} : ∀ (k : Nat), (∀ i, i < k → cmK (l.getD i default) = true) → LOK (stA l k)
 | 0, _ => lok_nil
 | k + 1, h => (ap_ok (stA_ok k (fun i hi => h i (by omega))) (h k (by omega))).1
structure LedB (T : Nat → Prop) (w : World) (x : Lst) (lv kv sv : Value) : Prop where
 s : Strs w lv x.ls
 b : Brs (fun k => ¬ T k) w kv (brOf x.o).kids
 e : Sess w sv x.ss
 ps : 0 < x.ls.length → ∀ k, lv.ownBlock = some k → ¬ T k
 pe : 0 < x.ss.length → ∀ k, sv.ownBlock = some k → ¬ T k
theorem LedB.below {T : Nat → Prop} {w w' : World} {x : Lst} {lv kv sv : Value} (h : LedB T w x lv kv sv) (hb : Below w.heap.size w w') : LedB T w' x lv kv sv := ⟨h.s.below hb, h.b.blw hb, h.e.below hb, h.ps, h.pe⟩
theorem LedB.touch {T T' : Nat → Prop} {w w' : World} {x : Lst} {lv kv sv : Value} (h : LedB T w x lv kv sv) (ht : Touch T' w w') (hT : ∀ k, T' k → T k) : LedB T w' x lv kv sv :=
 ⟨h.s.touch ht (fun hp k hk e => h.ps hp k hk (hT k e)), h.b.touch ht (fun k hk e => hk (hT k e)), h.e.touch ht (fun hp k hk e => h.pe hp k hk (hT k e)), h.ps, h.pe⟩
theorem LedB.mono {T T' : Nat → Prop} {w : World} {x : Lst} {lv kv sv : Value} (h : LedB T w x lv kv sv) (hT : ∀ k, T' k → T k) : LedB T' w x lv kv sv :=
 ⟨h.s, h.b.mono (fun k hk e => hk (hT k e)), h.e, fun hp k hk e => h.ps hp k hk (hT k e), fun hp k hk e => h.pe hp k hk (hT k e)⟩
theorem LedB.up {T : Nat → Prop} {w : World} {x : Lst} {lv kv sv : Value} (h : LedB T w x lv kv sv) : LedB (fun k => T k ∨ w.heap.size ≤ k) w x lv kv sv :=
 ⟨h.s, h.b.boundS.mono (fun k hk e => e.elim hk.1 (fun e => by have := hk.2; omega)), h.e, fun hp k hk e => e.elim (h.ps hp k hk) (fun e => by have := h.s.lowB hp k hk; omega), fun hp k hk e => e.elim (h.pe hp k hk) (fun e => by have := h.e.lowB hp k hk; omega)⟩
theorem LedB.next {T : Nat → Prop} {wc w' : World} {x y : Lst} {lv kv sv lv' kv' sv' : Value} (h : LedB T wc x lv kv sv) (hs : Strs w' lv' y.ls) (hb : Brs (fun _ => True) w' kv' (brOf y.o).kids) (he : Sess w' sv' y.ss) (fl : Fresh wc.heap.size lv lv') (fs : Fresh wc.heap.size sv sv') (hT : ∀ k, T k → k < wc.heap.size ∧ Fin w' k 7) : LedB T w' y lv' kv' sv' :=
 ⟨hs, (Brs.smallO (fun k hk => (hT k hk).2) y.o kv' hb).mono (fun k hk => hk.2), he,
  fun hp k hk e => fl.elim (fun q => by subst q; exact h.ps (by rw [h.s.lenE hs]; exact hp) k hk e) (fun q => by have := q k hk; have := (hT k e).1; omega),
  fun hp k hk e => fs.elim (fun q => by subst q; exact h.pe (by rw [h.e.lenE he]; exact hp) k hk e) (fun q => by have := q k hk; have := (hT k e).1; omega)⟩
theorem LedB.nil (T : Nat → Prop) (w : World) : LedB T w ⟨[], none, []⟩ (.slice none 0 0) (.slice none 0 0) (.slice none 0 0) :=
 ⟨⟨none, 0, rfl, by simp, .inl rfl⟩, .nil none 0 (by unfold maxLen; omega), ⟨none, 0, rfl, by simp, by unfold maxLen; omega, .inl rfl⟩, (fun h => absurd h (by simp)), (fun h => absurd h (by simp))⟩
def ledC (x : Lst) (lv kv sv : Value) : List Value := [lv, .string (brOf x.o).key, .string (brOf x.o).val, .int .i64 (brOf x.o).at_, kv, sv]
theorem LedB.shape {T : Nat → Prop} {w : World} {x : Lst} {lv kv sv : Value} (h : LedB T w x lv kv sv) : ∃ la lc ka kn kc sa sc, lv = .slice la x.ls.length lc ∧ kv = .slice ka kn kc ∧ sv = .slice sa x.ss.length sc := by
 obtain ⟨la, lc, e1, _⟩ := h.s
 obtain ⟨ka, kc, e2, _⟩ := h.b.shape
 obtain ⟨sa, sc, e3, _⟩ := h.e
 exact ⟨la, lc, ka, _, kc, sa, sc, e1, e2, e3⟩
def zLst : Lst := ⟨[], none, []⟩
open Classical in
noncomputable def aaO (l : List Cm) : Lst × List Re × Int :=
 if 4096 < l.length then (zLst, [], 2) else if 120 < l.length then (zLst, [], 6) else if ∃ i, i < l.length ∧ cmK (l.getD i default) = false then (zLst, [], 1) else (stA l l.length, resA l l.length, 0)
theorem aaO_long {l : List Cm} (h : 4096 < l.length) : aaO l = (zLst, [], 2) := by unfold aaO; rw [if_pos h]
theorem aaO_many {l : List Cm} (h : ¬ 4096 < l.length) (h1 : 120 < l.length) : aaO l = (zLst, [], 6) := by unfold aaO; rw [if_neg h, if_pos h1]
theorem aaO_bad {l : List Cm} (h1 : ¬ 120 < l.length) (h2 : ∃ i, i < l.length ∧ cmK (l.getD i default) = false) : aaO l = (zLst, [], 1) := by unfold aaO; rw [if_neg (by omega), if_neg h1, if_pos h2]
theorem aaO_good {l : List Cm} (h1 : ¬ 120 < l.length) (h2 : ∀ i, i < l.length → cmK (l.getD i default) = true) : aaO l = (stA l l.length, resA l l.length, 0) := by
 unfold aaO
 rw [if_neg (by omega), if_neg h1, if_neg (fun ⟨i, hi, e⟩ => by rw [h2 i hi] at e; cases e)]
def AaR (B : Nat) (w : World) (lv kv sv rv : Value) (x : Lst) (rs : List Re) : Prop :=
 OwnS B w lv x.ls ∧ OwnSe B w sv x.ss ∧ (∀ y, lv.ownBlock = some y → sv.ownBlock ≠ some y) ∧ OwnRe B w rv rs ∧ (∀ y, rv.ownBlock = some y → lv.ownBlock ≠ some y ∧ sv.ownBlock ≠ some y) ∧ ∃ S : Nat → Prop, BrO w S kv (brOf x.o).kids ∧ ∀ y, S y → B ≤ y ∧ y < w.heap.size ∧ lv.ownBlock ≠ some y ∧ sv.ownBlock ≠ some y ∧ rv.ownBlock ≠ some y
theorem AaR.nil (B : Nat) (w : World) : AaR B w (.slice none 0 0) (.slice none 0 0) (.slice none 0 0) (.slice none 0 0) zLst [] :=
 ⟨OwnS.nil _ _, OwnSe.nil _ _, (fun y h => by cases h), OwnRe.nil _ _, (fun y h => by cases h), fun _ => False, .nil _ none 0 (by unfold maxLen; omega), fun y h => h.elim⟩
def AaE (w : World) (x : Lst × List Re × Int) (e : Ending) (w' : World) : Prop :=
 ∃ lv kv sv rv, e = .returned (.tuple #[.agg #[lv, .string (brOf x.1.o).key, .string (brOf x.1.o).val, .int .i64 (brOf x.1.o).at_, kv, sv], rv, .int .i64 x.2.2]) ∧ AaR w.heap.size w' lv kv sv rv x.1 x.2.1 ∧ Below w.heap.size w w'
theorem aa_tell {x y : Lst × List Re × Int} {w w' : World} {e : Ending} (he : x = y) (h : AaE w y e w') : AaE w x e w' := by rw [he]; exact h
def AaI (w : World) (l : List Cm) (k : Nat) (rv : Value) (wr : World) : Prop :=
 Below w.heap.size w wr ∧ Blk wr w.heap.size [.slice none 0 0, .string ⟨#[]⟩, .string ⟨#[]⟩, .int .i64 0, .slice none 0 0, .slice none 0 0] ∧ ∃ lv tp sv S, Bk (w.heap.size + 1) wr (w.heap.size + 1) lv tp sv S (stA l k).ls (stA l k).o (stA l k).ss ∧ OwnRe (w.heap.size + 1) wr rv (resA l k) ∧ ∀ y, rv.ownBlock = some y → Av (w.heap.size + 1) lv sv S y
theorem grownR {w5 w6 : World} {r : Option Nat} (hg : w5.grownBy w6 r) : Touch (fun q => r = some q) w5 w6 := (Touch.refl _ w5).grown hg (fun q hq _ => hq)
theorem OwnS.down' {B B' : Nat} {w : World} {v : Value} {l : List ByteArray} (h : OwnS B w v l) (hB : B' ≤ B) : OwnS B' w v l := by
 rcases h.2 with ⟨e, h0⟩ | ⟨g, cap, cur, e, hb, hr⟩
 ·exact ⟨h.1, .inl ⟨e, h0⟩⟩
 ·exact ⟨h.1, .inr ⟨g, cap, cur, e, Nat.le_trans hB hb, hr⟩⟩
theorem Bk.nil {w : World} {B p : Nat} (h : Blk w p [.slice none 0 0, .pointer none, .slice none 0 0]) (hB : B ≤ p) : Bk B w p (.slice none 0 0) none (.slice none 0 0) (fun _ => False) [] none [] :=
 ⟨h, hB, OwnS.nil _ _, OwnSe.nil _ _, rfl, (fun x h => h.elim), (fun e => by cases e), (fun e => by cases e), fun x e => by cases e⟩
theorem implApplyAll_any (v : Value) (l : List Cm) (w : World) (h : Css w v l) (hs : l.length ≤ 1048576) (hz : ∀ i, i < l.length → (l.getD i default).ky.size ≤ maxLen ∧ (l.getD i default).vl.size ≤ maxLen) (hT : Tab w) :
  Calls Tryz.prog 10 #[v] w fun e w' => AaE w (aaO l) e w' := by
 have HL := Hd (fun hx => aaO_long (l := l) hx)
 have HM := Hd (fun hx hy => aaO_many (l := l) hx hy)
 have HB := Hd (fun hx hy => aaO_bad (l := l) hx hy)
 have HGD := Hd (fun hx hy => aaO_good (l := l) hx hy)
 have HZ := Hd hz
 have HTB := Hd hT
 clear hz hT
 generalize aaO l = out at *
 obtain ⟨a, cap, rfl, hn, hm, hc⟩ := h
 have HC := Hd hc
 clear hc hm hn
 have B0 := Hd (bal w (.cells #[.slice none 0 0, .string ⟨#[]⟩, .string ⟨#[]⟩, .int .i64 0, .slice none 0 0, .slice none 0 0] 42))
 have R0 := Hd (Blk.new w #[.slice none 0 0, .string ⟨#[]⟩, .string ⟨#[]⟩, .int .i64 0, .slice none 0 0, .slice none 0 0] 42 w.heap.size rfl)
 go_enter Tryz.func10, Tryz.ntmps10
 go_upto_region 1 with fail
 have hsz0 : (w.alloc (.cells #[.slice none 0 0, .string ⟨#[]⟩, .string ⟨#[]⟩, .int .i64 0, .slice none 0 0, .slice none 0 0] 42)).heap.size = w.heap.size + 1 := by simp
 generalize w.alloc (.cells #[.slice none 0 0, .string ⟨#[]⟩, .string ⟨#[]⟩, .int .i64 0, .slice none 0 0, .slice none 0 0] 42) = w0 at *
 have hw0 : w.heap.size < w0.heap.size := (uh R0).1
 by_cases h4 : 4096 < l.length
 ·have hi4 : (4096 : Int) < (l.length : Int) := by omega
  have E := Hd (uh HL h4)
  have RX := uh R0
  obtain ⟨⟨rx0, rx1, rx2, rx3, rx4, rx5⟩, _⟩ := Blk.c6 RX
  have rf0 := RX.fro 0
  have rf1 := RX.fro 1
  have rf2 := RX.fro 2
  have rf3 := RX.fro 3
  have rf4 := RX.fro 4
  have rf5 := RX.fro 5
  have HR9 := Hd ((((((RX.set 0 (.slice none 0 0) (by simp)).set 1 (.string ⟨#[]⟩) (by simp)).set 2 (.string ⟨#[]⟩) (by simp)).set 3 (.int .i64 0) (by simp)).set 4 (.slice none 0 0) (by simp)).set 5 (.slice none 0 0) (by simp))
  have HT9 := Hd (((((((Touch.refl (fun x => x = w.heap.size) w0).setCell ⟨w.heap.size, 0, none⟩ (.slice none 0 0) (fun _ => rfl)).setCell ⟨w.heap.size, 1, none⟩ (.string ⟨#[]⟩) (fun _ => rfl)).setCell ⟨w.heap.size, 2, none⟩ (.string ⟨#[]⟩) (fun _ => rfl)).setCell ⟨w.heap.size, 3, none⟩ (.int .i64 0) (fun _ => rfl)).setCell ⟨w.heap.size, 4, none⟩ (.slice none 0 0) (fun _ => rfl)).setCell ⟨w.heap.size, 5, none⟩ (.slice none 0 0) (fun _ => rfl))
  have K9 := Hd ((uh B0).trans ((uh HT9).below (uh B0).size (fun x hx e => by omega)))
  clear RX
  go_wp2_with fail
  have R9 := uh HR9
  obtain ⟨⟨z0, z1, z2, z3, z4, z5⟩, _⟩ := Blk.c6 R9
  refine bodyPost_ret (v := .tuple #[.agg #[.slice none 0 0, .string ⟨#[]⟩, .string ⟨#[]⟩, .int .i64 0, .slice none 0 0, .slice none 0 0], .slice none 0 0, .int .i64 2]) (by simp [results, Tryz.results10, go_sem, z0, z1, z2, z3, z4, z5]) rfl ?_
  refine aa_tell (uh E) ⟨_, _, _, _, rfl, ?_, uh K9⟩
  exact AaR.nil _ _
 by_cases h1 : 120 < l.length
 ·have hi4 : ¬ (4096 : Int) < (l.length : Int) := by omega
  have hi1 : (120 : Int) < (l.length : Int) := by omega
  have E := Hd (uh HM h4 h1)
  have RX := uh R0
  obtain ⟨⟨rx0, rx1, rx2, rx3, rx4, rx5⟩, _⟩ := Blk.c6 RX
  have rf0 := RX.fro 0
  have rf1 := RX.fro 1
  have rf2 := RX.fro 2
  have rf3 := RX.fro 3
  have rf4 := RX.fro 4
  have rf5 := RX.fro 5
  have HR9 := Hd ((((((RX.set 0 (.slice none 0 0) (by simp)).set 1 (.string ⟨#[]⟩) (by simp)).set 2 (.string ⟨#[]⟩) (by simp)).set 3 (.int .i64 0) (by simp)).set 4 (.slice none 0 0) (by simp)).set 5 (.slice none 0 0) (by simp))
  have HT9 := Hd (((((((Touch.refl (fun x => x = w.heap.size) w0).setCell ⟨w.heap.size, 0, none⟩ (.slice none 0 0) (fun _ => rfl)).setCell ⟨w.heap.size, 1, none⟩ (.string ⟨#[]⟩) (fun _ => rfl)).setCell ⟨w.heap.size, 2, none⟩ (.string ⟨#[]⟩) (fun _ => rfl)).setCell ⟨w.heap.size, 3, none⟩ (.int .i64 0) (fun _ => rfl)).setCell ⟨w.heap.size, 4, none⟩ (.slice none 0 0) (fun _ => rfl)).setCell ⟨w.heap.size, 5, none⟩ (.slice none 0 0) (fun _ => rfl))
  have K9 := Hd ((uh B0).trans ((uh HT9).below (uh B0).size (fun x hx e => by omega)))
  clear RX
  go_wp2_with fail
  have R9 := uh HR9
  obtain ⟨⟨z0, z1, z2, z3, z4, z5⟩, _⟩ := Blk.c6 R9
  refine bodyPost_ret (v := .tuple #[.agg #[.slice none 0 0, .string ⟨#[]⟩, .string ⟨#[]⟩, .int .i64 0, .slice none 0 0, .slice none 0 0], .slice none 0 0, .int .i64 6]) (by simp [results, Tryz.results10, go_sem, z0, z1, z2, z3, z4, z5]) rfl ?_
  refine aa_tell (uh E) ⟨_, _, _, _, rfl, ?_, uh K9⟩
  exact AaR.nil _ _
 have hi4 : ¬ (4096 : Int) < (l.length : Int) := by omega
 have hi1 : ¬ (120 : Int) < (l.length : Int) := by omega
 have bA := bal w0 (.cells #[.slice none 0 0, .pointer none, .slice none 0 0] 60)
 have I0 : Hid (AaI w l 0 (.slice none 0 0) (w0.alloc (.cells #[.slice none 0 0, .pointer none, .slice none 0 0] 60))) := Hd ⟨(uh B0).trans (bA.mono (uh B0).size), (uh R0).below bA, .slice none 0 0, none, .slice none 0 0, fun _ => False, Bk.nil (Blk.new w0 #[.slice none 0 0, .pointer none, .slice none 0 0] 60 (w.heap.size + 1) hsz0) (Nat.le_refl _), OwnRe.nil _ _, fun y e => by cases e⟩
 clear bA B0 R0 HL HM
 go_upto_region 6 with fail
 generalize w0.alloc (.cells #[.slice none 0 0, .pointer none, .slice none 0 0] 60) = w1 at *
 go_wp2_with fail
 go_loopw [6, 19] (fun rv i wr => ∃ k : Nat, k ≤ l.length ∧ i = .int .i64 k ∧ Hid (∀ j, j < k → cmK (l.getD j default) = true) ∧ Hid (AaI w l k rv wr)) (fun _ i _ => l.length - (intOf i).toNat)
 case atStart => exact ⟨0, Nat.zero_le _, rfl, Hd (fun j hj => absurd hj (Nat.not_lt_zero _)), I0⟩
 case round =>
  obtain ⟨k, hk, rfl, HGO, HI⟩ := hrel
  clear I0
  obtain ⟨rv, hrv⟩ : ∃ rv, rv = u6 := ⟨_, rfl⟩
  subst hrv
  obtain ⟨K0, R0, lv, tp, sv, S, BK0, OR0, AV0⟩ := uh HI
  have K := Hd K0
  have R := Hd R0
  have BK := Hd BK0
  have OR := Hd OR0
  have AV := Hd AV0
  have HOK := Hd (stA_ok (l := l) k (uh HGO))
  have hg1 : 0 < w.heap.size := (uh HTB).1.1
  have hg2 : 1 < w.heap.size := (uh HTB).2.1
  have hwr : w.heap.size + 1 < wr.heap.size := BK0.1.1
  clear HI K0 R0 BK0 OR0 AV0
  by_cases hlt : k < l.length
  ·obtain ⟨b, off, rfl, hbl, hsrc⟩ : ∃ b off, a = some ⟨b, off, none⟩ ∧ b < w.heap.size ∧ ∀ i, i < l.length → w.cell? ⟨b, off + i * 5, none⟩ = some (.int .i64 (l.getD i default).kd) ∧ w.cell? ⟨b, off + i * 5 + 1, none⟩ = some (.int .i64 (l.getD i default).ss) ∧ w.cell? ⟨b, off + i * 5 + 2, none⟩ = some (.int .i64 (l.getD i default).sq) ∧ w.cell? ⟨b, off + i * 5 + 3, none⟩ = some (.string (l.getD i default).ky) ∧ w.cell? ⟨b, off + i * 5 + 4, none⟩ = some (.string (l.getD i default).vl) := by
    rcases uh HC with h0 | h1
    ·omega
    ·exact h1
   obtain ⟨s0, s1, s2, s3, s4⟩ := hsrc k hlt
   have d0 := ((uh K).cell (p := ⟨b, off + k * 5, none⟩) hbl).trans s0
   have d1 := ((uh K).cell (p := ⟨b, off + k * 5 + 1, none⟩) hbl).trans s1
   have d2 := ((uh K).cell (p := ⟨b, off + k * 5 + 2, none⟩) hbl).trans s2
   have d3 := ((uh K).cell (p := ⟨b, off + k * 5 + 3, none⟩) hbl).trans s3
   have d4 := ((uh K).cell (p := ⟨b, off + k * 5 + 4, none⟩) hbl).trans s4
   have hk0 : (0 : Int) ≤ (k : Int) := by omega
   have hk1 : (k : Int) < (l.length : Int) := by omega
   have m2 : IntKind.i64.wrap ((k : Int) + 1) = (k : Int) + 1 := wrapCm _ (by omega) (by omega)
   have hzk := uh HZ k hlt
   have HST : Hid (stA l (k + 1) = (apOut (stA l k) (l.getD k default)).1) := Hd rfl
   have HRE : Hid (reA l k = (apOut (stA l k) (l.getD k default)).2) := Hd rfl
   have HBD := Hd (fun e => uh HB h1 ⟨k, hlt, e⟩)
   have HGN := Hd (fun (e : cmK (l.getD k default) = true) => show ∀ j, j < k + 1 → cmK (l.getD j default) = true from fun j hj => by
     by_cases q : j = k
     ·rw [q]; exact e
     ·exact uh HGO j (by omega))
   obtain ⟨f, hf⟩ : ∃ f, f = l.getD k default := ⟨_, rfl⟩
   rw [← hf] at d0 d1 d2 d3 d4 HST HRE HBD HGN hzk
   clear hf hsrc s0 s1 s2 s3 s4
   obtain ⟨f0, f1, f2, f3, f4⟩ := f
   dsimp only at d0 d1 d2 d3 d4 hzk
   have HCO := Hd (fun wx => implCommandOK_any f0 f1 f2 f3 f4 wx hzk.1 hzk.2)
   have hck : cmdOK f0 f1 f2 f3 f4 = cmK ⟨f0, f1, f2, f3, f4⟩ := rfl
   rw [hck] at HCO
   clear hck hzk
   have bA := bal wr (.cells #[.int .i64 f0, .int .i64 f1, .int .i64 f2, .string f3, .string f4] 31)
   have X2 := Hd (Blk.new wr #[.int .i64 f0, .int .i64 f1, .int .i64 f2, .string f3, .string f4] 31 wr.heap.size rfl)
   have K2 := hbt K bA
   have R2 := Hd ((uh R).below bA)
   have BK2 := Hd ((uh BK).below bA)
   have OR2 := Hd ((uh OR).below bA)
   have NZ := Blk.new wr #[.int .i64 0, .int .i64 0, .int .i64 0, .string ⟨#[]⟩, .string ⟨#[]⟩] 31 wr.heap.size rfl
   have zc0 := NZ.cell 0 rfl
   have zf0 := NZ.fro 0
   have zc1 := NZ.cell 1 rfl
   have zf1 := NZ.fro 1
   have zc2 := NZ.cell 2 rfl
   have zf2 := NZ.fro 2
   have zc3 := NZ.cell 3 rfl
   have zf3 := NZ.fro 3
   have zc4 := NZ.cell 4 rfl
   have zf4 := NZ.fro 4
   clear NZ bA K R BK OR
   go_upto_region 10 with fail
   clear zc0 zf0 zc1 zf1 zc2 zf2 zc3 zf3 zc4 zf4 d0 d1 d2 d3 d4
   generalize wr.alloc (.cells #[.int .i64 f0, .int .i64 f1, .int .i64 f2, .string f3, .string f4] 31) = w2 at *
   generalize wr.heap.size = cb at *
   obtain ⟨x0, x1, x2, x3, x4⟩ := Blk.c5 (uh X2)
   have HC2 := Hd (uh HCO w2)
   clear HCO
   cases hq : cmK ⟨f0, f1, f2, f3, f4⟩
   ·rw [hq] at HC2
    have E := Hd (uh HBD hq)
    clear hq HGN HST HRE
    go_wp2_with fail
    refine (uh HC2).mono ?_
    rintro e w3 ⟨rfl, hb3⟩
    have K3 := hbt K2 hb3
    have R3 := Hd ((uh R2).below hb3)
    have hw3 : w.heap.size < w3.heap.size := (uh R3).1
    clear hb3 HC2 x0 x1 x2 x3 x4 K2 R2 X2 OR2 BK2
    have RX := uh R3
    obtain ⟨⟨rx0, rx1, rx2, rx3, rx4, rx5⟩, _⟩ := Blk.c6 RX
    have rf0 := RX.fro 0
    have rf1 := RX.fro 1
    have rf2 := RX.fro 2
    have rf3 := RX.fro 3
    have rf4 := RX.fro 4
    have rf5 := RX.fro 5
    have HR9 := Hd ((((((RX.set 0 (.slice none 0 0) (by simp)).set 1 (.string ⟨#[]⟩) (by simp)).set 2 (.string ⟨#[]⟩) (by simp)).set 3 (.int .i64 0) (by simp)).set 4 (.slice none 0 0) (by simp)).set 5 (.slice none 0 0) (by simp))
    have HT9 := Hd (((((((Touch.refl (fun x => x = w.heap.size) w3).setCell ⟨w.heap.size, 0, none⟩ (.slice none 0 0) (fun _ => rfl)).setCell ⟨w.heap.size, 1, none⟩ (.string ⟨#[]⟩) (fun _ => rfl)).setCell ⟨w.heap.size, 2, none⟩ (.string ⟨#[]⟩) (fun _ => rfl)).setCell ⟨w.heap.size, 3, none⟩ (.int .i64 0) (fun _ => rfl)).setCell ⟨w.heap.size, 4, none⟩ (.slice none 0 0) (fun _ => rfl)).setCell ⟨w.heap.size, 5, none⟩ (.slice none 0 0) (fun _ => rfl))
    have K9 := Hd ((uh K3).trans ((uh HT9).below (uh K3).size (fun x hx e => by omega)))
    clear RX
    go_wp2_with fail
    have R9 := uh HR9
    obtain ⟨⟨z0, z1, z2, z3, z4, z5⟩, _⟩ := Blk.c6 R9
    refine bodyPost_ret (v := .tuple #[.agg #[.slice none 0 0, .string ⟨#[]⟩, .string ⟨#[]⟩, .int .i64 0, .slice none 0 0, .slice none 0 0], .slice none 0 0, .int .i64 1]) (by simp [results, Tryz.results10, go_sem, z0, z1, z2, z3, z4, z5]) rfl ?_
    refine aa_tell (uh E) ⟨_, _, _, _, rfl, ?_, uh K9⟩
    exact AaR.nil _ _
   ·rw [hq] at HC2
    replace HGN := Hd (uh HGN hq)
    have HCK := Hd hq
    clear hq HBD
    go_wp2_with fail
    refine (uh HC2).mono ?_
    rintro e w3 ⟨rfl, hb3⟩
    have K3 := hbt K2 hb3
    have R3 := Hd ((uh R2).below hb3)
    have BK3 := Hd ((uh BK2).below hb3)
    have OR3 := Hd ((uh OR2).below hb3)
    have X3 := Hd ((uh X2).below hb3)
    clear hb3 HC2 x0 x1 x2 x3 x4 K2 R2 X2 OR2 BK2
    generalize stA l k = x at *
    obtain ⟨ls, o, ss⟩ := x
    have hw3 : w.heap.size + 1 < w3.heap.size := (uh BK3).1.1
    have HAP := Hd (apply_any (w.heap.size + 1) (w.heap.size + 1) lv sv tp S ls o ss ⟨f0, f1, f2, f3, f4⟩ w3 (uh BK3) (uh HOK) (uh HCK) (by omega) ((uh HTB).below (uh K3)) (by omega) (by omega))
    dsimp only at HAP
    generalize apOut ⟨ls, o, ss⟩ ⟨f0, f1, f2, f3, f4⟩ = y at *
    obtain ⟨⟨lsN, oN, ssN⟩, rN⟩ := y
    dsimp only at HST HRE
    obtain ⟨x0, x1, x2, x3, x4⟩ := Blk.c5 (uh X3)
    go_wp2_with fail
    refine (uh HAP).mono ?_
    rintro e w4 ⟨rfl, lv2, tp2, sv2, S2, bk4, av4, t4⟩
    dsimp only at bk4
    have hAR : Av (w.heap.size + 1) lv sv S w.heap.size := Classical.byContradiction (fun h => by have := (uh BK3).ge _ h; omega)
    have R4 := Hd ((uh R3).kept t4 (fun h => h hAR))
    have K4 := Hd ((uh K3).trans (t4.below (uh K3).size (fun x hx e => by have := (uh BK3).ge _ e; omega)))
    have OR4 := (uh OR3).kept t4 (fun q hq e => e (uh AV q hq))
    have AV4 := Hd (fun y (hy : rv.ownBlock = some y) => av4 y (((uh OR3).lt y hy).2) (uh AV y hy))
    have BK4 := Hd bk4
    have hw4 : w.heap.size + 1 < w4.heap.size := bk4.1.1
    obtain ⟨i0, hi, hz0, hz1, hz2⟩ := info_parts infoRe
    have bB := bal w4 (.cells #[.int .i64 rN.kd, .int .i64 rN.pl, .string rN.vl] 27)
    have O5 := Hd (OR4.below bB)
    unfold OwnRe at O5
    rw [resA_len] at O5
    have V5 := Hd (Blk.new w4 #[.int .i64 rN.kd, .int .i64 rN.pl, .string rN.vl] 27 w4.heap.size rfl)
    have R5 := Hd ((uh R4).below bB)
    have K5 := hbt K4 bB
    have BK5 := Hd ((uh BK4).below bB)
    have hw5 : w.heap.size + 1 ≤ (w4.alloc (.cells #[.int .i64 rN.kd, .int .i64 rN.pl, .string rN.vl] 27)).heap.size := by simp; omega
    have hnew : Hid (∀ y, (w4.alloc (.cells #[.int .i64 rN.kd, .int .i64 rN.pl, .string rN.vl] 27)).heap.size ≤ y → Av (w.heap.size + 1) lv2 sv2 S2 y) := Hd (fun y hy => (uh BK5).av y hy)
    clear bk4 av4 t4 OR4 bB HAP x0 x1 x2 x3 x4 X3 K3 R3 BK3 OR3 AV BK4 R4 K4
    go_wp2_with (at_builtin; refine wpList_append_row _ rfl _ _ _ rfl (w.heap.size + 1) 27 i0 _ 3 32 Tryz.underlying43 hi hz0 hz1 hz2 rfl (by omega) _ k (resC (resA l k)) rfl (uh O5) _ 1 [.int .i64 rN.kd, .int .i64 rN.pl, .string rN.vl] rfl ⟨_, _, rfl, .inr ⟨_, rfl, blk_rw (uh V5)⟩⟩ rfl (by simp [Value.oneCell']) (by unfold maxLen; omega) (by omega) hw5 ?_; intro a6 c6 w6 hown6 hgrow6 hat6; have HA6 := Hd (And.intro hown6 (And.intro hgrow6 hat6)); clear hown6 hgrow6 hat6)
    obtain ⟨hown6, hgrow6, hat6⟩ := uh HA6
    have T6 := grownR hgrow6
    refine ⟨⟨k + 1, by omega, by go_num, HGN, Hd ⟨?_, ?_, lv2, tp2, sv2, S2, ?_, ?_, ?_⟩⟩, ?_⟩
    ·exact (uh K5).trans (T6.below (uh K5).size (fun x hx e => by have := (World.ownsRow.lt (uh O5) x e).1; omega))
    ·exact (uh R5).kept T6 (fun e => by have := (World.ownsRow.lt (uh O5) _ e).1; omega)
    ·rw [uh HST]
     exact (uh BK5).keep T6 (fun q hq => uh AV4 q hq)
    ·rw [resA_succ, uh HRE]
     unfold OwnRe
     rw [List.length_append, resA_len, resC_app]
     exact hown6
    ·intro y hy
     rcases hat6 with e | e
     ·exact uh AV4 y (e.symm.trans hy)
     ·have e2 := hy.symm.trans e
      exact uh hnew y (by have := Option.some.inj e2; omega)
    ·simp [intOf]; omega
  ·obtain rfl : k = l.length := by omega
   have E := Hd (uh HGD h1 (uh HGO))
   have HLE := Hd (ledger_any (w.heap.size + 1) (w.heap.size + 1) lv sv tp S _ _ _ wr (uh BK) (uh HOK).ok (by omega))
   generalize stA l l.length = x at *
   obtain ⟨ls, o, ss⟩ := x
   dsimp only at HLE
   go_wp2_with fail
   refine (uh HLE).mono ?_
   rintro e w3 ⟨kv, rfl, ho1, ho2, hap, hbo, hb3⟩
   obtain ⟨la, lc, rfl, _⟩ := ho1.strs
   obtain ⟨sa, sc, rfl, _⟩ := ho2.read
   obtain ⟨ka, kc, rfl, _⟩ := hbo.shape
   generalize (brOf o).kids.length = kn at *
   have K3 := hbt K hb3
   have R3 := Hd ((uh R).below hb3)
   have OR3 := Hd ((uh OR).below hb3)
   have ORL := Hd ((uh OR).lt)
   have HO1 := Hd ho1
   have HO2 := Hd ho2
   have HBO := Hd hbo
   have HAP := Hd hap
   have HA : Hid (∀ y, rv.ownBlock = some y → (Value.slice la ls.length lc).ownBlock ≠ some y ∧ (Value.slice sa ss.length sc).ownBlock ≠ some y) := Hd (fun y hy => ⟨(uh AV y hy).2.1, (uh AV y hy).2.2.1⟩)
   have HLL : Hid (∀ y, (Value.slice la ls.length lc).ownBlock = some y → y < wr.heap.size) := Hd (fun y hy => ((uh BK).2.2.1.lt y hy).2)
   have HSL : Hid (∀ y, (Value.slice sa ss.length sc).ownBlock = some y → y < wr.heap.size) := Hd (fun y hy => ((uh BK).2.2.2.1.lt y hy).2)
   have hw3 : w.heap.size < w3.heap.size := (uh R3).1
   clear ho1 ho2 hap hbo hb3 HLE BK AV K R OR
   have RX := uh R3
   obtain ⟨⟨rx0, rx1, rx2, rx3, rx4, rx5⟩, _⟩ := Blk.c6 RX
   have rf0 := RX.fro 0
   have rf1 := RX.fro 1
   have rf2 := RX.fro 2
   have rf3 := RX.fro 3
   have rf4 := RX.fro 4
   have rf5 := RX.fro 5
   have HR9 := Hd ((((((RX.set 0 (.slice la ls.length lc) (by simp)).set 1 (.string (brOf o).key) (by simp)).set 2 (.string (brOf o).val) (by simp)).set 3 (.int .i64 (brOf o).at_) (by simp)).set 4 (.slice ka kn kc) (by simp)).set 5 (.slice sa ss.length sc) (by simp))
   have HT9 := Hd (((((((Touch.refl (fun x => x = w.heap.size) w3).setCell ⟨w.heap.size, 0, none⟩ (.slice la ls.length lc) (fun _ => rfl)).setCell ⟨w.heap.size, 1, none⟩ (.string (brOf o).key) (fun _ => rfl)).setCell ⟨w.heap.size, 2, none⟩ (.string (brOf o).val) (fun _ => rfl)).setCell ⟨w.heap.size, 3, none⟩ (.int .i64 (brOf o).at_) (fun _ => rfl)).setCell ⟨w.heap.size, 4, none⟩ (.slice ka kn kc) (fun _ => rfl)).setCell ⟨w.heap.size, 5, none⟩ (.slice sa ss.length sc) (fun _ => rfl))
   have K9 := Hd ((uh K3).trans ((uh HT9).below (uh K3).size (fun x hx e => by omega)))
   clear RX
   go_wp2_with fail
   have R9 := uh HR9
   obtain ⟨⟨z0, z1, z2, z3, z4, z5⟩, _⟩ := Blk.c6 R9
   refine bodyPost_ret (v := .tuple #[.agg #[.slice la ls.length lc, .string (brOf o).key, .string (brOf o).val, .int .i64 (brOf o).at_, .slice ka kn kc, .slice sa ss.length sc], rv, .int .i64 0]) (by simp [results, Tryz.results10, go_sem, z0, z1, z2, z3, z4, z5]) rfl ?_
   have hT9 := uh HT9
   have hs9 := hT9.size
   refine aa_tell (uh E) ⟨_, _, _, _, rfl, ⟨?_, ?_, uh HAP, ?_, uh HA, _, (uh HBO).touch hT9 (fun x hx e => by have := hx.1; omega), fun y hy => ⟨by have := hy.1; omega, by have := hy.2; omega, fun e => by have := uh HLL y e; have := hy.1; omega, fun e => by have := uh HSL y e; have := hy.1; omega, fun e => by have := (uh ORL y e).2; have := hy.1; omega⟩⟩, uh K9⟩
   ·exact OwnS.down' ((uh HO1).kept hT9 (fun x hx e => by have := ((uh HO1).lt x hx).1; omega)) (by omega)
   ·exact ((uh HO2).kept hT9 (fun x hx e => by have := ((uh HO2).lt x hx).1; omega)).down (by omega)
   ·exact ((uh OR3).kept hT9 (fun x hx e => by have := ((uh OR3).lt x hx).1; omega)).down (by omega)

end Go.Proofs.YtlbcdngidfjogaaGreatDoor.Sha
namespace Go.Proofs.YtlbcdngidfjogaaGreatDoor
set_option maxRecDepth 100000
set_option maxHeartbeats 8000000
open Go.ChangeShapes Go.WideShapes Go.ChangeAt Go.RowKit
set_option linter.unusedVariables false
def cmEq (a b : Cm) : Bool := (a.kd == b.kd) && ((a.ss == b.ss) && ((a.sq == b.sq) && ((a.ky.toList == b.ky.toList) && (a.vl.toList == b.vl.toList))))
theorem bytes_inj {a b : ByteArray} (h : a.toList = b.toList) : a = b := by
 rw [ByteArray.toList_eq, ByteArray.toList_eq] at h
 exact ByteArray.ext (Array.toList_inj.1 h)
theorem cmEq_iff {a b : Cm} : cmEq a b = true ↔ a = b := by
 unfold cmEq
 simp only [Bool.and_eq_true, beq_iff_eq]
 constructor
 ·rintro ⟨h1, h2, h3, h4, h5⟩
  cases a; cases b
  simp only at h1 h2 h3 h4 h5
  rw [h1, h2, h3, bytes_inj h4, bytes_inj h5]
 ·rintro rfl; exact ⟨rfl, rfl, rfl, rfl, rfl⟩
theorem eql_cmd (w : World) (f0 f1 f2 g0 g1 g2 : Int) (f3 f4 g3 g4 : ByteArray) : (binOp .eql 31 (.agg #[.int .i64 f0, .int .i64 f1, .int .i64 f2, .string f3, .string f4]) (.agg #[.int .i64 g0, .int .i64 g1, .int .i64 g2, .string g3, .string g4])).run Tryz.prog w = .ok (.bool (cmEq ⟨f0, f1, f2, f3, f4⟩ ⟨g0, g1, g2, g3, g4⟩)) w := by
 rw [run_eql_struct]
 rw [run_equalIn_struct w 9999 31 _ _ (by kernel_rfl) (by kernel_rfl)]
 simp only [Program.fieldsOf, Tryz.underlying31]
 simp [Op.eqFields, go_sem, cmEq]
 by_cases h0 : f0 = g0 <;> by_cases h1 : f1 = g1 <;> by_cases h2 : f2 = g2 <;> by_cases h3 : f3.toList = g3.toList <;> by_cases h4 : f4.toList = g4.toList <;> simp [h0, h1, h2, h3, h4]
def At (l : List Cm) (c : Cm) (k : Nat) : Prop := k < l.length ∧ l.getD k default = c ∧ ∀ i, i < k → l.getD i default ≠ c
theorem At.uniq {l : List Cm} {c : Cm} {j k : Nat} (h : At l c j) (h' : At l c k) : j = k := by
 rcases Nat.lt_trichotomy j k with e | e | e
 ·exact absurd h.2.1 (h'.2.2 j e)
 ·exact e
 ·exact absurd h'.2.1 (h.2.2 k e)
def No (l : List Cm) (c : Cm) : Prop := ∀ i, i < l.length → l.getD i default ≠ c
theorem indexCm_any (v : Value) (l : List Cm) (c : Cm) (w : World) (h : Css w v l) (hs : l.length ≤ 1048576) :
  Calls Tryz.prog 12 #[v, .agg #[.int .i64 c.kd, .int .i64 c.ss, .int .i64 c.sq, .string c.ky, .string c.vl]] w fun e w' => ((∃ k : Nat, At l c k ∧ e = .returned (.int .i64 (k : Int))) ∨ (No l c ∧ e = .returned (.int .i64 (-1)))) ∧ Below w.heap.size w w' := by
 obtain ⟨a, cap, rfl, hn, hm, hc⟩ := h
 have HC := Hd hc
 have HKey : Hid (∀ x y, cmEq x y = true ↔ x = y) := Hd (fun x y => cmEq_iff)
 clear hc hm hn
 have B0 := Hd (bal w (.cells #[.int .i64 c.kd, .int .i64 c.ss, .int .i64 c.sq, .string c.ky, .string c.vl] 31))
 have X0 := Hd (Blk.new w #[.int .i64 c.kd, .int .i64 c.ss, .int .i64 c.sq, .string c.ky, .string c.vl] 31 w.heap.size rfl)
 obtain ⟨c0, c1, c2, c3, c4⟩ := c
 dsimp only at B0 X0 ⊢
 go_enter Tryz.func12, Tryz.ntmps12
 go_upto_region 1 with fail
 generalize w.alloc (.cells #[.int .i64 c0, .int .i64 c1, .int .i64 c2, .string c3, .string c4] 31) = w0 at *
 go_wp2_with fail
 go_loopw [8] (fun i wr => ∃ k : Nat, k ≤ l.length ∧ i = .int .i64 k ∧ Hid (∀ j, j < k → l.getD j default ≠ ⟨c0, c1, c2, c3, c4⟩) ∧ Hid (Below w0.heap.size w0 wr)) (fun i _ => l.length - (intOf i).toNat)
 case atStart => exact ⟨0, Nat.zero_le _, rfl, Hd (fun j hj => absurd hj (Nat.not_lt_zero _)), Hd (Below.refl _ _)⟩
 case round =>
  obtain ⟨k, hk, rfl, HGO, HB⟩ := hrel
  have BW := Hd ((uh B0).trans ((uh HB).mono (uh B0).size))
  by_cases hlt : k < l.length
  ·obtain ⟨b, off, rfl, hbl, hsrc⟩ : ∃ b off, a = some ⟨b, off, none⟩ ∧ b < w.heap.size ∧ ∀ i, i < l.length → w.cell? ⟨b, off + i * 5, none⟩ = some (.int .i64 (l.getD i default).kd) ∧ w.cell? ⟨b, off + i * 5 + 1, none⟩ = some (.int .i64 (l.getD i default).ss) ∧ w.cell? ⟨b, off + i * 5 + 2, none⟩ = some (.int .i64 (l.getD i default).sq) ∧ w.cell? ⟨b, off + i * 5 + 3, none⟩ = some (.string (l.getD i default).ky) ∧ w.cell? ⟨b, off + i * 5 + 4, none⟩ = some (.string (l.getD i default).vl) := by
    rcases uh HC with h0 | h1
    ·omega
    ·exact h1
   obtain ⟨s0, s1, s2, s3, s4⟩ := hsrc k hlt
   have d0 := ((uh BW).cell (p := ⟨b, off + k * 5, none⟩) hbl).trans s0
   have d1 := ((uh BW).cell (p := ⟨b, off + k * 5 + 1, none⟩) hbl).trans s1
   have d2 := ((uh BW).cell (p := ⟨b, off + k * 5 + 2, none⟩) hbl).trans s2
   have d3 := ((uh BW).cell (p := ⟨b, off + k * 5 + 3, none⟩) hbl).trans s3
   have d4 := ((uh BW).cell (p := ⟨b, off + k * 5 + 4, none⟩) hbl).trans s4
   have X1 := (uh X0).below (uh HB)
   obtain ⟨x0, x1, x2, x3, x4⟩ := Blk.c5 X1
   have hk0 : (0 : Int) ≤ (k : Int) := by omega
   have hk1 : (k : Int) < (l.length : Int) := by omega
   have m2 : IntKind.i64.wrap ((k : Int) + 1) = (k : Int) + 1 := wrapCm _ (by omega) (by omega)
   obtain ⟨f, hf⟩ : ∃ f, f = l.getD k default := ⟨_, rfl⟩
   rw [← hf] at d0 d1 d2 d3 d4
   have HF := Hd hf
   clear hsrc s0 s1 s2 s3 s4 hf X1
   obtain ⟨f0, f1, f2, f3, f4⟩ := f
   dsimp only at d0 d1 d2 d3 d4
   have q1 := fun wx => eql_cmd wx c0 c1 c2 f0 f1 f2 c3 c4 f3 f4
   have q3 : Tryz.prog.eqGuardType Tryz.prog.depth 31 = false := by kernel_rfl
   go_wp2_with fail
   cases hq : cmEq ⟨c0, c1, c2, c3, c4⟩ ⟨f0, f1, f2, f3, f4⟩
   ·have HN := Hd (show ∀ j, j < k + 1 → l.getD j default ≠ ⟨c0, c1, c2, c3, c4⟩ from fun j hj e => by
     by_cases ej : j = k
     ·rw [ej, ← uh HF] at e
      have := (uh HKey _ _).2 e.symm
      rw [hq] at this
      cases this
     ·exact uh HGO j (by omega) e)
    go_quiet (fail)
    go_wp2_with fail
    refine ⟨⟨k + 1, by omega, by go_num, HN, Hd (below_drewN (uh HB) _)⟩, ?_⟩
    simp [intOf]; omega
   ·have HE := Hd ((uh HKey _ _).1 hq)
    go_quiet (fail)
    go_wp2_with fail
    go_ret
    exact ⟨.inl ⟨k, ⟨hlt, by rw [← uh HF, uh HE], uh HGO⟩, rfl⟩, below_drewN (uh BW) _⟩
  ·obtain rfl : k = l.length := by omega
   go_wp2_with fail
   go_ret
   exact ⟨.inr ⟨uh HGO, rfl⟩, uh BW⟩
end Go.Proofs.YtlbcdngidfjogaaGreatDoor
