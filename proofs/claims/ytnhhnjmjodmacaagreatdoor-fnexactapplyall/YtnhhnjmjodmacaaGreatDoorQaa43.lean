/- What the proof of the claim needs (joined by program): AqT. -/
import Derived.Test.YtnhhnjmjodmacaaGreatDoorQaa42
import Derived.Test.YtnhhnjmjodmacaaGreatDoorQaa40
import Derived.Test.YtnhhnjmjodmacaaGreatDoorQaa01
import Derived.Test.YtnhhnjmjodmacaaGreatDoorQaa26
import Derived.Deep.DeepCutAuto
namespace Go.Proofs.YtnhhnjmjodmacaaGreatDoor.Sha
set_option maxRecDepth 100000
set_option maxHeartbeats 8000000
open Go.ChangeShapes Go.WideShapes Go.ChangeAt Go.RowKit Go.Deep
set_option linter.unusedVariables false
set_option linter.unusedSimpArgs false
def AsI (w : World) (lb : Nat) (l : List Cm) (k : Nat) (rv : Value) (wr : World) : Prop :=
 Below w.heap.size w wr ∧ Blk wr w.heap.size [.slice none 0 0, .string ⟨#[]⟩, .string ⟨#[]⟩, .int .i64 0, .slice none 0 0, .slice none 0 0] ∧ w.heap.size < lb ∧ OwnRe (lb + 1) wr rv (resA l k) ∧ ∃ lv kv sv, Blk wr lb (ledC (stA l k) lv kv sv) ∧ LedB (fun x => x = w.heap.size ∨ x = lb ∨ rv.ownBlock = some x) wr (stA l k) lv kv sv
theorem specApplyAll_any (v : Value) (l : List Cm) (w : World) (h : Css w v l) (hs : l.length ≤ 1048576) (hz : ∀ i, i < l.length → (l.getD i default).ky.size ≤ maxLen ∧ (l.getD i default).vl.size ≤ maxLen) :
  Calls Tryz.prog 17 #[v] w fun e w' => AaE w (aaO l) e w' := by
 have HL := Hd (fun hx => aaO_long (l := l) hx)
 have HM := Hd (fun hx hy => aaO_many (l := l) hx hy)
 have HB := Hd (fun hx hy => aaO_bad (l := l) hx hy)
 have HGD := Hd (fun hx hy => aaO_good (l := l) hx hy)
 have HZ := Hd hz
 clear hz
 generalize aaO l = out at *
 obtain ⟨a, cap, rfl, hn, hm, hc⟩ := h
 have HC := Hd hc
 clear hc hm hn
 have B0 := Hd (bal w (.cells #[.slice none 0 0, .string ⟨#[]⟩, .string ⟨#[]⟩, .int .i64 0, .slice none 0 0, .slice none 0 0] 38))
 have R0 := Hd (Blk.new w #[.slice none 0 0, .string ⟨#[]⟩, .string ⟨#[]⟩, .int .i64 0, .slice none 0 0, .slice none 0 0] 38 w.heap.size rfl)
 go_enter Tryz.func17, Tryz.ntmps17
 go_upto_region 1 with fail
 generalize w.alloc (.cells #[.slice none 0 0, .string ⟨#[]⟩, .string ⟨#[]⟩, .int .i64 0, .slice none 0 0, .slice none 0 0] 38) = w0 at *
 have hw0 : w.heap.size < w0.heap.size := (uh R0).1
 by_cases h4 : 4096 < l.length
 ·have hi4 : (4096 : Int) < (l.length : Int) := by omega
  have E := Hd (uh HL h4)
  obtain ⟨⟨qx0, qx1, qx2, qx3, qx4, qx5⟩, qf0, qf1, qf2, qf3, qf4, qf5⟩ := Blk.c6 (uh R0)
  have hRl := (uh R0).1
  have HR9 := Hd ((st6 (uh R0) (.slice none 0 0) (.string ⟨#[]⟩) (.string ⟨#[]⟩) (.int .i64 0) (.slice none 0 0) (.slice none 0 0)).alloc (.cells #[] 40))
  have hT9 := tc6 (Touch.refl (fun x => x = w.heap.size) w0) w.heap.size rfl (.slice none 0 0) (.string ⟨#[]⟩) (.string ⟨#[]⟩) (.int .i64 0) (.slice none 0 0) (.slice none 0 0)
  have hsz9 : (set6 w0 w.heap.size (.slice none 0 0) (.string ⟨#[]⟩) (.string ⟨#[]⟩) (.int .i64 0) (.slice none 0 0) (.slice none 0 0)).heap.size = w0.heap.size := by simp [set6]
  have K8 := (uh B0).trans (hT9.below (uh B0).size (fun x hx e => by omega))
  have K9 := Hd (K8.alloc K8.size (.cells #[] 40))
  have OE := Hd (show ((set6 w0 w.heap.size (.slice none 0 0) (.string ⟨#[]⟩) (.string ⟨#[]⟩) (.int .i64 0) (.slice none 0 0) (.slice none 0 0)).alloc (.cells #[] 40)).ownsRow w0.heap.size 40 3 (.slice (some ⟨w0.heap.size, 0, none⟩) 0 0) 0 [] from by
   have h8 := World.ownsRow_made (base := w0.heap.size) (e := 40) (size := 3) (set6 w0 w.heap.size (.slice none 0 0) (.string ⟨#[]⟩) (.string ⟨#[]⟩) (.int .i64 0) (.slice none 0 0) (.slice none 0 0)) #[] 0 (by rw [hsz9]; exact Nat.le_refl _) (by unfold maxLen; omega) rfl
   rw [hsz9] at h8
   exact h8)
  clear hT9 K8 hsz9
  go_wp2_with fail
  obtain ⟨⟨z0, z1, z2, z3, z4, z5⟩, _⟩ := Blk.c6 (uh HR9)
  refine bodyPost_ret (v := .tuple #[.agg #[.slice none 0 0, .string ⟨#[]⟩, .string ⟨#[]⟩, .int .i64 0, .slice none 0 0, .slice none 0 0], .slice (some ⟨w0.heap.size, 0, none⟩) 0 0, .int .i64 2]) (by simp [results, Tryz.results17, go_sem, z0, z1, z2, z3, z4, z5]) rfl ?_
  refine aa_tell (uh E) ⟨_, _, _, _, rfl, ⟨OwnS.nil _ _, OwnSe.nil _ _, (fun y h => by cases h), OwnRe.down (uh OE) (uh B0).size, (fun y h => ⟨by simp [Value.ownBlock], by simp [Value.ownBlock]⟩), fun _ => False, .nil _ none 0 (by unfold maxLen; omega), fun y h => h.elim⟩, uh K9⟩
 by_cases h1 : 120 < l.length
 ·have hi4 : ¬ (4096 : Int) < (l.length : Int) := by omega
  have hi1 : (120 : Int) < (l.length : Int) := by omega
  have E := Hd (uh HM h4 h1)
  obtain ⟨⟨qx0, qx1, qx2, qx3, qx4, qx5⟩, qf0, qf1, qf2, qf3, qf4, qf5⟩ := Blk.c6 (uh R0)
  have hRl := (uh R0).1
  have HR9 := Hd ((st6 (uh R0) (.slice none 0 0) (.string ⟨#[]⟩) (.string ⟨#[]⟩) (.int .i64 0) (.slice none 0 0) (.slice none 0 0)).alloc (.cells #[] 40))
  have hT9 := tc6 (Touch.refl (fun x => x = w.heap.size) w0) w.heap.size rfl (.slice none 0 0) (.string ⟨#[]⟩) (.string ⟨#[]⟩) (.int .i64 0) (.slice none 0 0) (.slice none 0 0)
  have hsz9 : (set6 w0 w.heap.size (.slice none 0 0) (.string ⟨#[]⟩) (.string ⟨#[]⟩) (.int .i64 0) (.slice none 0 0) (.slice none 0 0)).heap.size = w0.heap.size := by simp [set6]
  have K8 := (uh B0).trans (hT9.below (uh B0).size (fun x hx e => by omega))
  have K9 := Hd (K8.alloc K8.size (.cells #[] 40))
  have OE := Hd (show ((set6 w0 w.heap.size (.slice none 0 0) (.string ⟨#[]⟩) (.string ⟨#[]⟩) (.int .i64 0) (.slice none 0 0) (.slice none 0 0)).alloc (.cells #[] 40)).ownsRow w0.heap.size 40 3 (.slice (some ⟨w0.heap.size, 0, none⟩) 0 0) 0 [] from by
   have h8 := World.ownsRow_made (base := w0.heap.size) (e := 40) (size := 3) (set6 w0 w.heap.size (.slice none 0 0) (.string ⟨#[]⟩) (.string ⟨#[]⟩) (.int .i64 0) (.slice none 0 0) (.slice none 0 0)) #[] 0 (by rw [hsz9]; exact Nat.le_refl _) (by unfold maxLen; omega) rfl
   rw [hsz9] at h8
   exact h8)
  clear hT9 K8 hsz9
  go_wp2_with fail
  obtain ⟨⟨z0, z1, z2, z3, z4, z5⟩, _⟩ := Blk.c6 (uh HR9)
  refine bodyPost_ret (v := .tuple #[.agg #[.slice none 0 0, .string ⟨#[]⟩, .string ⟨#[]⟩, .int .i64 0, .slice none 0 0, .slice none 0 0], .slice (some ⟨w0.heap.size, 0, none⟩) 0 0, .int .i64 6]) (by simp [results, Tryz.results17, go_sem, z0, z1, z2, z3, z4, z5]) rfl ?_
  refine aa_tell (uh E) ⟨_, _, _, _, rfl, ⟨OwnS.nil _ _, OwnSe.nil _ _, (fun y h => by cases h), OwnRe.down (uh OE) (uh B0).size, (fun y h => ⟨by simp [Value.ownBlock], by simp [Value.ownBlock]⟩), fun _ => False, .nil _ none 0 (by unfold maxLen; omega), fun y h => h.elim⟩, uh K9⟩
 have hi4 : ¬ (4096 : Int) < (l.length : Int) := by omega
 have hi1 : ¬ (120 : Int) < (l.length : Int) := by omega
 have bA := bal w0 (.cells #[.slice none 0 0, .string ⟨#[]⟩, .string ⟨#[]⟩, .int .i64 0, .slice none 0 0, .slice none 0 0] 38)
 have bB := bA.alloc (by simp) (.cells #[] 40)
 have hlb : w.heap.size < w0.heap.size := hw0
 have OE0 : OwnRe (w0.heap.size + 1) ((w0.alloc (.cells #[.slice none 0 0, .string ⟨#[]⟩, .string ⟨#[]⟩, .int .i64 0, .slice none 0 0, .slice none 0 0] 38)).alloc (.cells #[] 40)) (.slice (some ⟨w0.heap.size + 1, 0, none⟩) 0 0) (resA l 0) := by
  have h8 := World.ownsRow_made (base := w0.heap.size + 1) (e := 40) (size := 3) (w0.alloc (.cells #[.slice none 0 0, .string ⟨#[]⟩, .string ⟨#[]⟩, .int .i64 0, .slice none 0 0, .slice none 0 0] 38)) #[] 0 (by simp) (by unfold maxLen; omega) rfl
  have h9 : (w0.alloc (.cells #[.slice none 0 0, .string ⟨#[]⟩, .string ⟨#[]⟩, .int .i64 0, .slice none 0 0, .slice none 0 0] 38)).heap.size = w0.heap.size + 1 := by simp
  rw [h9] at h8
  exact h8
 have I0 : Hid (AsI w w0.heap.size l 0 (.slice (some ⟨w0.heap.size + 1, 0, none⟩) 0 0) ((w0.alloc (.cells #[.slice none 0 0, .string ⟨#[]⟩, .string ⟨#[]⟩, .int .i64 0, .slice none 0 0, .slice none 0 0] 38)).alloc (.cells #[] 40))) := Hd ⟨(uh B0).trans (bB.mono (uh B0).size), (uh R0).below bB, hlb, OE0, .slice none 0 0, .slice none 0 0, .slice none 0 0, (Blk.new w0 #[.slice none 0 0, .string ⟨#[]⟩, .string ⟨#[]⟩, .int .i64 0, .slice none 0 0, .slice none 0 0] 38 w0.heap.size rfl).alloc (.cells #[] 40), LedB.nil _ _⟩
 clear bA bB B0 R0 HL HM OE0
 go_upto_region 7 with fail
 generalize (w0.alloc (.cells #[.slice none 0 0, .string ⟨#[]⟩, .string ⟨#[]⟩, .int .i64 0, .slice none 0 0, .slice none 0 0] 38)).alloc (.cells #[] 40) = w1 at *
 obtain ⟨lb, hlbe⟩ : ∃ lb, lb = w0.heap.size := ⟨_, rfl⟩
 rw [← hlbe] at I0 hlb ⊢
 clear hlbe hw0
 go_wp2_with fail
 go_loopw [6, 7] (fun rv i wr => ∃ k : Nat, k ≤ l.length ∧ i = .int .i64 k ∧ Hid (∀ j, j < k → cmK (l.getD j default) = true) ∧ Hid (AsI w lb l k rv wr)) (fun _ i _ => l.length - (intOf i).toNat)
 case atStart => exact ⟨0, Nat.zero_le _, rfl, Hd (fun j hj => absurd hj (Nat.not_lt_zero _)), I0⟩
 case round =>
  obtain ⟨k, hk, rfl, HGO, HI⟩ := hrel
  clear I0
  obtain ⟨rv0, hrv⟩ : ∃ rv0, rv0 = u6 := ⟨_, rfl⟩
  subst hrv
  obtain ⟨K0, R0, _, OR0, lv, kv, sv, L0, LB0⟩ := uh HI
  have K := Hd K0
  have R := Hd R0
  have OR := Hd OR0
  have L := Hd L0
  have HOK := Hd (stA_ok (l := l) k (uh HGO))
  obtain ⟨la, lc, ka, kn, kc, sa, sc, rfl, rfl, rfl⟩ := LB0.shape
  have LBx := Hd LB0
  obtain ⟨ra, rc, hrvs⟩ : ∃ ra rc, rv0 = .slice ra k rc := by
   obtain ⟨ra, rc, e, _⟩ := OR0.read
   rw [resA_len] at e
   exact ⟨ra, rc, e⟩
  subst hrvs
  have HTl0 : Hid (∀ x, (x = w.heap.size ∨ x = lb ∨ (Value.slice ra k rc).ownBlock = some x) → x < wr.heap.size) := Hd (fun x hx => by
   rcases hx with rfl | rfl | e
   ·exact R0.1
   ·exact L0.1
   ·exact (OR0.lt x e).2)
  have HRO := Hd (fun x (hx : (Value.slice ra k rc).ownBlock = some x) => (OR0.lt x hx).1)
  clear HI K0 R0 OR0 L0 LB0
  by_cases hlt : k < l.length
  ·obtain ⟨b, off, rfl, hbl, hsrc⟩ : ∃ b off, a = some ⟨b, off, none⟩ ∧ b < w.heap.size ∧ ∀ i, i < l.length → w.cell? ⟨b, off + i * 5, none⟩ = some (.int .i64 (l.getD i default).kd) ∧ w.cell? ⟨b, off + i * 5 + 1, none⟩ = some (.int .i64 (l.getD i default).ss) ∧ w.cell? ⟨b, off + i * 5 + 2, none⟩ = some (.int .i64 (l.getD i default).sq) ∧ w.cell? ⟨b, off + i * 5 + 3, none⟩ = some (.string (l.getD i default).ky) ∧ w.cell? ⟨b, off + i * 5 + 4, none⟩ = some (.string (l.getD i default).vl) := by
    rcases uh HC with h0 | h1
    ·omega
    ·exact h1
   obtain ⟨s0, s1, s2, s3, s4⟩ := hsrc k hlt
   have d0 := ((uh K).cell (p := ⟨b, off + k * 5, none⟩) hbl).trans s0
   have d1 := ((uh K).cell (p := ⟨b, off + k * 5 + 1, none⟩) hbl).trans s1
   have d2 := ((uh K).cell (p := ⟨b, off + k * 5 + 2, none⟩) hbl).trans s2
   have d3 := ((uh K).cell (p := ⟨b, off + k * 5 + 3, none⟩) hbl).trans s3
   have d4 := ((uh K).cell (p := ⟨b, off + k * 5 + 4, none⟩) hbl).trans s4
   have hk0 : (0 : Int) ≤ (k : Int) := by omega
   have hk1 : (k : Int) < (l.length : Int) := by omega
   have m2 : IntKind.i64.wrap ((k : Int) + 1) = (k : Int) + 1 := wrapCm _ (by omega) (by omega)
   have hzk := uh HZ k hlt
   have HST : Hid (stA l (k + 1) = (apOut (stA l k) (l.getD k default)).1) := Hd rfl
   have HRE : Hid (reA l k = (apOut (stA l k) (l.getD k default)).2) := Hd rfl
   have HBD := Hd (fun e => uh HB h1 ⟨k, hlt, e⟩)
   have HGN := Hd (fun (e : cmK (l.getD k default) = true) => show ∀ j, j < k + 1 → cmK (l.getD j default) = true from fun j hj => by
     by_cases q : j = k
     ·rw [q]; exact e
     ·exact uh HGO j (by omega))
   obtain ⟨f, hf⟩ : ∃ f, f = l.getD k default := ⟨_, rfl⟩
   rw [← hf] at d0 d1 d2 d3 d4 HST HRE HBD HGN hzk
   clear hf hsrc s0 s1 s2 s3 s4
   obtain ⟨f0, f1, f2, f3, f4⟩ := f
   dsimp only at d0 d1 d2 d3 d4 hzk
   have HCO := Hd (fun wx => specCommandOK_any f0 f1 f2 f3 f4 wx hzk.1 hzk.2)
   have hck : cmdOK f0 f1 f2 f3 f4 = cmK ⟨f0, f1, f2, f3, f4⟩ := rfl
   rw [hck] at HCO
   clear hck hzk
   have HC2 := Hd (uh HCO wr)
   have hbr0 : b < wr.heap.size := Nat.lt_of_lt_of_le hbl (uh K).size
   clear HCO
   cases hq : cmK ⟨f0, f1, f2, f3, f4⟩
   ·rw [hq] at HC2
    have E := Hd (uh HBD hq)
    clear hq HGN HST HRE
    go_wp2_with fail
    refine (uh HC2).mono ?_
    rintro e w3 ⟨rfl, hb3⟩
    have K3 := hbt K hb3
    have R3 := Hd ((uh R).below hb3)
    have hw3 : w.heap.size < w3.heap.size := (uh R3).1
    clear hb3 HC2 d0 d1 d2 d3 d4 K R L LBx OR
    obtain ⟨⟨qx0, qx1, qx2, qx3, qx4, qx5⟩, qf0, qf1, qf2, qf3, qf4, qf5⟩ := Blk.c6 (uh R3)
    have hRl := (uh R3).1
    have HR9 := Hd ((st6 (uh R3) (.slice none 0 0) (.string ⟨#[]⟩) (.string ⟨#[]⟩) (.int .i64 0) (.slice none 0 0) (.slice none 0 0)).alloc (.cells #[] 40))
    have hT9 := tc6 (Touch.refl (fun x => x = w.heap.size) w3) w.heap.size rfl (.slice none 0 0) (.string ⟨#[]⟩) (.string ⟨#[]⟩) (.int .i64 0) (.slice none 0 0) (.slice none 0 0)
    have hsz9 : (set6 w3 w.heap.size (.slice none 0 0) (.string ⟨#[]⟩) (.string ⟨#[]⟩) (.int .i64 0) (.slice none 0 0) (.slice none 0 0)).heap.size = w3.heap.size := by simp [set6]
    have K8 := (uh K3).trans (hT9.below (uh K3).size (fun x hx e => by omega))
    have K9 := Hd (K8.alloc K8.size (.cells #[] 40))
    have OE := Hd (show ((set6 w3 w.heap.size (.slice none 0 0) (.string ⟨#[]⟩) (.string ⟨#[]⟩) (.int .i64 0) (.slice none 0 0) (.slice none 0 0)).alloc (.cells #[] 40)).ownsRow w3.heap.size 40 3 (.slice (some ⟨w3.heap.size, 0, none⟩) 0 0) 0 [] from by
     have h8 := World.ownsRow_made (base := w3.heap.size) (e := 40) (size := 3) (set6 w3 w.heap.size (.slice none 0 0) (.string ⟨#[]⟩) (.string ⟨#[]⟩) (.int .i64 0) (.slice none 0 0) (.slice none 0 0)) #[] 0 (by rw [hsz9]; exact Nat.le_refl _) (by unfold maxLen; omega) rfl
     rw [hsz9] at h8
     exact h8)
    clear hT9 K8 hsz9
    go_wp2_with fail
    obtain ⟨⟨z0, z1, z2, z3, z4, z5⟩, _⟩ := Blk.c6 (uh HR9)
    refine bodyPost_ret (v := .tuple #[.agg #[.slice none 0 0, .string ⟨#[]⟩, .string ⟨#[]⟩, .int .i64 0, .slice none 0 0, .slice none 0 0], .slice (some ⟨w3.heap.size, 0, none⟩) 0 0, .int .i64 1]) (by simp [results, Tryz.results17, go_sem, z0, z1, z2, z3, z4, z5]) rfl ?_
    refine aa_tell (uh E) ⟨_, _, _, _, rfl, ⟨OwnS.nil _ _, OwnSe.nil _ _, (fun y h => by cases h), OwnRe.down (uh OE) (uh K3).size, (fun y h => ⟨by simp [Value.ownBlock], by simp [Value.ownBlock]⟩), fun _ => False, .nil _ none 0 (by unfold maxLen; omega), fun y h => h.elim⟩, uh K9⟩
   ·rw [hq] at HC2
    replace HGN := Hd (uh HGN hq)
    have HCK := Hd hq
    clear hq HBD
    go_wp2_with fail
    refine (uh HC2).mono ?_
    rintro e w3 ⟨rfl, hb3⟩
    replace K := hbt K hb3
    replace R := Hd ((uh R).below hb3)
    replace OR := Hd ((uh OR).below hb3)
    replace L := Hd ((uh L).below hb3)
    replace LBx := Hd ((uh LBx).below hb3)
    replace d0 := (hb3.cell (p := ⟨b, off + k * 5, none⟩) hbr0).trans d0
    replace d1 := (hb3.cell (p := ⟨b, off + k * 5 + 1, none⟩) hbr0).trans d1
    replace d2 := (hb3.cell (p := ⟨b, off + k * 5 + 2, none⟩) hbr0).trans d2
    replace d3 := (hb3.cell (p := ⟨b, off + k * 5 + 3, none⟩) hbr0).trans d3
    replace d4 := (hb3.cell (p := ⟨b, off + k * 5 + 4, none⟩) hbr0).trans d4
    have hbw : b < w3.heap.size := Nat.lt_of_lt_of_le hbr0 hb3.size
    have HTl : Hid (∀ x, (x = w.heap.size ∨ x = lb ∨ (Value.slice ra k rc).ownBlock = some x) → x < w3.heap.size) := Hd (fun x hx => Nat.lt_of_lt_of_le (uh HTl0 x hx) hb3.size)
    clear hb3 HC2 HTl0 hbr0
    have hlbw : lb < w3.heap.size := (uh L).1
    have hlb' : lb < w3.heap.size := hlbw
    generalize stA l k = x at *
    obtain ⟨ls, o, ss⟩ := x
    have HCA := Hd (fun (T : Nat → Prop) wx (h : LedB T wx ⟨ls, o, ss⟩ (.slice la ls.length lc) (.slice ka kn kc) (.slice sa ss.length sc)) => l09Apply_any ls o ss la ka sa lc kn kc sc ⟨f0, f1, f2, f3, f4⟩ wx (fun x => ¬ T x ∧ x < wx.heap.size) (fun x h9 => h9.2) h.s h.b.boundS h.e (uh HOK) (uh HCK))
    dsimp only at HCA
    generalize apOut ⟨ls, o, ss⟩ ⟨f0, f1, f2, f3, f4⟩ = y at *
    obtain ⟨⟨lsN, oN, ssN⟩, rN⟩ := y
    dsimp only at HST HRE
    obtain ⟨ro, hro⟩ : ∃ ro, ro = (Value.slice ra k rc).ownBlock := ⟨_, rfl⟩
    rw [← hro] at LBx HTl HRO
    have HROE := Hd hro
    clear hro
    obtain ⟨⟨x0, x1, x2, x3, x4, x5⟩, _⟩ := Blk.c6 (uh L)
    dsimp only at x0 x1 x2 x3 x4 x5
    clear HOK HCK
    go_upto_region 12 with fail
    go_cut [8, 9] (fun s9 s10 wx => ∃ nb rv lv kv sv, s9 = .pointer (some ⟨nb, 0, none⟩) ∧ s10 = .pointer (some ⟨rv, 0, none⟩) ∧ Hid (AnG (fun x => x = w.heap.size ∨ x = lb ∨ ro = some x) w3 nb rv (⟨lsN, oN, ssN⟩, rN) lv kv sv wx))
    case first =>
     clear hlb
     have hlb := hlbw
     refine wp_region_noPanic ?_
     refine wp_region_held_drew (S := (fun wx => wx.cell? ⟨lb, 0, none⟩ = some (.slice la ls.length lc) ∧ wx.cell? ⟨lb, 1, none⟩ = some (.string (brOf o).key) ∧ wx.cell? ⟨lb, 2, none⟩ = some (.string (brOf o).val) ∧ wx.cell? ⟨lb, 3, none⟩ = some (.int .i64 (brOf o).at_) ∧ wx.cell? ⟨lb, 4, none⟩ = some (.slice ka kn kc) ∧ wx.cell? ⟨lb, 5, none⟩ = some (.slice sa ss.length sc) ∧ wx.cell? ⟨b, off + k * 5, none⟩ = some (.int .i64 f0) ∧ wx.cell? ⟨b, off + k * 5 + 1, none⟩ = some (.int .i64 f1) ∧ wx.cell? ⟨b, off + k * 5 + 2, none⟩ = some (.int .i64 f2) ∧ wx.cell? ⟨b, off + k * 5 + 3, none⟩ = some (.string f3) ∧ wx.cell? ⟨b, off + k * 5 + 4, none⟩ = some (.string f4))) (by kernel_rfl) ?_ (fun hHeld => ?_)
     ·exact ⟨x0, x1, x2, x3, x4, x5, d0, d1, d2, d3, d4⟩
     refine tkH 0 rfl ?_
     refine tkH 1 rfl ?_
     refine tkH 2 rfl ?_
     refine tkH 3 rfl ?_
     refine tkH 4 rfl ?_
     have HBx := Hd (below_drewN (Below.refl w3.heap.size w3) 1)
     change Hid (Below w3.heap.size w3 w3.drew) at HBx
     have hdr := uh HBx
     replace LBx := Hd ((uh LBx).below hdr)
     clear hdr
     generalize w3.drew = y0 at *
     refine rdy3 5 9 10 rfl rfl rfl (fun K hK => ?_) (fun K hK => ?_) (fun K hK => ?_)
     ·go_simp
      refine (uh HCA _ y0 (uh LBx)).mono ?_
      rintro e y1 ⟨lv2, kv2, sv2, rfl, hs2, hb2, he2, hbs, fl2, fs2⟩
      dsimp only at hs2 hb2 he2
      replace LBx := Hd ((uh LBx).next2 (y := ⟨lsN, oN, ssN⟩) hs2 hb2 he2 fl2 fs2 (fun k hk => by exact Nat.lt_of_lt_of_le (uh HTl k hk) (uh HBx).size))
      obtain ⟨la2, lc2, ka2, kn2, kc2, sa2, sc2, rfl, rfl, rfl⟩ := (uh LBx).shape
      dsimp only
      clear hs2 hb2 he2 fl2 fs2
      replace HBx := hbt HBx hbs
      have hbX := uh HBx
      go_wp2_with fail
      refine outH hK ?_ (fun hHeld => ?_)
      ·exact ⟨(hbX.cell (p := ⟨lb, 0, none⟩) hlb).trans x0, (hbX.cell (p := ⟨lb, 1, none⟩) hlb).trans x1, (hbX.cell (p := ⟨lb, 2, none⟩) hlb).trans x2, (hbX.cell (p := ⟨lb, 3, none⟩) hlb).trans x3, (hbX.cell (p := ⟨lb, 4, none⟩) hlb).trans x4, (hbX.cell (p := ⟨lb, 5, none⟩) hlb).trans x5, (hbX.cell (p := ⟨b, off + k * 5, none⟩) hbw).trans d0, (hbX.cell (p := ⟨b, off + k * 5 + 1, none⟩) hbw).trans d1, (hbX.cell (p := ⟨b, off + k * 5 + 2, none⟩) hbw).trans d2, (hbX.cell (p := ⟨b, off + k * 5 + 3, none⟩) hbw).trans d3, (hbX.cell (p := ⟨b, off + k * 5 + 4, none⟩) hbw).trans d4⟩
      clear hK K
      clear hbX hbs
      refine tkH 6 rfl ?_
      refine tkH 7 rfl ?_
      refine tkH 8 rfl ?_
      refine rdy2 9 10 rfl rfl (fun K hK => ?_) (fun K hK => ?_)
      ·go_simp
       have hbs := bal y1 (.cells #[.slice none 0 0, .string ⟨#[]⟩, .string ⟨#[]⟩, .int .i64 0, .slice none 0 0, .slice none 0 0] 38)
       replace LBx := Hd (((uh LBx).up.mono (T' := fun x => ((x = w.heap.size ∨ x = lb ∨ ro = some x) ∨ x = y1.heap.size)) (fun x hx => hx.imp id (fun e => by omega))).below hbs)
       have N := Hd (Blk.new y1 #[.slice none 0 0, .string ⟨#[]⟩, .string ⟨#[]⟩, .int .i64 0, .slice none 0 0, .slice none 0 0] 38 y1.heap.size rfl)
       have hnb : w3.heap.size ≤ y1.heap.size := (uh HBx).size
       replace HBx := hbt HBx hbs
       have hbX := uh HBx
       refine outH hK ?_ (fun hHeld => ?_)
       ·exact ⟨(hbX.cell (p := ⟨lb, 0, none⟩) hlb).trans x0, (hbX.cell (p := ⟨lb, 1, none⟩) hlb).trans x1, (hbX.cell (p := ⟨lb, 2, none⟩) hlb).trans x2, (hbX.cell (p := ⟨lb, 3, none⟩) hlb).trans x3, (hbX.cell (p := ⟨lb, 4, none⟩) hlb).trans x4, (hbX.cell (p := ⟨lb, 5, none⟩) hlb).trans x5, (hbX.cell (p := ⟨b, off + k * 5, none⟩) hbw).trans d0, (hbX.cell (p := ⟨b, off + k * 5 + 1, none⟩) hbw).trans d1, (hbX.cell (p := ⟨b, off + k * 5 + 2, none⟩) hbw).trans d2, (hbX.cell (p := ⟨b, off + k * 5 + 3, none⟩) hbw).trans d3, (hbX.cell (p := ⟨b, off + k * 5 + 4, none⟩) hbw).trans d4⟩
       clear hK K
       clear hbX hbs
       generalize y1.alloc (.cells #[.slice none 0 0, .string ⟨#[]⟩, .string ⟨#[]⟩, .int .i64 0, .slice none 0 0, .slice none 0 0] 38) = y2 at *
       generalize y1.heap.size = nb at *
       refine rdy1 10 rfl (fun K hK => ?_)
       go_simp
       have hbs := bal y2 (.cells #[.int .i64 0, .int .i64 0, .string ⟨#[]⟩] 40)
       replace LBx := Hd (((uh LBx).up.mono (T' := fun x => (((x = w.heap.size ∨ x = lb ∨ ro = some x) ∨ x = nb) ∨ x = y2.heap.size)) (fun x hx => hx.imp id (fun e => by omega))).below hbs)
       have V := Hd (Blk.new y2 #[.int .i64 0, .int .i64 0, .string ⟨#[]⟩] 40 y2.heap.size rfl)
       have hrv : w3.heap.size ≤ y2.heap.size := (uh HBx).size
       have hne : nb ≠ y2.heap.size := by have := (uh N).1; omega
       replace HBx := hbt HBx hbs
       replace N := Hd ((uh N).below hbs)
       have hbX := uh HBx
       refine outH hK ?_ (fun hHeld => ?_)
       ·exact ⟨(hbX.cell (p := ⟨lb, 0, none⟩) hlb).trans x0, (hbX.cell (p := ⟨lb, 1, none⟩) hlb).trans x1, (hbX.cell (p := ⟨lb, 2, none⟩) hlb).trans x2, (hbX.cell (p := ⟨lb, 3, none⟩) hlb).trans x3, (hbX.cell (p := ⟨lb, 4, none⟩) hlb).trans x4, (hbX.cell (p := ⟨lb, 5, none⟩) hlb).trans x5, (hbX.cell (p := ⟨b, off + k * 5, none⟩) hbw).trans d0, (hbX.cell (p := ⟨b, off + k * 5 + 1, none⟩) hbw).trans d1, (hbX.cell (p := ⟨b, off + k * 5 + 2, none⟩) hbw).trans d2, (hbX.cell (p := ⟨b, off + k * 5 + 3, none⟩) hbw).trans d3, (hbX.cell (p := ⟨b, off + k * 5 + 4, none⟩) hbw).trans d4⟩
       clear hK K
       clear hbX hbs
       generalize y2.alloc (.cells #[.int .i64 0, .int .i64 0, .string ⟨#[]⟩] 40) = y3 at *
       generalize y2.heap.size = rv at *
       obtain ⟨⟨n0, n1, n2, n3, n4, n5⟩, _⟩ := Blk.c6 (uh N)
       have v0 := (uh V).cell 0 rfl
       have v1 := (uh V).cell 1 rfl
       have v2 := (uh V).cell 2 rfl
       have nf0 := (uh N).fro 0
       have nf1 := (uh N).fro 1
       have nf2 := (uh N).fro 2
       have nf3 := (uh N).fro 3
       have nf4 := (uh N).fro 4
       have nf5 := (uh N).fro 5
       have vf0 := (uh V).fro 0
       have vf1 := (uh V).fro 1
       have vf2 := (uh V).fro 2
       have hne2 : nb ≠ rv := hne
       have T11 := (((((((Touch.refl (fun x => x = nb ∨ x = rv) y3).setCell ⟨nb, 0, none⟩ (.slice la2 lsN.length lc2) (fun _ => .inl rfl)).setCell ⟨nb, 1, none⟩ (.string (brOf oN).key) (fun _ => .inl rfl)).setCell ⟨nb, 2, none⟩ (.string (brOf oN).val) (fun _ => .inl rfl)).setCell ⟨nb, 3, none⟩ (.int .i64 (brOf oN).at_) (fun _ => .inl rfl)).setCell ⟨nb, 4, none⟩ (.slice ka2 kn2 kc2) (fun _ => .inl rfl)).setCell ⟨nb, 5, none⟩ (.slice sa2 ssN.length sc2) (fun _ => .inl rfl))
       have T12 := (((T11.setCell ⟨rv, 0, none⟩ (.int .i64 rN.kd) (fun _ => .inr rfl)).setCell ⟨rv, 1, none⟩ (.int .i64 rN.pl) (fun _ => .inr rfl)).setCell ⟨rv, 2, none⟩ (.string rN.vl) (fun _ => .inr rfl))
       have N9 := Hd ((((((((((uh N).set 0 (.slice la2 lsN.length lc2) (by simp)).set 1 (.string (brOf oN).key) (by simp)).set 2 (.string (brOf oN).val) (by simp)).set 3 (.int .i64 (brOf oN).at_) (by simp)).set 4 (.slice ka2 kn2 kc2) (by simp)).set 5 (.slice sa2 ssN.length sc2) (by simp)).other (C := rv) 0 (.int .i64 rN.kd) (by omega)).other (C := rv) 1 (.int .i64 rN.pl) (by omega)).other (C := rv) 2 (.string rN.vl) (by omega))
       have V9 := Hd ((((((((((uh V).other (C := nb) 0 (.slice la2 lsN.length lc2) (by omega)).other (C := nb) 1 (.string (brOf oN).key) (by omega)).other (C := nb) 2 (.string (brOf oN).val) (by omega)).other (C := nb) 3 (.int .i64 (brOf oN).at_) (by omega)).other (C := nb) 4 (.slice ka2 kn2 kc2) (by omega)).other (C := nb) 5 (.slice sa2 ssN.length sc2) (by omega)).set 0 (.int .i64 rN.kd) (by simp)).set 1 (.int .i64 rN.pl) (by simp)).set 2 (.string rN.vl) (by simp))
       have hsx := (uh HBx).size
       have hk11 := fun (bq i : Nat) (v : Value) (hb9 : bq < w3.heap.size) (h : w3.cell? ⟨bq, i, none⟩ = some v) => (T11.cell (p := ⟨bq, i, none⟩) (show bq < y3.heap.size by omega) (show ¬ (bq = nb ∨ bq = rv) by omega)).trans (((uh HBx).cell (p := ⟨bq, i, none⟩) hb9).trans h)
       have hk12 := fun (bq i : Nat) (v : Value) (hb9 : bq < w3.heap.size) (h : w3.cell? ⟨bq, i, none⟩ = some v) => (T12.cell (p := ⟨bq, i, none⟩) (show bq < y3.heap.size by omega) (show ¬ (bq = nb ∨ bq = rv) by omega)).trans (((uh HBx).cell (p := ⟨bq, i, none⟩) hb9).trans h)
       have LB9 := Hd ((uh LBx).touch T12 (fun x hx => by rcases hx with e | e; (exact .inl (.inr e)); exact .inr e))
       have B9 := Hd ((uh HBx).trans (T12.below (uh HBx).size (fun x hx e => by rcases e with e | e <;> omega)))
       refine rdy1 11 rfl (fun K hK => ?_)
       go_simp
       refine outH hK ?_ (fun hHeld => ?_)
       ·exact ⟨hk11 _ _ _ hlb x0, hk11 _ _ _ hlb x1, hk11 _ _ _ hlb x2, hk11 _ _ _ hlb x3, hk11 _ _ _ hlb x4, hk11 _ _ _ hlb x5, hk11 _ _ _ hbw d0, hk11 _ _ _ hbw d1, hk11 _ _ _ hbw d2, hk11 _ _ _ hbw d3, hk11 _ _ _ hbw d4⟩
       clear hK K
       refine rdy1 12 rfl (fun K hK => ?_)
       go_simp
       refine outH hK ?_ (fun hHeld => ?_)
       ·exact ⟨hk12 _ _ _ hlb x0, hk12 _ _ _ hlb x1, hk12 _ _ _ hlb x2, hk12 _ _ _ hlb x3, hk12 _ _ _ hlb x4, hk12 _ _ _ hlb x5, hk12 _ _ _ hbw d0, hk12 _ _ _ hbw d1, hk12 _ _ _ hbw d2, hk12 _ _ _ hbw d3, hk12 _ _ _ hbw d4⟩
       clear hK K
       refine wpAnyH_done (by kernel_rfl) (NoPanic.normal ?_) _
       clear hHeld hk11 hk12 T11 T12
       go_wp2_with fail
       go_meet
       exact ⟨nb, rv, _, _, _, rfl, rfl, Hd ⟨uh B9, hnb, hrv, uh N9, uh V9, (uh LB9).mono (fun x hx => .inl (.inl hx))⟩⟩
      ·go_simp
       have hbs := bal y1 (.cells #[.int .i64 0, .int .i64 0, .string ⟨#[]⟩] 40)
       replace LBx := Hd (((uh LBx).up.mono (T' := fun x => ((x = w.heap.size ∨ x = lb ∨ ro = some x) ∨ x = y1.heap.size)) (fun x hx => hx.imp id (fun e => by omega))).below hbs)
       have V := Hd (Blk.new y1 #[.int .i64 0, .int .i64 0, .string ⟨#[]⟩] 40 y1.heap.size rfl)
       have hrv : w3.heap.size ≤ y1.heap.size := (uh HBx).size
       replace HBx := hbt HBx hbs
       have hbX := uh HBx
       refine outH hK ?_ (fun hHeld => ?_)
       ·exact ⟨(hbX.cell (p := ⟨lb, 0, none⟩) hlb).trans x0, (hbX.cell (p := ⟨lb, 1, none⟩) hlb).trans x1, (hbX.cell (p := ⟨lb, 2, none⟩) hlb).trans x2, (hbX.cell (p := ⟨lb, 3, none⟩) hlb).trans x3, (hbX.cell (p := ⟨lb, 4, none⟩) hlb).trans x4, (hbX.cell (p := ⟨lb, 5, none⟩) hlb).trans x5, (hbX.cell (p := ⟨b, off + k * 5, none⟩) hbw).trans d0, (hbX.cell (p := ⟨b, off + k * 5 + 1, none⟩) hbw).trans d1, (hbX.cell (p := ⟨b, off + k * 5 + 2, none⟩) hbw).trans d2, (hbX.cell (p := ⟨b, off + k * 5 + 3, none⟩) hbw).trans d3, (hbX.cell (p := ⟨b, off + k * 5 + 4, none⟩) hbw).trans d4⟩
       clear hK K
       clear hbX hbs
       generalize y1.alloc (.cells #[.int .i64 0, .int .i64 0, .string ⟨#[]⟩] 40) = y4 at *
       generalize y1.heap.size = rv at *
       refine rdy1 9 rfl (fun K hK => ?_)
       go_simp
       have hbs := bal y4 (.cells #[.slice none 0 0, .string ⟨#[]⟩, .string ⟨#[]⟩, .int .i64 0, .slice none 0 0, .slice none 0 0] 38)
       replace LBx := Hd (((uh LBx).up.mono (T' := fun x => (((x = w.heap.size ∨ x = lb ∨ ro = some x) ∨ x = rv) ∨ x = y4.heap.size)) (fun x hx => hx.imp id (fun e => by omega))).below hbs)
       have N := Hd (Blk.new y4 #[.slice none 0 0, .string ⟨#[]⟩, .string ⟨#[]⟩, .int .i64 0, .slice none 0 0, .slice none 0 0] 38 y4.heap.size rfl)
       have hnb : w3.heap.size ≤ y4.heap.size := (uh HBx).size
       have hne : rv ≠ y4.heap.size := by have := (uh V).1; omega
       replace HBx := hbt HBx hbs
       replace V := Hd ((uh V).below hbs)
       have hbX := uh HBx
       refine outH hK ?_ (fun hHeld => ?_)
       ·exact ⟨(hbX.cell (p := ⟨lb, 0, none⟩) hlb).trans x0, (hbX.cell (p := ⟨lb, 1, none⟩) hlb).trans x1, (hbX.cell (p := ⟨lb, 2, none⟩) hlb).trans x2, (hbX.cell (p := ⟨lb, 3, none⟩) hlb).trans x3, (hbX.cell (p := ⟨lb, 4, none⟩) hlb).trans x4, (hbX.cell (p := ⟨lb, 5, none⟩) hlb).trans x5, (hbX.cell (p := ⟨b, off + k * 5, none⟩) hbw).trans d0, (hbX.cell (p := ⟨b, off + k * 5 + 1, none⟩) hbw).trans d1, (hbX.cell (p := ⟨b, off + k * 5 + 2, none⟩) hbw).trans d2, (hbX.cell (p := ⟨b, off + k * 5 + 3, none⟩) hbw).trans d3, (hbX.cell (p := ⟨b, off + k * 5 + 4, none⟩) hbw).trans d4⟩
       clear hK K
       clear hbX hbs
       generalize y4.alloc (.cells #[.slice none 0 0, .string ⟨#[]⟩, .string ⟨#[]⟩, .int .i64 0, .slice none 0 0, .slice none 0 0] 38) = y5 at *
       generalize y4.heap.size = nb at *
       obtain ⟨⟨n0, n1, n2, n3, n4, n5⟩, _⟩ := Blk.c6 (uh N)
       have v0 := (uh V).cell 0 rfl
       have v1 := (uh V).cell 1 rfl
       have v2 := (uh V).cell 2 rfl
       have nf0 := (uh N).fro 0
       have nf1 := (uh N).fro 1
       have nf2 := (uh N).fro 2
       have nf3 := (uh N).fro 3
       have nf4 := (uh N).fro 4
       have nf5 := (uh N).fro 5
       have vf0 := (uh V).fro 0
       have vf1 := (uh V).fro 1
       have vf2 := (uh V).fro 2
       have hne2 : nb ≠ rv := fun e => hne e.symm
       have T11 := (((((((Touch.refl (fun x => x = nb ∨ x = rv) y5).setCell ⟨nb, 0, none⟩ (.slice la2 lsN.length lc2) (fun _ => .inl rfl)).setCell ⟨nb, 1, none⟩ (.string (brOf oN).key) (fun _ => .inl rfl)).setCell ⟨nb, 2, none⟩ (.string (brOf oN).val) (fun _ => .inl rfl)).setCell ⟨nb, 3, none⟩ (.int .i64 (brOf oN).at_) (fun _ => .inl rfl)).setCell ⟨nb, 4, none⟩ (.slice ka2 kn2 kc2) (fun _ => .inl rfl)).setCell ⟨nb, 5, none⟩ (.slice sa2 ssN.length sc2) (fun _ => .inl rfl))
       have T12 := (((T11.setCell ⟨rv, 0, none⟩ (.int .i64 rN.kd) (fun _ => .inr rfl)).setCell ⟨rv, 1, none⟩ (.int .i64 rN.pl) (fun _ => .inr rfl)).setCell ⟨rv, 2, none⟩ (.string rN.vl) (fun _ => .inr rfl))
       have N9 := Hd ((((((((((uh N).set 0 (.slice la2 lsN.length lc2) (by simp)).set 1 (.string (brOf oN).key) (by simp)).set 2 (.string (brOf oN).val) (by simp)).set 3 (.int .i64 (brOf oN).at_) (by simp)).set 4 (.slice ka2 kn2 kc2) (by simp)).set 5 (.slice sa2 ssN.length sc2) (by simp)).other (C := rv) 0 (.int .i64 rN.kd) (by omega)).other (C := rv) 1 (.int .i64 rN.pl) (by omega)).other (C := rv) 2 (.string rN.vl) (by omega))
       have V9 := Hd ((((((((((uh V).other (C := nb) 0 (.slice la2 lsN.length lc2) (by omega)).other (C := nb) 1 (.string (brOf oN).key) (by omega)).other (C := nb) 2 (.string (brOf oN).val) (by omega)).other (C := nb) 3 (.int .i64 (brOf oN).at_) (by omega)).other (C := nb) 4 (.slice ka2 kn2 kc2) (by omega)).other (C := nb) 5 (.slice sa2 ssN.length sc2) (by omega)).set 0 (.int .i64 rN.kd) (by simp)).set 1 (.int .i64 rN.pl) (by simp)).set 2 (.string rN.vl) (by simp))
       have hsx := (uh HBx).size
       have hk11 := fun (bq i : Nat) (v : Value) (hb9 : bq < w3.heap.size) (h : w3.cell? ⟨bq, i, none⟩ = some v) => (T11.cell (p := ⟨bq, i, none⟩) (show bq < y5.heap.size by omega) (show ¬ (bq = nb ∨ bq = rv) by omega)).trans (((uh HBx).cell (p := ⟨bq, i, none⟩) hb9).trans h)
       have hk12 := fun (bq i : Nat) (v : Value) (hb9 : bq < w3.heap.size) (h : w3.cell? ⟨bq, i, none⟩ = some v) => (T12.cell (p := ⟨bq, i, none⟩) (show bq < y5.heap.size by omega) (show ¬ (bq = nb ∨ bq = rv) by omega)).trans (((uh HBx).cell (p := ⟨bq, i, none⟩) hb9).trans h)
       have LB9 := Hd ((uh LBx).touch T12 (fun x hx => by rcases hx with e | e; (exact .inr e); exact .inl (.inr e)))
       have B9 := Hd ((uh HBx).trans (T12.below (uh HBx).size (fun x hx e => by rcases e with e | e <;> omega)))
       refine rdy1 11 rfl (fun K hK => ?_)
       go_simp
       refine outH hK ?_ (fun hHeld => ?_)
       ·exact ⟨hk11 _ _ _ hlb x0, hk11 _ _ _ hlb x1, hk11 _ _ _ hlb x2, hk11 _ _ _ hlb x3, hk11 _ _ _ hlb x4, hk11 _ _ _ hlb x5, hk11 _ _ _ hbw d0, hk11 _ _ _ hbw d1, hk11 _ _ _ hbw d2, hk11 _ _ _ hbw d3, hk11 _ _ _ hbw d4⟩
       clear hK K
       refine rdy1 12 rfl (fun K hK => ?_)
       go_simp
       refine outH hK ?_ (fun hHeld => ?_)
       ·exact ⟨hk12 _ _ _ hlb x0, hk12 _ _ _ hlb x1, hk12 _ _ _ hlb x2, hk12 _ _ _ hlb x3, hk12 _ _ _ hlb x4, hk12 _ _ _ hlb x5, hk12 _ _ _ hbw d0, hk12 _ _ _ hbw d1, hk12 _ _ _ hbw d2, hk12 _ _ _ hbw d3, hk12 _ _ _ hbw d4⟩
       clear hK K
       refine wpAnyH_done (by kernel_rfl) (NoPanic.normal ?_) _
       clear hHeld hk11 hk12 T11 T12
       go_wp2_with fail
       go_meet
       exact ⟨nb, rv, _, _, _, rfl, rfl, Hd ⟨uh B9, hnb, hrv, uh N9, uh V9, (uh LB9).mono (fun x hx => .inl (.inl hx))⟩⟩
     ·go_simp
      have hbs := bal y0 (.cells #[.slice none 0 0, .string ⟨#[]⟩, .string ⟨#[]⟩, .int .i64 0, .slice none 0 0, .slice none 0 0] 38)
      replace LBx := Hd (((uh LBx).up.mono (T' := fun x => ((x = w.heap.size ∨ x = lb ∨ ro = some x) ∨ x = y0.heap.size)) (fun x hx => hx.imp id (fun e => by omega))).below hbs)
      have N := Hd (Blk.new y0 #[.slice none 0 0, .string ⟨#[]⟩, .string ⟨#[]⟩, .int .i64 0, .slice none 0 0, .slice none 0 0] 38 y0.heap.size rfl)
      have hnb : w3.heap.size ≤ y0.heap.size := (uh HBx).size
      replace HBx := hbt HBx hbs
      have hbX := uh HBx
      refine outH hK ?_ (fun hHeld => ?_)
      ·exact ⟨(hbX.cell (p := ⟨lb, 0, none⟩) hlb).trans x0, (hbX.cell (p := ⟨lb, 1, none⟩) hlb).trans x1, (hbX.cell (p := ⟨lb, 2, none⟩) hlb).trans x2, (hbX.cell (p := ⟨lb, 3, none⟩) hlb).trans x3, (hbX.cell (p := ⟨lb, 4, none⟩) hlb).trans x4, (hbX.cell (p := ⟨lb, 5, none⟩) hlb).trans x5, (hbX.cell (p := ⟨b, off + k * 5, none⟩) hbw).trans d0, (hbX.cell (p := ⟨b, off + k * 5 + 1, none⟩) hbw).trans d1, (hbX.cell (p := ⟨b, off + k * 5 + 2, none⟩) hbw).trans d2, (hbX.cell (p := ⟨b, off + k * 5 + 3, none⟩) hbw).trans d3, (hbX.cell (p := ⟨b, off + k * 5 + 4, none⟩) hbw).trans d4⟩
      clear hK K
      clear hbX hbs
      generalize y0.alloc (.cells #[.slice none 0 0, .string ⟨#[]⟩, .string ⟨#[]⟩, .int .i64 0, .slice none 0 0, .slice none 0 0] 38) = y6 at *
      generalize y0.heap.size = nb at *
      refine rdy2 5 10 rfl rfl (fun K hK => ?_) (fun K hK => ?_)
      ·go_simp
       refine (uh HCA _ y6 (uh LBx)).mono ?_
       rintro e y7 ⟨lv2, kv2, sv2, rfl, hs2, hb2, he2, hbs, fl2, fs2⟩
       dsimp only at hs2 hb2 he2
       replace LBx := Hd ((uh LBx).next2 (y := ⟨lsN, oN, ssN⟩) hs2 hb2 he2 fl2 fs2 (fun k hk => by rcases hk with hk | rfl; (exact Nat.lt_of_lt_of_le (uh HTl k hk) (uh HBx).size); exact (uh N).1))
       obtain ⟨la2, lc2, ka2, kn2, kc2, sa2, sc2, rfl, rfl, rfl⟩ := (uh LBx).shape
       dsimp only
       clear hs2 hb2 he2 fl2 fs2
       replace HBx := hbt HBx hbs
       replace N := Hd ((uh N).below hbs)
       have hbX := uh HBx
       go_wp2_with fail
       refine outH hK ?_ (fun hHeld => ?_)
       ·exact ⟨(hbX.cell (p := ⟨lb, 0, none⟩) hlb).trans x0, (hbX.cell (p := ⟨lb, 1, none⟩) hlb).trans x1, (hbX.cell (p := ⟨lb, 2, none⟩) hlb).trans x2, (hbX.cell (p := ⟨lb, 3, none⟩) hlb).trans x3, (hbX.cell (p := ⟨lb, 4, none⟩) hlb).trans x4, (hbX.cell (p := ⟨lb, 5, none⟩) hlb).trans x5, (hbX.cell (p := ⟨b, off + k * 5, none⟩) hbw).trans d0, (hbX.cell (p := ⟨b, off + k * 5 + 1, none⟩) hbw).trans d1, (hbX.cell (p := ⟨b, off + k * 5 + 2, none⟩) hbw).trans d2, (hbX.cell (p := ⟨b, off + k * 5 + 3, none⟩) hbw).trans d3, (hbX.cell (p := ⟨b, off + k * 5 + 4, none⟩) hbw).trans d4⟩
       clear hK K
       clear hbX hbs
       refine tkH 6 rfl ?_
       refine tkH 7 rfl ?_
       refine tkH 8 rfl ?_
       refine rdy1 10 rfl (fun K hK => ?_)
       go_simp
       have hbs := bal y7 (.cells #[.int .i64 0, .int .i64 0, .string ⟨#[]⟩] 40)
       replace LBx := Hd (((uh LBx).up.mono (T' := fun x => (((x = w.heap.size ∨ x = lb ∨ ro = some x) ∨ x = nb) ∨ x = y7.heap.size)) (fun x hx => hx.imp id (fun e => by omega))).below hbs)
       have V := Hd (Blk.new y7 #[.int .i64 0, .int .i64 0, .string ⟨#[]⟩] 40 y7.heap.size rfl)
       have hrv : w3.heap.size ≤ y7.heap.size := (uh HBx).size
       have hne : nb ≠ y7.heap.size := by have := (uh N).1; omega
       replace HBx := hbt HBx hbs
       replace N := Hd ((uh N).below hbs)
       have hbX := uh HBx
       refine outH hK ?_ (fun hHeld => ?_)
       ·exact ⟨(hbX.cell (p := ⟨lb, 0, none⟩) hlb).trans x0, (hbX.cell (p := ⟨lb, 1, none⟩) hlb).trans x1, (hbX.cell (p := ⟨lb, 2, none⟩) hlb).trans x2, (hbX.cell (p := ⟨lb, 3, none⟩) hlb).trans x3, (hbX.cell (p := ⟨lb, 4, none⟩) hlb).trans x4, (hbX.cell (p := ⟨lb, 5, none⟩) hlb).trans x5, (hbX.cell (p := ⟨b, off + k * 5, none⟩) hbw).trans d0, (hbX.cell (p := ⟨b, off + k * 5 + 1, none⟩) hbw).trans d1, (hbX.cell (p := ⟨b, off + k * 5 + 2, none⟩) hbw).trans d2, (hbX.cell (p := ⟨b, off + k * 5 + 3, none⟩) hbw).trans d3, (hbX.cell (p := ⟨b, off + k * 5 + 4, none⟩) hbw).trans d4⟩
       clear hK K
       clear hbX hbs
       generalize y7.alloc (.cells #[.int .i64 0, .int .i64 0, .string ⟨#[]⟩] 40) = y8 at *
       generalize y7.heap.size = rv at *
       obtain ⟨⟨n0, n1, n2, n3, n4, n5⟩, _⟩ := Blk.c6 (uh N)
       have v0 := (uh V).cell 0 rfl
       have v1 := (uh V).cell 1 rfl
       have v2 := (uh V).cell 2 rfl
       have nf0 := (uh N).fro 0
       have nf1 := (uh N).fro 1
       have nf2 := (uh N).fro 2
       have nf3 := (uh N).fro 3
       have nf4 := (uh N).fro 4
       have nf5 := (uh N).fro 5
       have vf0 := (uh V).fro 0
       have vf1 := (uh V).fro 1
       have vf2 := (uh V).fro 2
       have hne2 : nb ≠ rv := hne
       have T11 := (((((((Touch.refl (fun x => x = nb ∨ x = rv) y8).setCell ⟨nb, 0, none⟩ (.slice la2 lsN.length lc2) (fun _ => .inl rfl)).setCell ⟨nb, 1, none⟩ (.string (brOf oN).key) (fun _ => .inl rfl)).setCell ⟨nb, 2, none⟩ (.string (brOf oN).val) (fun _ => .inl rfl)).setCell ⟨nb, 3, none⟩ (.int .i64 (brOf oN).at_) (fun _ => .inl rfl)).setCell ⟨nb, 4, none⟩ (.slice ka2 kn2 kc2) (fun _ => .inl rfl)).setCell ⟨nb, 5, none⟩ (.slice sa2 ssN.length sc2) (fun _ => .inl rfl))
       have T12 := (((T11.setCell ⟨rv, 0, none⟩ (.int .i64 rN.kd) (fun _ => .inr rfl)).setCell ⟨rv, 1, none⟩ (.int .i64 rN.pl) (fun _ => .inr rfl)).setCell ⟨rv, 2, none⟩ (.string rN.vl) (fun _ => .inr rfl))
       have N9 := Hd ((((((((((uh N).set 0 (.slice la2 lsN.length lc2) (by simp)).set 1 (.string (brOf oN).key) (by simp)).set 2 (.string (brOf oN).val) (by simp)).set 3 (.int .i64 (brOf oN).at_) (by simp)).set 4 (.slice ka2 kn2 kc2) (by simp)).set 5 (.slice sa2 ssN.length sc2) (by simp)).other (C := rv) 0 (.int .i64 rN.kd) (by omega)).other (C := rv) 1 (.int .i64 rN.pl) (by omega)).other (C := rv) 2 (.string rN.vl) (by omega))
       have V9 := Hd ((((((((((uh V).other (C := nb) 0 (.slice la2 lsN.length lc2) (by omega)).other (C := nb) 1 (.string (brOf oN).key) (by omega)).other (C := nb) 2 (.string (brOf oN).val) (by omega)).other (C := nb) 3 (.int .i64 (brOf oN).at_) (by omega)).other (C := nb) 4 (.slice ka2 kn2 kc2) (by omega)).other (C := nb) 5 (.slice sa2 ssN.length sc2) (by omega)).set 0 (.int .i64 rN.kd) (by simp)).set 1 (.int .i64 rN.pl) (by simp)).set 2 (.string rN.vl) (by simp))
       have hsx := (uh HBx).size
       have hk11 := fun (bq i : Nat) (v : Value) (hb9 : bq < w3.heap.size) (h : w3.cell? ⟨bq, i, none⟩ = some v) => (T11.cell (p := ⟨bq, i, none⟩) (show bq < y8.heap.size by omega) (show ¬ (bq = nb ∨ bq = rv) by omega)).trans (((uh HBx).cell (p := ⟨bq, i, none⟩) hb9).trans h)
       have hk12 := fun (bq i : Nat) (v : Value) (hb9 : bq < w3.heap.size) (h : w3.cell? ⟨bq, i, none⟩ = some v) => (T12.cell (p := ⟨bq, i, none⟩) (show bq < y8.heap.size by omega) (show ¬ (bq = nb ∨ bq = rv) by omega)).trans (((uh HBx).cell (p := ⟨bq, i, none⟩) hb9).trans h)
       have LB9 := Hd ((uh LBx).touch T12 (fun x hx => by rcases hx with e | e; (exact .inl (.inr e)); exact .inr e))
       have B9 := Hd ((uh HBx).trans (T12.below (uh HBx).size (fun x hx e => by rcases e with e | e <;> omega)))
       refine rdy1 11 rfl (fun K hK => ?_)
       go_simp
       refine outH hK ?_ (fun hHeld => ?_)
       ·exact ⟨hk11 _ _ _ hlb x0, hk11 _ _ _ hlb x1, hk11 _ _ _ hlb x2, hk11 _ _ _ hlb x3, hk11 _ _ _ hlb x4, hk11 _ _ _ hlb x5, hk11 _ _ _ hbw d0, hk11 _ _ _ hbw d1, hk11 _ _ _ hbw d2, hk11 _ _ _ hbw d3, hk11 _ _ _ hbw d4⟩
       clear hK K
       refine rdy1 12 rfl (fun K hK => ?_)
       go_simp
       refine outH hK ?_ (fun hHeld => ?_)
       ·exact ⟨hk12 _ _ _ hlb x0, hk12 _ _ _ hlb x1, hk12 _ _ _ hlb x2, hk12 _ _ _ hlb x3, hk12 _ _ _ hlb x4, hk12 _ _ _ hlb x5, hk12 _ _ _ hbw d0, hk12 _ _ _ hbw d1, hk12 _ _ _ hbw d2, hk12 _ _ _ hbw d3, hk12 _ _ _ hbw d4⟩
       clear hK K
       refine wpAnyH_done (by kernel_rfl) (NoPanic.normal ?_) _
       clear hHeld hk11 hk12 T11 T12
       go_wp2_with fail
       go_meet
       exact ⟨nb, rv, _, _, _, rfl, rfl, Hd ⟨uh B9, hnb, hrv, uh N9, uh V9, (uh LB9).mono (fun x hx => .inl (.inl hx))⟩⟩
      ·go_simp
       have hbs := bal y6 (.cells #[.int .i64 0, .int .i64 0, .string ⟨#[]⟩] 40)
       replace LBx := Hd (((uh LBx).up.mono (T' := fun x => (((x = w.heap.size ∨ x = lb ∨ ro = some x) ∨ x = nb) ∨ x = y6.heap.size)) (fun x hx => hx.imp id (fun e => by omega))).below hbs)
       have V := Hd (Blk.new y6 #[.int .i64 0, .int .i64 0, .string ⟨#[]⟩] 40 y6.heap.size rfl)
       have hrv : w3.heap.size ≤ y6.heap.size := (uh HBx).size
       have hne : nb ≠ y6.heap.size := by have := (uh N).1; omega
       replace HBx := hbt HBx hbs
       replace N := Hd ((uh N).below hbs)
       have hbX := uh HBx
       refine outH hK ?_ (fun hHeld => ?_)
       ·exact ⟨(hbX.cell (p := ⟨lb, 0, none⟩) hlb).trans x0, (hbX.cell (p := ⟨lb, 1, none⟩) hlb).trans x1, (hbX.cell (p := ⟨lb, 2, none⟩) hlb).trans x2, (hbX.cell (p := ⟨lb, 3, none⟩) hlb).trans x3, (hbX.cell (p := ⟨lb, 4, none⟩) hlb).trans x4, (hbX.cell (p := ⟨lb, 5, none⟩) hlb).trans x5, (hbX.cell (p := ⟨b, off + k * 5, none⟩) hbw).trans d0, (hbX.cell (p := ⟨b, off + k * 5 + 1, none⟩) hbw).trans d1, (hbX.cell (p := ⟨b, off + k * 5 + 2, none⟩) hbw).trans d2, (hbX.cell (p := ⟨b, off + k * 5 + 3, none⟩) hbw).trans d3, (hbX.cell (p := ⟨b, off + k * 5 + 4, none⟩) hbw).trans d4⟩
       clear hK K
       clear hbX hbs
       generalize y6.alloc (.cells #[.int .i64 0, .int .i64 0, .string ⟨#[]⟩] 40) = y9 at *
       generalize y6.heap.size = rv at *
       refine rdy1 5 rfl (fun K hK => ?_)
       go_simp
       refine (uh HCA _ y9 (uh LBx)).mono ?_
       rintro e y10 ⟨lv2, kv2, sv2, rfl, hs2, hb2, he2, hbs, fl2, fs2⟩
       dsimp only at hs2 hb2 he2
       replace LBx := Hd ((uh LBx).next2 (y := ⟨lsN, oN, ssN⟩) hs2 hb2 he2 fl2 fs2 (fun k hk => by rcases hk with hk | rfl; (rcases hk with hk | rfl; (exact Nat.lt_of_lt_of_le (uh HTl k hk) (uh HBx).size); exact (uh N).1); exact (uh V).1))
       obtain ⟨la2, lc2, ka2, kn2, kc2, sa2, sc2, rfl, rfl, rfl⟩ := (uh LBx).shape
       dsimp only
       clear hs2 hb2 he2 fl2 fs2
       replace HBx := hbt HBx hbs
       replace N := Hd ((uh N).below hbs)
       replace V := Hd ((uh V).below hbs)
       have hbX := uh HBx
       go_wp2_with fail
       refine outH hK ?_ (fun hHeld => ?_)
       ·exact ⟨(hbX.cell (p := ⟨lb, 0, none⟩) hlb).trans x0, (hbX.cell (p := ⟨lb, 1, none⟩) hlb).trans x1, (hbX.cell (p := ⟨lb, 2, none⟩) hlb).trans x2, (hbX.cell (p := ⟨lb, 3, none⟩) hlb).trans x3, (hbX.cell (p := ⟨lb, 4, none⟩) hlb).trans x4, (hbX.cell (p := ⟨lb, 5, none⟩) hlb).trans x5, (hbX.cell (p := ⟨b, off + k * 5, none⟩) hbw).trans d0, (hbX.cell (p := ⟨b, off + k * 5 + 1, none⟩) hbw).trans d1, (hbX.cell (p := ⟨b, off + k * 5 + 2, none⟩) hbw).trans d2, (hbX.cell (p := ⟨b, off + k * 5 + 3, none⟩) hbw).trans d3, (hbX.cell (p := ⟨b, off + k * 5 + 4, none⟩) hbw).trans d4⟩
       clear hK K
       clear hbX hbs
       refine tkH 6 rfl ?_
       refine tkH 7 rfl ?_
       refine tkH 8 rfl ?_
       obtain ⟨⟨n0, n1, n2, n3, n4, n5⟩, _⟩ := Blk.c6 (uh N)
       have v0 := (uh V).cell 0 rfl
       have v1 := (uh V).cell 1 rfl
       have v2 := (uh V).cell 2 rfl
       have nf0 := (uh N).fro 0
       have nf1 := (uh N).fro 1
       have nf2 := (uh N).fro 2
       have nf3 := (uh N).fro 3
       have nf4 := (uh N).fro 4
       have nf5 := (uh N).fro 5
       have vf0 := (uh V).fro 0
       have vf1 := (uh V).fro 1
       have vf2 := (uh V).fro 2
       have hne2 : nb ≠ rv := hne
       have T11 := (((((((Touch.refl (fun x => x = nb ∨ x = rv) y10).setCell ⟨nb, 0, none⟩ (.slice la2 lsN.length lc2) (fun _ => .inl rfl)).setCell ⟨nb, 1, none⟩ (.string (brOf oN).key) (fun _ => .inl rfl)).setCell ⟨nb, 2, none⟩ (.string (brOf oN).val) (fun _ => .inl rfl)).setCell ⟨nb, 3, none⟩ (.int .i64 (brOf oN).at_) (fun _ => .inl rfl)).setCell ⟨nb, 4, none⟩ (.slice ka2 kn2 kc2) (fun _ => .inl rfl)).setCell ⟨nb, 5, none⟩ (.slice sa2 ssN.length sc2) (fun _ => .inl rfl))
       have T12 := (((T11.setCell ⟨rv, 0, none⟩ (.int .i64 rN.kd) (fun _ => .inr rfl)).setCell ⟨rv, 1, none⟩ (.int .i64 rN.pl) (fun _ => .inr rfl)).setCell ⟨rv, 2, none⟩ (.string rN.vl) (fun _ => .inr rfl))
       have N9 := Hd ((((((((((uh N).set 0 (.slice la2 lsN.length lc2) (by simp)).set 1 (.string (brOf oN).key) (by simp)).set 2 (.string (brOf oN).val) (by simp)).set 3 (.int .i64 (brOf oN).at_) (by simp)).set 4 (.slice ka2 kn2 kc2) (by simp)).set 5 (.slice sa2 ssN.length sc2) (by simp)).other (C := rv) 0 (.int .i64 rN.kd) (by omega)).other (C := rv) 1 (.int .i64 rN.pl) (by omega)).other (C := rv) 2 (.string rN.vl) (by omega))
       have V9 := Hd ((((((((((uh V).other (C := nb) 0 (.slice la2 lsN.length lc2) (by omega)).other (C := nb) 1 (.string (brOf oN).key) (by omega)).other (C := nb) 2 (.string (brOf oN).val) (by omega)).other (C := nb) 3 (.int .i64 (brOf oN).at_) (by omega)).other (C := nb) 4 (.slice ka2 kn2 kc2) (by omega)).other (C := nb) 5 (.slice sa2 ssN.length sc2) (by omega)).set 0 (.int .i64 rN.kd) (by simp)).set 1 (.int .i64 rN.pl) (by simp)).set 2 (.string rN.vl) (by simp))
       have hsx := (uh HBx).size
       have hk11 := fun (bq i : Nat) (v : Value) (hb9 : bq < w3.heap.size) (h : w3.cell? ⟨bq, i, none⟩ = some v) => (T11.cell (p := ⟨bq, i, none⟩) (show bq < y10.heap.size by omega) (show ¬ (bq = nb ∨ bq = rv) by omega)).trans (((uh HBx).cell (p := ⟨bq, i, none⟩) hb9).trans h)
       have hk12 := fun (bq i : Nat) (v : Value) (hb9 : bq < w3.heap.size) (h : w3.cell? ⟨bq, i, none⟩ = some v) => (T12.cell (p := ⟨bq, i, none⟩) (show bq < y10.heap.size by omega) (show ¬ (bq = nb ∨ bq = rv) by omega)).trans (((uh HBx).cell (p := ⟨bq, i, none⟩) hb9).trans h)
       have LB9 := Hd ((uh LBx).touch T12 (fun x hx => by rcases hx with e | e; (exact .inl (.inr e)); exact .inr e))
       have B9 := Hd ((uh HBx).trans (T12.below (uh HBx).size (fun x hx e => by rcases e with e | e <;> omega)))
       refine rdy1 11 rfl (fun K hK => ?_)
       go_simp
       refine outH hK ?_ (fun hHeld => ?_)
       ·exact ⟨hk11 _ _ _ hlb x0, hk11 _ _ _ hlb x1, hk11 _ _ _ hlb x2, hk11 _ _ _ hlb x3, hk11 _ _ _ hlb x4, hk11 _ _ _ hlb x5, hk11 _ _ _ hbw d0, hk11 _ _ _ hbw d1, hk11 _ _ _ hbw d2, hk11 _ _ _ hbw d3, hk11 _ _ _ hbw d4⟩
       clear hK K
       refine rdy1 12 rfl (fun K hK => ?_)
       go_simp
       refine outH hK ?_ (fun hHeld => ?_)
       ·exact ⟨hk12 _ _ _ hlb x0, hk12 _ _ _ hlb x1, hk12 _ _ _ hlb x2, hk12 _ _ _ hlb x3, hk12 _ _ _ hlb x4, hk12 _ _ _ hlb x5, hk12 _ _ _ hbw d0, hk12 _ _ _ hbw d1, hk12 _ _ _ hbw d2, hk12 _ _ _ hbw d3, hk12 _ _ _ hbw d4⟩
       clear hK K
       refine wpAnyH_done (by kernel_rfl) (NoPanic.normal ?_) _
       clear hHeld hk11 hk12 T11 T12
       go_wp2_with fail
       go_meet
       exact ⟨nb, rv, _, _, _, rfl, rfl, Hd ⟨uh B9, hnb, hrv, uh N9, uh V9, (uh LB9).mono (fun x hx => .inl (.inl hx))⟩⟩
     ·go_simp
      have hbs := bal y0 (.cells #[.int .i64 0, .int .i64 0, .string ⟨#[]⟩] 40)
      replace LBx := Hd (((uh LBx).up.mono (T' := fun x => ((x = w.heap.size ∨ x = lb ∨ ro = some x) ∨ x = y0.heap.size)) (fun x hx => hx.imp id (fun e => by omega))).below hbs)
      have V := Hd (Blk.new y0 #[.int .i64 0, .int .i64 0, .string ⟨#[]⟩] 40 y0.heap.size rfl)
      have hrv : w3.heap.size ≤ y0.heap.size := (uh HBx).size
      replace HBx := hbt HBx hbs
      have hbX := uh HBx
      refine outH hK ?_ (fun hHeld => ?_)
      ·exact ⟨(hbX.cell (p := ⟨lb, 0, none⟩) hlb).trans x0, (hbX.cell (p := ⟨lb, 1, none⟩) hlb).trans x1, (hbX.cell (p := ⟨lb, 2, none⟩) hlb).trans x2, (hbX.cell (p := ⟨lb, 3, none⟩) hlb).trans x3, (hbX.cell (p := ⟨lb, 4, none⟩) hlb).trans x4, (hbX.cell (p := ⟨lb, 5, none⟩) hlb).trans x5, (hbX.cell (p := ⟨b, off + k * 5, none⟩) hbw).trans d0, (hbX.cell (p := ⟨b, off + k * 5 + 1, none⟩) hbw).trans d1, (hbX.cell (p := ⟨b, off + k * 5 + 2, none⟩) hbw).trans d2, (hbX.cell (p := ⟨b, off + k * 5 + 3, none⟩) hbw).trans d3, (hbX.cell (p := ⟨b, off + k * 5 + 4, none⟩) hbw).trans d4⟩
      clear hK K
      clear hbX hbs
      generalize y0.alloc (.cells #[.int .i64 0, .int .i64 0, .string ⟨#[]⟩] 40) = y11 at *
      generalize y0.heap.size = rv at *
      refine rdy2 5 9 rfl rfl (fun K hK => ?_) (fun K hK => ?_)
      ·go_simp
       refine (uh HCA _ y11 (uh LBx)).mono ?_
       rintro e y12 ⟨lv2, kv2, sv2, rfl, hs2, hb2, he2, hbs, fl2, fs2⟩
       dsimp only at hs2 hb2 he2
       replace LBx := Hd ((uh LBx).next2 (y := ⟨lsN, oN, ssN⟩) hs2 hb2 he2 fl2 fs2 (fun k hk => by rcases hk with hk | rfl; (exact Nat.lt_of_lt_of_le (uh HTl k hk) (uh HBx).size); exact (uh V).1))
       obtain ⟨la2, lc2, ka2, kn2, kc2, sa2, sc2, rfl, rfl, rfl⟩ := (uh LBx).shape
       dsimp only
       clear hs2 hb2 he2 fl2 fs2
       replace HBx := hbt HBx hbs
       replace V := Hd ((uh V).below hbs)
       have hbX := uh HBx
       go_wp2_with fail
       refine outH hK ?_ (fun hHeld => ?_)
       ·exact ⟨(hbX.cell (p := ⟨lb, 0, none⟩) hlb).trans x0, (hbX.cell (p := ⟨lb, 1, none⟩) hlb).trans x1, (hbX.cell (p := ⟨lb, 2, none⟩) hlb).trans x2, (hbX.cell (p := ⟨lb, 3, none⟩) hlb).trans x3, (hbX.cell (p := ⟨lb, 4, none⟩) hlb).trans x4, (hbX.cell (p := ⟨lb, 5, none⟩) hlb).trans x5, (hbX.cell (p := ⟨b, off + k * 5, none⟩) hbw).trans d0, (hbX.cell (p := ⟨b, off + k * 5 + 1, none⟩) hbw).trans d1, (hbX.cell (p := ⟨b, off + k * 5 + 2, none⟩) hbw).trans d2, (hbX.cell (p := ⟨b, off + k * 5 + 3, none⟩) hbw).trans d3, (hbX.cell (p := ⟨b, off + k * 5 + 4, none⟩) hbw).trans d4⟩
       clear hK K
       clear hbX hbs
       refine tkH 6 rfl ?_
       refine tkH 7 rfl ?_
       refine tkH 8 rfl ?_
       refine rdy1 9 rfl (fun K hK => ?_)
       go_simp
       have hbs := bal y12 (.cells #[.slice none 0 0, .string ⟨#[]⟩, .string ⟨#[]⟩, .int .i64 0, .slice none 0 0, .slice none 0 0] 38)
       replace LBx := Hd (((uh LBx).up.mono (T' := fun x => (((x = w.heap.size ∨ x = lb ∨ ro = some x) ∨ x = rv) ∨ x = y12.heap.size)) (fun x hx => hx.imp id (fun e => by omega))).below hbs)
       have N := Hd (Blk.new y12 #[.slice none 0 0, .string ⟨#[]⟩, .string ⟨#[]⟩, .int .i64 0, .slice none 0 0, .slice none 0 0] 38 y12.heap.size rfl)
       have hnb : w3.heap.size ≤ y12.heap.size := (uh HBx).size
       have hne : rv ≠ y12.heap.size := by have := (uh V).1; omega
       replace HBx := hbt HBx hbs
       replace V := Hd ((uh V).below hbs)
       have hbX := uh HBx
       refine outH hK ?_ (fun hHeld => ?_)
       ·exact ⟨(hbX.cell (p := ⟨lb, 0, none⟩) hlb).trans x0, (hbX.cell (p := ⟨lb, 1, none⟩) hlb).trans x1, (hbX.cell (p := ⟨lb, 2, none⟩) hlb).trans x2, (hbX.cell (p := ⟨lb, 3, none⟩) hlb).trans x3, (hbX.cell (p := ⟨lb, 4, none⟩) hlb).trans x4, (hbX.cell (p := ⟨lb, 5, none⟩) hlb).trans x5, (hbX.cell (p := ⟨b, off + k * 5, none⟩) hbw).trans d0, (hbX.cell (p := ⟨b, off + k * 5 + 1, none⟩) hbw).trans d1, (hbX.cell (p := ⟨b, off + k * 5 + 2, none⟩) hbw).trans d2, (hbX.cell (p := ⟨b, off + k * 5 + 3, none⟩) hbw).trans d3, (hbX.cell (p := ⟨b, off + k * 5 + 4, none⟩) hbw).trans d4⟩
       clear hK K
       clear hbX hbs
       generalize y12.alloc (.cells #[.slice none 0 0, .string ⟨#[]⟩, .string ⟨#[]⟩, .int .i64 0, .slice none 0 0, .slice none 0 0] 38) = y13 at *
       generalize y12.heap.size = nb at *
       obtain ⟨⟨n0, n1, n2, n3, n4, n5⟩, _⟩ := Blk.c6 (uh N)
       have v0 := (uh V).cell 0 rfl
       have v1 := (uh V).cell 1 rfl
       have v2 := (uh V).cell 2 rfl
       have nf0 := (uh N).fro 0
       have nf1 := (uh N).fro 1
       have nf2 := (uh N).fro 2
       have nf3 := (uh N).fro 3
       have nf4 := (uh N).fro 4
       have nf5 := (uh N).fro 5
       have vf0 := (uh V).fro 0
       have vf1 := (uh V).fro 1
       have vf2 := (uh V).fro 2
       have hne2 : nb ≠ rv := fun e => hne e.symm
       have T11 := (((((((Touch.refl (fun x => x = nb ∨ x = rv) y13).setCell ⟨nb, 0, none⟩ (.slice la2 lsN.length lc2) (fun _ => .inl rfl)).setCell ⟨nb, 1, none⟩ (.string (brOf oN).key) (fun _ => .inl rfl)).setCell ⟨nb, 2, none⟩ (.string (brOf oN).val) (fun _ => .inl rfl)).setCell ⟨nb, 3, none⟩ (.int .i64 (brOf oN).at_) (fun _ => .inl rfl)).setCell ⟨nb, 4, none⟩ (.slice ka2 kn2 kc2) (fun _ => .inl rfl)).setCell ⟨nb, 5, none⟩ (.slice sa2 ssN.length sc2) (fun _ => .inl rfl))
       have T12 := (((T11.setCell ⟨rv, 0, none⟩ (.int .i64 rN.kd) (fun _ => .inr rfl)).setCell ⟨rv, 1, none⟩ (.int .i64 rN.pl) (fun _ => .inr rfl)).setCell ⟨rv, 2, none⟩ (.string rN.vl) (fun _ => .inr rfl))
       have N9 := Hd ((((((((((uh N).set 0 (.slice la2 lsN.length lc2) (by simp)).set 1 (.string (brOf oN).key) (by simp)).set 2 (.string (brOf oN).val) (by simp)).set 3 (.int .i64 (brOf oN).at_) (by simp)).set 4 (.slice ka2 kn2 kc2) (by simp)).set 5 (.slice sa2 ssN.length sc2) (by simp)).other (C := rv) 0 (.int .i64 rN.kd) (by omega)).other (C := rv) 1 (.int .i64 rN.pl) (by omega)).other (C := rv) 2 (.string rN.vl) (by omega))
       have V9 := Hd ((((((((((uh V).other (C := nb) 0 (.slice la2 lsN.length lc2) (by omega)).other (C := nb) 1 (.string (brOf oN).key) (by omega)).other (C := nb) 2 (.string (brOf oN).val) (by omega)).other (C := nb) 3 (.int .i64 (brOf oN).at_) (by omega)).other (C := nb) 4 (.slice ka2 kn2 kc2) (by omega)).other (C := nb) 5 (.slice sa2 ssN.length sc2) (by omega)).set 0 (.int .i64 rN.kd) (by simp)).set 1 (.int .i64 rN.pl) (by simp)).set 2 (.string rN.vl) (by simp))
       have hsx := (uh HBx).size
       have hk11 := fun (bq i : Nat) (v : Value) (hb9 : bq < w3.heap.size) (h : w3.cell? ⟨bq, i, none⟩ = some v) => (T11.cell (p := ⟨bq, i, none⟩) (show bq < y13.heap.size by omega) (show ¬ (bq = nb ∨ bq = rv) by omega)).trans (((uh HBx).cell (p := ⟨bq, i, none⟩) hb9).trans h)
       have hk12 := fun (bq i : Nat) (v : Value) (hb9 : bq < w3.heap.size) (h : w3.cell? ⟨bq, i, none⟩ = some v) => (T12.cell (p := ⟨bq, i, none⟩) (show bq < y13.heap.size by omega) (show ¬ (bq = nb ∨ bq = rv) by omega)).trans (((uh HBx).cell (p := ⟨bq, i, none⟩) hb9).trans h)
       have LB9 := Hd ((uh LBx).touch T12 (fun x hx => by rcases hx with e | e; (exact .inr e); exact .inl (.inr e)))
       have B9 := Hd ((uh HBx).trans (T12.below (uh HBx).size (fun x hx e => by rcases e with e | e <;> omega)))
       refine rdy1 11 rfl (fun K hK => ?_)
       go_simp
       refine outH hK ?_ (fun hHeld => ?_)
       ·exact ⟨hk11 _ _ _ hlb x0, hk11 _ _ _ hlb x1, hk11 _ _ _ hlb x2, hk11 _ _ _ hlb x3, hk11 _ _ _ hlb x4, hk11 _ _ _ hlb x5, hk11 _ _ _ hbw d0, hk11 _ _ _ hbw d1, hk11 _ _ _ hbw d2, hk11 _ _ _ hbw d3, hk11 _ _ _ hbw d4⟩
       clear hK K
       refine rdy1 12 rfl (fun K hK => ?_)
       go_simp
       refine outH hK ?_ (fun hHeld => ?_)
       ·exact ⟨hk12 _ _ _ hlb x0, hk12 _ _ _ hlb x1, hk12 _ _ _ hlb x2, hk12 _ _ _ hlb x3, hk12 _ _ _ hlb x4, hk12 _ _ _ hlb x5, hk12 _ _ _ hbw d0, hk12 _ _ _ hbw d1, hk12 _ _ _ hbw d2, hk12 _ _ _ hbw d3, hk12 _ _ _ hbw d4⟩
       clear hK K
       refine wpAnyH_done (by kernel_rfl) (NoPanic.normal ?_) _
       clear hHeld hk11 hk12 T11 T12
       go_wp2_with fail
       go_meet
       exact ⟨nb, rv, _, _, _, rfl, rfl, Hd ⟨uh B9, hnb, hrv, uh N9, uh V9, (uh LB9).mono (fun x hx => .inl (.inl hx))⟩⟩
      ·go_simp
       have hbs := bal y11 (.cells #[.slice none 0 0, .string ⟨#[]⟩, .string ⟨#[]⟩, .int .i64 0, .slice none 0 0, .slice none 0 0] 38)
       replace LBx := Hd (((uh LBx).up.mono (T' := fun x => (((x = w.heap.size ∨ x = lb ∨ ro = some x) ∨ x = rv) ∨ x = y11.heap.size)) (fun x hx => hx.imp id (fun e => by omega))).below hbs)
       have N := Hd (Blk.new y11 #[.slice none 0 0, .string ⟨#[]⟩, .string ⟨#[]⟩, .int .i64 0, .slice none 0 0, .slice none 0 0] 38 y11.heap.size rfl)
       have hnb : w3.heap.size ≤ y11.heap.size := (uh HBx).size
       have hne : rv ≠ y11.heap.size := by have := (uh V).1; omega
       replace HBx := hbt HBx hbs
       replace V := Hd ((uh V).below hbs)
       have hbX := uh HBx
       refine outH hK ?_ (fun hHeld => ?_)
       ·exact ⟨(hbX.cell (p := ⟨lb, 0, none⟩) hlb).trans x0, (hbX.cell (p := ⟨lb, 1, none⟩) hlb).trans x1, (hbX.cell (p := ⟨lb, 2, none⟩) hlb).trans x2, (hbX.cell (p := ⟨lb, 3, none⟩) hlb).trans x3, (hbX.cell (p := ⟨lb, 4, none⟩) hlb).trans x4, (hbX.cell (p := ⟨lb, 5, none⟩) hlb).trans x5, (hbX.cell (p := ⟨b, off + k * 5, none⟩) hbw).trans d0, (hbX.cell (p := ⟨b, off + k * 5 + 1, none⟩) hbw).trans d1, (hbX.cell (p := ⟨b, off + k * 5 + 2, none⟩) hbw).trans d2, (hbX.cell (p := ⟨b, off + k * 5 + 3, none⟩) hbw).trans d3, (hbX.cell (p := ⟨b, off + k * 5 + 4, none⟩) hbw).trans d4⟩
       clear hK K
       clear hbX hbs
       generalize y11.alloc (.cells #[.slice none 0 0, .string ⟨#[]⟩, .string ⟨#[]⟩, .int .i64 0, .slice none 0 0, .slice none 0 0] 38) = y14 at *
       generalize y11.heap.size = nb at *
       refine rdy1 5 rfl (fun K hK => ?_)
       go_simp
       refine (uh HCA _ y14 (uh LBx)).mono ?_
       rintro e y15 ⟨lv2, kv2, sv2, rfl, hs2, hb2, he2, hbs, fl2, fs2⟩
       dsimp only at hs2 hb2 he2
       replace LBx := Hd ((uh LBx).next2 (y := ⟨lsN, oN, ssN⟩) hs2 hb2 he2 fl2 fs2 (fun k hk => by rcases hk with hk | rfl; (rcases hk with hk | rfl; (exact Nat.lt_of_lt_of_le (uh HTl k hk) (uh HBx).size); exact (uh V).1); exact (uh N).1))
       obtain ⟨la2, lc2, ka2, kn2, kc2, sa2, sc2, rfl, rfl, rfl⟩ := (uh LBx).shape
       dsimp only
       clear hs2 hb2 he2 fl2 fs2
       replace HBx := hbt HBx hbs
       replace V := Hd ((uh V).below hbs)
       replace N := Hd ((uh N).below hbs)
       have hbX := uh HBx
       go_wp2_with fail
       refine outH hK ?_ (fun hHeld => ?_)
       ·exact ⟨(hbX.cell (p := ⟨lb, 0, none⟩) hlb).trans x0, (hbX.cell (p := ⟨lb, 1, none⟩) hlb).trans x1, (hbX.cell (p := ⟨lb, 2, none⟩) hlb).trans x2, (hbX.cell (p := ⟨lb, 3, none⟩) hlb).trans x3, (hbX.cell (p := ⟨lb, 4, none⟩) hlb).trans x4, (hbX.cell (p := ⟨lb, 5, none⟩) hlb).trans x5, (hbX.cell (p := ⟨b, off + k * 5, none⟩) hbw).trans d0, (hbX.cell (p := ⟨b, off + k * 5 + 1, none⟩) hbw).trans d1, (hbX.cell (p := ⟨b, off + k * 5 + 2, none⟩) hbw).trans d2, (hbX.cell (p := ⟨b, off + k * 5 + 3, none⟩) hbw).trans d3, (hbX.cell (p := ⟨b, off + k * 5 + 4, none⟩) hbw).trans d4⟩
       clear hK K
       clear hbX hbs
       refine tkH 6 rfl ?_
       refine tkH 7 rfl ?_
       refine tkH 8 rfl ?_
       obtain ⟨⟨n0, n1, n2, n3, n4, n5⟩, _⟩ := Blk.c6 (uh N)
       have v0 := (uh V).cell 0 rfl
       have v1 := (uh V).cell 1 rfl
       have v2 := (uh V).cell 2 rfl
       have nf0 := (uh N).fro 0
       have nf1 := (uh N).fro 1
       have nf2 := (uh N).fro 2
       have nf3 := (uh N).fro 3
       have nf4 := (uh N).fro 4
       have nf5 := (uh N).fro 5
       have vf0 := (uh V).fro 0
       have vf1 := (uh V).fro 1
       have vf2 := (uh V).fro 2
       have hne2 : nb ≠ rv := fun e => hne e.symm
       have T11 := (((((((Touch.refl (fun x => x = nb ∨ x = rv) y15).setCell ⟨nb, 0, none⟩ (.slice la2 lsN.length lc2) (fun _ => .inl rfl)).setCell ⟨nb, 1, none⟩ (.string (brOf oN).key) (fun _ => .inl rfl)).setCell ⟨nb, 2, none⟩ (.string (brOf oN).val) (fun _ => .inl rfl)).setCell ⟨nb, 3, none⟩ (.int .i64 (brOf oN).at_) (fun _ => .inl rfl)).setCell ⟨nb, 4, none⟩ (.slice ka2 kn2 kc2) (fun _ => .inl rfl)).setCell ⟨nb, 5, none⟩ (.slice sa2 ssN.length sc2) (fun _ => .inl rfl))
       have T12 := (((T11.setCell ⟨rv, 0, none⟩ (.int .i64 rN.kd) (fun _ => .inr rfl)).setCell ⟨rv, 1, none⟩ (.int .i64 rN.pl) (fun _ => .inr rfl)).setCell ⟨rv, 2, none⟩ (.string rN.vl) (fun _ => .inr rfl))
       have N9 := Hd ((((((((((uh N).set 0 (.slice la2 lsN.length lc2) (by simp)).set 1 (.string (brOf oN).key) (by simp)).set 2 (.string (brOf oN).val) (by simp)).set 3 (.int .i64 (brOf oN).at_) (by simp)).set 4 (.slice ka2 kn2 kc2) (by simp)).set 5 (.slice sa2 ssN.length sc2) (by simp)).other (C := rv) 0 (.int .i64 rN.kd) (by omega)).other (C := rv) 1 (.int .i64 rN.pl) (by omega)).other (C := rv) 2 (.string rN.vl) (by omega))
       have V9 := Hd ((((((((((uh V).other (C := nb) 0 (.slice la2 lsN.length lc2) (by omega)).other (C := nb) 1 (.string (brOf oN).key) (by omega)).other (C := nb) 2 (.string (brOf oN).val) (by omega)).other (C := nb) 3 (.int .i64 (brOf oN).at_) (by omega)).other (C := nb) 4 (.slice ka2 kn2 kc2) (by omega)).other (C := nb) 5 (.slice sa2 ssN.length sc2) (by omega)).set 0 (.int .i64 rN.kd) (by simp)).set 1 (.int .i64 rN.pl) (by simp)).set 2 (.string rN.vl) (by simp))
       have hsx := (uh HBx).size
       have hk11 := fun (bq i : Nat) (v : Value) (hb9 : bq < w3.heap.size) (h : w3.cell? ⟨bq, i, none⟩ = some v) => (T11.cell (p := ⟨bq, i, none⟩) (show bq < y15.heap.size by omega) (show ¬ (bq = nb ∨ bq = rv) by omega)).trans (((uh HBx).cell (p := ⟨bq, i, none⟩) hb9).trans h)
       have hk12 := fun (bq i : Nat) (v : Value) (hb9 : bq < w3.heap.size) (h : w3.cell? ⟨bq, i, none⟩ = some v) => (T12.cell (p := ⟨bq, i, none⟩) (show bq < y15.heap.size by omega) (show ¬ (bq = nb ∨ bq = rv) by omega)).trans (((uh HBx).cell (p := ⟨bq, i, none⟩) hb9).trans h)
       have LB9 := Hd ((uh LBx).touch T12 (fun x hx => by rcases hx with e | e; (exact .inr e); exact .inl (.inr e)))
       have B9 := Hd ((uh HBx).trans (T12.below (uh HBx).size (fun x hx e => by rcases e with e | e <;> omega)))
       refine rdy1 11 rfl (fun K hK => ?_)
       go_simp
       refine outH hK ?_ (fun hHeld => ?_)
       ·exact ⟨hk11 _ _ _ hlb x0, hk11 _ _ _ hlb x1, hk11 _ _ _ hlb x2, hk11 _ _ _ hlb x3, hk11 _ _ _ hlb x4, hk11 _ _ _ hlb x5, hk11 _ _ _ hbw d0, hk11 _ _ _ hbw d1, hk11 _ _ _ hbw d2, hk11 _ _ _ hbw d3, hk11 _ _ _ hbw d4⟩
       clear hK K
       refine rdy1 12 rfl (fun K hK => ?_)
       go_simp
       refine outH hK ?_ (fun hHeld => ?_)
       ·exact ⟨hk12 _ _ _ hlb x0, hk12 _ _ _ hlb x1, hk12 _ _ _ hlb x2, hk12 _ _ _ hlb x3, hk12 _ _ _ hlb x4, hk12 _ _ _ hlb x5, hk12 _ _ _ hbw d0, hk12 _ _ _ hbw d1, hk12 _ _ _ hbw d2, hk12 _ _ _ hbw d3, hk12 _ _ _ hbw d4⟩
       clear hK K
       refine wpAnyH_done (by kernel_rfl) (NoPanic.normal ?_) _
       clear hHeld hk11 hk12 T11 T12
       go_wp2_with fail
       go_meet
       exact ⟨nb, rv, _, _, _, rfl, rfl, Hd ⟨uh B9, hnb, hrv, uh N9, uh V9, (uh LB9).mono (fun x hx => .inl (.inl hx))⟩⟩
    case rest =>
     obtain ⟨nb, rv, lv2, kv2, sv2, rfl, rfl, HG⟩ := hcut
     obtain ⟨B2, hnb, hrv, N2, V2, LB2⟩ := uh HG
     obtain ⟨la2, lc2, ka2, kn2, kc2, sa2, sc2, rfl, rfl, rfl⟩ := LB2.shape
     dsimp only at LB2 N2 V2
     have L2 := (uh L).below B2
     have hs2 := B2.size
     have hnl : lb ≠ nb := by omega
     have lx0 := L2.cell 0 rfl
     have lf0 := L2.fro 0
     have nx0 := N2.cell 0 rfl
     have lx1 := L2.cell 1 rfl
     have lf1 := L2.fro 1
     have nx1 := N2.cell 1 rfl
     have lx2 := L2.cell 2 rfl
     have lf2 := L2.fro 2
     have nx2 := N2.cell 2 rfl
     have lx3 := L2.cell 3 rfl
     have lf3 := L2.fro 3
     have nx3 := N2.cell 3 rfl
     have lx4 := L2.cell 4 rfl
     have lf4 := L2.fro 4
     have nx4 := N2.cell 4 rfl
     have lx5 := L2.cell 5 rfl
     have lf5 := L2.fro 5
     have nx5 := N2.cell 5 rfl
     have T6 := (((((((Touch.refl (fun x => x = lb) wc).setCell ⟨lb, 0, none⟩ (.slice la2 lsN.length lc2) (fun _ => rfl)).setCell ⟨lb, 1, none⟩ (.string (brOf oN).key) (fun _ => rfl)).setCell ⟨lb, 2, none⟩ (.string (brOf oN).val) (fun _ => rfl)).setCell ⟨lb, 3, none⟩ (.int .i64 (brOf oN).at_) (fun _ => rfl)).setCell ⟨lb, 4, none⟩ (.slice ka2 kn2 kc2) (fun _ => rfl)).setCell ⟨lb, 5, none⟩ (.slice sa2 ssN.length sc2) (fun _ => rfl))
     have K6a := (uh K).trans (B2.mono (uh K).size)
     have K3 := Hd (K6a.trans (T6.below K6a.size (fun x hx e => by omega)))
     have L3 := Hd ((((((L2.set 0 (.slice la2 lsN.length lc2) (by simp [ledC])).set 1 (.string (brOf oN).key) (by simp [ledC])).set 2 (.string (brOf oN).val) (by simp [ledC])).set 3 (.int .i64 (brOf oN).at_) (by simp [ledC])).set 4 (.slice ka2 kn2 kc2) (by simp [ledC])).set 5 (.slice sa2 ssN.length sc2) (by simp [ledC]))
     have R3 := Hd (((uh R).below B2).kept T6 (fun e => by omega))
     have V3' := Hd (V2.kept T6 (fun e => by omega))
     have OR3 := Hd (((uh OR).below B2).kept T6 (fun q hq e => by have := uh HRO q (by rw [uh HROE]; exact hq); omega))
     have LB3 := Hd (LB2.touch T6 (fun x hx => .inr (.inl hx)))
     clear HG B2 N2 V2 LB2 L2 T6 K6a HCA LBx L R K OR x0 x1 x2 x3 x4 x5 d0 d1 d2 d3 d4 HTl
     go_upto_region 14 with fail
     clear lx0 lf0 nx0 lx1 lf1 nx1 lx2 lf2 nx2 lx3 lf3 nx3 lx4 lf4 nx4 lx5 lf5 nx5
     generalize ((((((wc.setCell ⟨lb, 0, none⟩ (.slice la2 lsN.length lc2)).setCell ⟨lb, 1, none⟩ (.string (brOf oN).key)).setCell ⟨lb, 2, none⟩ (.string (brOf oN).val)).setCell ⟨lb, 3, none⟩ (.int .i64 (brOf oN).at_)).setCell ⟨lb, 4, none⟩ (.slice ka2 kn2 kc2)).setCell ⟨lb, 5, none⟩ (.slice sa2 ssN.length sc2)) = w4 at *
     obtain ⟨i0, hi, hz0, hz1, hz2⟩ := info_parts infoRe
     have v0 := (uh V3').cell 0 rfl
     have v1 := (uh V3').cell 1 rfl
     have v2 := (uh V3').cell 2 rfl
     have bB := bal w4 (.cells #[.int .i64 rN.kd, .int .i64 rN.pl, .string rN.vl] 40)
     have O5 := Hd ((uh OR3).below bB)
     unfold OwnRe at O5
     rw [resA_len] at O5
     have V5 := Hd (Blk.new w4 #[.int .i64 rN.kd, .int .i64 rN.pl, .string rN.vl] 40 w4.heap.size rfl)
     have R5 := Hd ((uh R3).below bB)
     have L5 := Hd ((uh L3).below bB)
     have K5 := hbt K3 bB
     have LB5 := Hd (((uh LB3).below bB).up)
     have hl4 : lb < w4.heap.size := (uh L3).1
     have hw5 : lb + 1 ≤ (w4.alloc (.cells #[.int .i64 rN.kd, .int .i64 rN.pl, .string rN.vl] 40)).heap.size := by simp; omega
     clear bB K3 R3 L3 OR3 LB3 V3'
     go_wp2_with (at_builtin; refine wpList_append_row _ rfl _ _ _ rfl (lb + 1) 40 i0 _ 3 32 Tryz.underlying52 hi hz0 hz1 hz2 rfl (by omega) _ k (resC (resA l k)) rfl (uh O5) _ 1 [.int .i64 rN.kd, .int .i64 rN.pl, .string rN.vl] rfl ⟨_, _, rfl, .inr ⟨_, rfl, blk_rw (uh V5)⟩⟩ rfl (by simp [Value.oneCell']) (by unfold maxLen; omega) (by omega) hw5 ?_; intro a6 c6 w6 hown6 hgrow6 hat6; have HA6 := Hd (And.intro hown6 (And.intro hgrow6 hat6)); clear hown6 hgrow6 hat6)
     obtain ⟨hown6, hgrow6, hat6⟩ := uh HA6
     have T6 := grownR hgrow6
     have hge := fun x (hx : (Value.slice ra k rc).ownBlock = some x) => uh HRO x (by rw [uh HROE]; exact hx)
     refine ⟨⟨k + 1, by omega, by go_num, HGN, Hd ⟨?_, ?_, hlb, ?_, .slice la2 lsN.length lc2, .slice ka2 kn2 kc2, .slice sa2 ssN.length sc2, ?_, ?_⟩⟩, ?_⟩
     ·exact (uh K5).trans (T6.below (uh K5).size (fun x hx e => by have := hge x e; omega))
     ·exact (uh R5).kept T6 (fun e => by have := hge _ e; omega)
     ·rw [resA_succ, uh HRE]
      unfold OwnRe
      rw [List.length_append, resA_len, resC_app]
      exact hown6
     ·rw [uh HST]
      exact (uh L5).kept T6 (fun e => by have := hge _ e; omega)
     ·rw [uh HST]
      refine ((uh LB5).touch T6 (fun q hq => .inl (.inr (.inr (by rw [uh HROE]; exact hq))))).mono (fun q hq => ?_)
      rcases hq with e | e | e
      ·exact .inl (.inl e)
      ·exact .inl (.inr (.inl e))
      ·rcases hat6 with e2 | e2
       ·exact .inl (.inr (.inr (by rw [uh HROE]; exact e2.symm.trans e)))
       ·exact .inr (by have h5 := Option.some.inj (e2.symm.trans e); omega)
     ·simp [intOf]; omega
  ·obtain rfl : k = l.length := by omega
   have E := Hd (uh HGD h1 (uh HGO))
   have HLO := HOK
   generalize stA l l.length = x at *
   obtain ⟨ls, o, ss⟩ := x
   dsimp only at LBx
   obtain ⟨kap, kcp, hke, _⟩ := (uh LBx).b.shape
   have hkn : kn = (brOf o).kids.length := by cases hke; rfl
   subst hkn
   clear hke
   have HLE := Hd (l09Own_any (brOf o).key (brOf o).val (brOf o).at_ ls (brOf o).kids ss la ka sa lc kc sc wr (uh LBx).s ((uh LBx).b.mono (fun _ _ => trivial)) (uh LBx).e (by have := (uh HLO).n; dsimp only at this; omega) (by have := lok_cnt (uh HLO); dsimp only at this; omega) (by have := (uh HLO).m; dsimp only at this; omega))
   obtain ⟨⟨x0, x1, x2, x3, x4, x5⟩, _⟩ := Blk.c6 (uh L)
   dsimp only at x0 x1 x2 x3 x4 x5
   go_wp2_with fail
   refine (uh HLE).mono ?_
   rintro e w3 ⟨la2, lc2, ka2, kn2, kc2, sa2, sc2, rfl, hlo, hb3⟩
   have K3 := hbt K hb3
   have R3 := Hd ((uh R).below hb3)
   have OR3 := Hd ((uh OR).below hb3)
   have ORL := Hd ((uh OR).lt)
   have HLO2 := Hd hlo
   have hwl : lb < wr.heap.size := (uh L).1
   have hw3 : w.heap.size < w3.heap.size := (uh R3).1
   have hs3 := hb3.size
   clear hlo hb3 HLE K R OR L LBx x0 x1 x2 x3 x4 x5
   have RX := uh R3
   obtain ⟨⟨rx0, rx1, rx2, rx3, rx4, rx5⟩, _⟩ := Blk.c6 RX
   have rf0 := RX.fro 0
   have rf1 := RX.fro 1
   have rf2 := RX.fro 2
   have rf3 := RX.fro 3
   have rf4 := RX.fro 4
   have rf5 := RX.fro 5
   have HR9 := Hd ((((((RX.set 0 (.slice la2 ls.length lc2) (by simp)).set 1 (.string (brOf o).key) (by simp)).set 2 (.string (brOf o).val) (by simp)).set 3 (.int .i64 (brOf o).at_) (by simp)).set 4 (.slice ka2 kn2 kc2) (by simp)).set 5 (.slice sa2 ss.length sc2) (by simp))
   have HT9 := Hd (((((((Touch.refl (fun x => x = w.heap.size) w3).setCell ⟨w.heap.size, 0, none⟩ (.slice la2 ls.length lc2) (fun _ => rfl)).setCell ⟨w.heap.size, 1, none⟩ (.string (brOf o).key) (fun _ => rfl)).setCell ⟨w.heap.size, 2, none⟩ (.string (brOf o).val) (fun _ => rfl)).setCell ⟨w.heap.size, 3, none⟩ (.int .i64 (brOf o).at_) (fun _ => rfl)).setCell ⟨w.heap.size, 4, none⟩ (.slice ka2 kn2 kc2) (fun _ => rfl)).setCell ⟨w.heap.size, 5, none⟩ (.slice sa2 ss.length sc2) (fun _ => rfl))
   have K9 := Hd ((uh K3).trans ((uh HT9).below (uh K3).size (fun x hx e => by omega)))
   clear RX
   go_wp2_with fail
   have R9 := uh HR9
   obtain ⟨⟨z0, z1, z2, z3, z4, z5⟩, _⟩ := Blk.c6 R9
   refine bodyPost_ret (v := .tuple #[.agg #[.slice la2 ls.length lc2, .string (brOf o).key, .string (brOf o).val, .int .i64 (brOf o).at_, .slice ka2 kn2 kc2, .slice sa2 ss.length sc2], .slice ra l.length rc, .int .i64 0]) (by simp [results, Tryz.results17, go_sem, z0, z1, z2, z3, z4, z5]) rfl ?_
   have hT9 := uh HT9
   have hs9 := hT9.size
   obtain ⟨q1, q2, q3, Sq, q4, q5⟩ := uh HLO2
   refine aa_tell (uh E) ⟨_, _, _, _, rfl, ⟨?_, ?_, q3, ?_, ?_, Sq, q4.touch hT9 (fun x hx e => by have := (q5 x hx).1; omega), fun y hy => ⟨by have := (q5 y hy).1; omega, Nat.lt_of_lt_of_le (q5 y hy).2.1 hs9, (q5 y hy).2.2.1, (q5 y hy).2.2.2, fun e => by have h6 := (uh ORL y e).2; have h7 := (q5 y hy).1; omega⟩⟩, uh K9⟩
   ·exact OwnS.down' (q1.kept hT9 (fun x hx e => by have := (q1.lt x hx).1; omega)) (by omega)
   ·exact (q2.kept hT9 (fun x hx e => by have := (q2.lt x hx).1; omega)).down (by omega)
   ·exact ((uh OR3).kept hT9 (fun x hx e => by have := ((uh OR3).lt x hx).1; omega)).down (by omega)
   ·intro y hy
    have h6 := (uh ORL y hy).2
    exact ⟨fun e => by have := (q1.lt y e).1; omega, fun e => by have := (q2.lt y e).1; omega⟩
end Go.Proofs.YtnhhnjmjodmacaaGreatDoor.Sha
