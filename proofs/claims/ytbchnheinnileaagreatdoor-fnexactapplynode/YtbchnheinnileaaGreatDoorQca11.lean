/- What the proof of the claim needs (joined by program): ApM ApN LeK LeV Bx63. -/
import Derived.Test.YtbchnheinnileaaGreatDoorQca10
import Derived.Test.YtbchnheinnileaaGreatDoorQca04
import Derived.Test.YtbchnheinnileaaGreatDoorQca06
import Derived.Test.YtbchnheinnileaaGreatDoorQca05
import Derived.Test.YtbchnheinnileaaGreatDoorQca00
import Derived.Deep.RegionHeld3
import Derived.Deep.AppendLies
namespace Go.Proofs.YtbchnheinnileaaGreatDoor.Sha
set_option maxRecDepth 100000
set_option maxHeartbeats 8000000
open Go.ChangeShapes Go.WideShapes Go.ChangeAt Go.RowKit Go.Deep
set_option linter.unusedVariables false
set_option linter.unusedSimpArgs false
theorem touch_cell {T : Nat → Prop} {w w' : World} (ht : Touch T w w') (b i : Nat) (hb : b < w.heap.size) (hn : ¬ T b) : w'.cell? ⟨b, i, none⟩ = w.cell? ⟨b, i, none⟩ := by
 simp only [World.cell?, ht.block b hb hn]
theorem Tab.kept {T : Nat → Prop} {w w' : World} (h : Tab w) (ht : Touch T w w') (h1 : ¬ T 0) (h2 : ¬ T 1) : Tab w' :=
 ⟨⟨Nat.lt_of_lt_of_le h.1.1 ht.size, fun i hi => (touch_cell ht _ _ h.1.1 h1).trans (h.1.2 i hi)⟩, ⟨Nat.lt_of_lt_of_le h.2.1 ht.size, fun i hi => (touch_cell ht _ _ h.2.1 h2).trans (h.2.2 i hi)⟩⟩
def MapR (p : Nat) (lv sv : Value) (S : Nat → Prop) (o : Option Tr) (w w' : World) : Prop :=
 ∃ tp' S', Blk w' p [lv, .pointer tp', sv] ∧ PtrM w' S' tp' o ∧ (∀ x, S' x → (S x ∨ w.heap.size ≤ x) ∧ x < w'.heap.size) ∧ Touch (fun q => S q ∨ q = p) w w'
theorem set_any (p : Nat) (lv sv : Value) (tp : Option Addr) (S : Nat → Prop) (o : Option Tr) (key val : ByteArray) (w : World) (hX : Blk w p [lv, .pointer tp, sv]) (hp : PtrM w S tp o) (hri : RiseO o) (hsp : SepO o) (hok : OkO o) (hS : ∀ x, S x → x < w.heap.size ∧ x ≠ p) (hk : key.size ≤ 24) (ht : Tab w) :
  Calls Tryz.prog 109 #[.pointer (some ⟨p, 1, none⟩), .string key, .string val] w fun e w' => (∃ v, e = .returned v) ∧ MapR p lv sv S (some (putO o key val)) w w' := by
 have hpw := hX.1
 have HX := Hd (hX.drewN 1)
 have HP := Hd (hp.blw (below_drewN (Below.refl w.heap.size w) 1))
 have HT := Hd (ht.below (below_drewN (Below.refl w.heap.size w) 1))
 change Hid (Blk w.drew p _) at HX
 change Hid (PtrM w.drew S tp o) at HP
 change Hid (Tab w.drew) at HT
 have HSS := Hd hS
 have HNL := Hd (fun wx (hx : Tab wx) => newLeaf_any key val wx (by omega) hx)
 have HPU := Hd (fun wx q (h : PtrM wx S tp o) (hq : Blk wx q (lfC key val)) (hl : ∀ b, S b → b < wx.heap.size) (hqS : ¬ S q) => put_any key val hk wx S tp q o h hri hsp hok hl hq hqS)
 clear hp hS ht hri hsp hok hX
 go_enter Tryz.func109, Tryz.ntmps109
 go_wp2_with fail
 refine wp_region_noPanic ?_
 refine wp_region_held_drew (S := (fun _ => True)) (by kernel_rfl) ?_ (fun hHeld => ?_)
 ·exact trivial
 refine tkH 0 rfl ?_
 refine tkH 1 rfl ?_
 refine tkH 2 rfl ?_
 refine tkH 3 rfl ?_
 refine tkH 5 rfl ?_
 refine tkH 6 rfl ?_
 have c0 := (uh HX).cell 1 rfl
 refine rdy2 4 7 rfl rfl (fun K hK => ?_) (fun K hK => ?_)
 ·go_simp
  refine hK.out _ _ trivial (fun hHeld => ?_)
  clear hK K c0
  (try simp only [Act.put, List.getElem_toArray, List.getElem_cons_succ, List.getElem_cons_zero, List.setIfInBounds_toArray, List.set_cons_zero, List.set_cons_succ])
  refine rdy1 7 rfl (fun K hK => ?_)
  go_simp
  refine (uh HNL w.drew (uh HT)).mono ?_
  rintro e w1 ⟨q, rfl, hq1, hq2, hb1⟩
  have HQ := Hd (And.intro hq1 (And.intro hq2 hb1))
  clear hq1 hq2 hb1
  go_wp2_with fail
  refine outH hK ?_ (fun hHeld => ?_)
  ·exact trivial
  clear hK K
  clear HNL
  have hq1 := (uh HQ).1
  have hb1 := (uh HQ).2.2
  have hs1 := hb1.size
  have HX1 := Hd ((uh HX).below hb1)
  have HP1 := Hd ((uh HP).blw hb1)
  have hds : w.drew.heap.size = w.heap.size := rfl
  have c1 := (uh HX1).cell 1 rfl
  have HC := Hd (uh HPU w1 q (uh HP1) (uh HQ).2.1 (fun b hb => by have := (uh HSS b hb).1; omega) (fun hb => by have := (uh HSS q hb).1; omega))
  clear HPU HP hb1
  refine rdy1 8 rfl (fun K hK => ?_)
  go_simp
  refine (uh HC).mono ?_
  rintro e w2 ⟨p2, rfl, hN, hT⟩
  have HN := Hd hN
  have HT2 := Hd hT
  clear hN hT HC
  go_wp2_with fail
  refine outH hK ?_ (fun hHeld => ?_)
  ·exact trivial
  clear hK K
  refine tkH 9 rfl ?_
  refine tkH 10 rfl ?_
  have X2 := (uh HX1).kept (uh HT2) (fun e => (uh HSS p e).2 rfl)
  have y1 := X2.cell 1 rfl
  have f1 := X2.fro 1
  have HX2 := Hd X2
  clear X2
  refine rdy1 11 rfl (fun K hK => ?_)
  go_simp
  refine hK.out _ _ trivial (fun hHeld => ?_)
  clear hK K
  (try simp only [Act.put, List.getElem_toArray, List.getElem_cons_succ, List.getElem_cons_zero, List.setIfInBounds_toArray, List.set_cons_zero, List.set_cons_succ])
  refine wpAnyH_done (by kernel_rfl) (NoPanic.normal ?_) _
  go_wp2_with fail
  go_end0
  have hN := uh HN
  have hT := uh HT2
  have hs2 := hT.size
  have hss := uh HSS
  have hpS : ∀ b, (S b ∨ b = q ∨ (w1.heap.size ≤ b ∧ b < w2.heap.size)) → b ≠ p := by
   rintro b (h | h | h) e
   ·exact (hss b h).2 e
   ·omega
   ·omega
  have TS := (Touch.refl (fun k => k = p) w2).setCell ⟨p, 1, none⟩ (.pointer (some ⟨p2, 0, none⟩)) (fun _ => rfl)
  refine ⟨⟨_, rfl⟩, some ⟨p2, 0, none⟩, fun b => S b ∨ b = q ∨ (w1.heap.size ≤ b ∧ b < w2.heap.size), ?_, ⟨p2, rfl, hN.touch TS (fun k hk e => hpS k hk e)⟩, ?_, ?_⟩
  ·have := (uh HX2).set 1 (.pointer (some ⟨p2, 0, none⟩)) (by simp)
   simpa using this
  ·intro x hx
   have hq2 := (uh HQ).2.1.1
   have hz := TS.size
   rcases hx with h | h | h
   ·have := hss x h; exact ⟨.inl h, by omega⟩
   ·exact ⟨.inr (by omega), by omega⟩
   ·exact ⟨.inr (by omega), by omega⟩
  ·have T1 : Touch (fun q => S q ∨ q = p) w w1 := Touch.ofBelow ((below_drewN (Below.refl w.heap.size w) 1).trans ((uh HQ).2.2))
   exact (T1.trans hT (fun j _ e => .inl e)).trans TS (fun j _ e => .inr e)
 ·go_simp
  refine (uh HNL w.drew (uh HT)).mono ?_
  rintro e w1 ⟨q, rfl, hq1, hq2, hb1⟩
  have HQ := Hd (And.intro hq1 (And.intro hq2 hb1))
  clear hq1 hq2 hb1
  go_wp2_with fail
  refine hK.out _ _ trivial (fun hHeld => ?_)
  clear hK K c0
  (try simp only [Act.put, List.getElem_toArray, List.getElem_cons_succ, List.getElem_cons_zero, List.setIfInBounds_toArray, List.set_cons_zero, List.set_cons_succ])
  clear HNL
  have hq1 := (uh HQ).1
  have hb1 := (uh HQ).2.2
  have hs1 := hb1.size
  have HX1 := Hd ((uh HX).below hb1)
  have HP1 := Hd ((uh HP).blw hb1)
  have hds : w.drew.heap.size = w.heap.size := rfl
  have c1 := (uh HX1).cell 1 rfl
  have HC := Hd (uh HPU w1 q (uh HP1) (uh HQ).2.1 (fun b hb => by have := (uh HSS b hb).1; omega) (fun hb => by have := (uh HSS q hb).1; omega))
  clear HPU HP hb1
  refine rdy1 4 rfl (fun K hK => ?_)
  go_simp
  refine hK.out _ _ trivial (fun hHeld => ?_)
  clear hK K
  (try simp only [Act.put, List.getElem_toArray, List.getElem_cons_succ, List.getElem_cons_zero, List.setIfInBounds_toArray, List.set_cons_zero, List.set_cons_succ])
  refine rdy1 8 rfl (fun K hK => ?_)
  go_simp
  refine (uh HC).mono ?_
  rintro e w2 ⟨p2, rfl, hN, hT⟩
  have HN := Hd hN
  have HT2 := Hd hT
  clear hN hT HC
  go_wp2_with fail
  refine outH hK ?_ (fun hHeld => ?_)
  ·exact trivial
  clear hK K
  refine tkH 9 rfl ?_
  refine tkH 10 rfl ?_
  have X2 := (uh HX1).kept (uh HT2) (fun e => (uh HSS p e).2 rfl)
  have y1 := X2.cell 1 rfl
  have f1 := X2.fro 1
  have HX2 := Hd X2
  clear X2
  refine rdy1 11 rfl (fun K hK => ?_)
  go_simp
  refine hK.out _ _ trivial (fun hHeld => ?_)
  clear hK K
  (try simp only [Act.put, List.getElem_toArray, List.getElem_cons_succ, List.getElem_cons_zero, List.setIfInBounds_toArray, List.set_cons_zero, List.set_cons_succ])
  refine wpAnyH_done (by kernel_rfl) (NoPanic.normal ?_) _
  go_wp2_with fail
  go_end0
  have hN := uh HN
  have hT := uh HT2
  have hs2 := hT.size
  have hss := uh HSS
  have hpS : ∀ b, (S b ∨ b = q ∨ (w1.heap.size ≤ b ∧ b < w2.heap.size)) → b ≠ p := by
   rintro b (h | h | h) e
   ·exact (hss b h).2 e
   ·omega
   ·omega
  have TS := (Touch.refl (fun k => k = p) w2).setCell ⟨p, 1, none⟩ (.pointer (some ⟨p2, 0, none⟩)) (fun _ => rfl)
  refine ⟨⟨_, rfl⟩, some ⟨p2, 0, none⟩, fun b => S b ∨ b = q ∨ (w1.heap.size ≤ b ∧ b < w2.heap.size), ?_, ⟨p2, rfl, hN.touch TS (fun k hk e => hpS k hk e)⟩, ?_, ?_⟩
  ·have := (uh HX2).set 1 (.pointer (some ⟨p2, 0, none⟩)) (by simp)
   simpa using this
  ·intro x hx
   have hq2 := (uh HQ).2.1.1
   have hz := TS.size
   rcases hx with h | h | h
   ·have := hss x h; exact ⟨.inl h, by omega⟩
   ·exact ⟨.inr (by omega), by omega⟩
   ·exact ⟨.inr (by omega), by omega⟩
  ·have T1 : Touch (fun q => S q ∨ q = p) w w1 := Touch.ofBelow ((below_drewN (Below.refl w.heap.size w) 1).trans ((uh HQ).2.2))
   exact (T1.trans hT (fun j _ e => .inl e)).trans TS (fun j _ e => .inr e)
theorem drop_any (p : Nat) (lv sv : Value) (pt : Nat) (S : Nat → Prop) (t : Tr) (key : ByteArray) (w : World) (hX : Blk w p [lv, .pointer (some ⟨pt, 0, none⟩), sv]) (hn : Nd w S pt t) (hri : Rise 0 t) (hS : ∀ x, S x → x < w.heap.size ∧ x ≠ p) (hk : key.size ≤ 24) (ht : Tab w) :
  Calls Tryz.prog 108 #[.pointer (some ⟨p, 1, none⟩), .string key] w fun e w' => (∃ v, e = .returned v) ∧ MapR p lv sv S (dropT (kh key) t) w w' := by
 have hpw := hX.1
 obtain ⟨cap, w0, hcv, hB, hb0⟩ := str_bytesB key w.drew (by unfold maxLen; omega)
 have HX := Hd (hX.drewN 1)
 have HP := Hd (hn.blw (below_drewN (Below.refl w.heap.size w) 1))
 change Hid (Blk w.drew p _) at HX
 change Hid (Nd w.drew S pt t) at HP
 have hT0 : Tab w0 := (ht.below (below_drewN (Below.refl w.heap.size w) 1)).below hb0
 have HH := Hd (implHash_any _ _ w0 hB hT0.2 hT0.1)
 have hkh : hashV (bytesI key) = kh key := rfl
 rw [hkh] at HH
 clear hkh
 have HSS := Hd hS
 have HPU := Hd (fun wx (h : Nd wx S pt t) => without_any (kh key) (kh_size (by omega)) t 0 wx S pt h hri)
 have HB0 := Hd hb0
 have HX0 := Hd ((uh HX).below hb0)
 generalize kh key = hk32 at *
 clear hn hS ht hri hX hB hT0 hb0
 go_enter Tryz.func108, Tryz.ntmps108
 go_wp2_with fail
 refine wp_region_noPanic ?_
 refine wp_region_held_drew (S := (fun _ => True)) (by kernel_rfl) ?_ (fun hHeld => ?_)
 ·exact trivial
 refine tkH 0 rfl ?_
 refine tkH 1 rfl ?_
 refine tkH 2 rfl ?_
 refine tkH 3 rfl ?_
 refine tkH 5 rfl ?_
 have c0 := (uh HX).cell 1 rfl
 have c1 := (uh HX0).cell 1 rfl
 refine rdy2 4 6 rfl rfl (fun K hK => ?_) (fun K hK => ?_)
 ·go_simp
  refine hK.out _ _ trivial (fun hHeld => ?_)
  clear hK K
  (try simp only [Act.put, List.getElem_toArray, List.getElem_cons_succ, List.getElem_cons_zero, List.setIfInBounds_toArray, List.set_cons_zero, List.set_cons_succ])
  refine rdy1 6 rfl (fun K hK => ?_)
  go_simp
  refine hK.out _ _ trivial (fun hHeld => ?_)
  clear hK K
  (try simp only [Act.put, List.getElem_toArray, List.getElem_cons_succ, List.getElem_cons_zero, List.setIfInBounds_toArray, List.set_cons_zero, List.set_cons_succ])
  refine rdy1 7 rfl (fun K hK => ?_)
  go_simp
  refine (uh HH).mono ?_
  rintro e w1 ⟨rfl, hb1⟩
  have HB1 := Hd hb1
  clear hb1 HH
  go_wp2_with fail
  refine outH hK ?_ (fun hHeld => ?_)
  ·exact trivial
  clear hK K
  have hds : w.drew.heap.size = w.heap.size := rfl
  have HC := Hd (uh HPU w1 (((uh HP).blw (uh HB0)).blw (uh HB1)))
  have HX1 := Hd ((uh HX0).below (uh HB1))
  clear HPU HP
  refine rdy1 8 rfl (fun K hK => ?_)
  go_simp
  refine (uh HC).mono ?_
  rintro e w2 ⟨pv, rfl, hN, hT⟩
  have HN := Hd hN
  have HT2 := Hd hT
  clear hN hT HC
  go_wp2_with fail
  refine outH hK ?_ (fun hHeld => ?_)
  ·exact trivial
  clear hK K
  refine tkH 9 rfl ?_
  refine tkH 10 rfl ?_
  have X2 := (uh HX1).kept (uh HT2) (fun e => (uh HSS p e).2 rfl)
  have y1 := X2.cell 1 rfl
  have f1 := X2.fro 1
  have HX2 := Hd X2
  clear X2
  refine rdy1 11 rfl (fun K hK => ?_)
  go_simp
  refine hK.out _ _ trivial (fun hHeld => ?_)
  clear hK K
  (try simp only [Act.put, List.getElem_toArray, List.getElem_cons_succ, List.getElem_cons_zero, List.setIfInBounds_toArray, List.set_cons_zero, List.set_cons_succ])
  refine wpAnyH_done (by kernel_rfl) (NoPanic.normal ?_) _
  go_wp2_with fail
  go_end0
  have hN := uh HN
  have hT := uh HT2
  have hs2 := hT.size
  have hs1 := (uh HB1).size
  have hs0 := (uh HB0).size
  have hss := uh HSS
  have TS := (Touch.refl (fun k => k = p) w2).setCell ⟨p, 1, none⟩ (.pointer pv) (fun _ => rfl)
  refine ⟨⟨_, rfl⟩, pv, S, ?_, ?_, ?_, ?_⟩
  ·have := (uh HX2).set 1 (.pointer pv) (by simp)
   simpa using this
  ·have TN : ∀ k, S k → ¬ (k = p) := fun k hk => (hss k hk).2
   revert hN
   cases dropT hk32 t with
   | none => exact fun h => h
   | some t' => rintro ⟨p2, h1, h2⟩; exact ⟨p2, h1, h2.touch TS TN⟩
  ·intro x hx
   have hz := TS.size
   have := hss x hx
   exact ⟨.inl hx, by omega⟩
  ·have T1 : Touch (fun q => S q ∨ q = p) w w1 := Touch.ofBelow ((below_drewN (Below.refl w.heap.size w) 1).trans ((uh HB0).trans ((uh HB1).mono (uh HB0).size)))
   exact (T1.trans hT (fun j _ e => .inl e)).trans TS (fun j _ e => .inr e)
 ·go_simp
  refine hK.out _ _ trivial (fun hHeld => ?_)
  clear hK K
  (try simp only [Act.put, List.getElem_toArray, List.getElem_cons_succ, List.getElem_cons_zero, List.setIfInBounds_toArray, List.set_cons_zero, List.set_cons_succ])
  refine rdy2 4 7 rfl rfl (fun K hK => ?_) (fun K hK => ?_)
  ·go_simp
   refine hK.out _ _ trivial (fun hHeld => ?_)
   clear hK K
   (try simp only [Act.put, List.getElem_toArray, List.getElem_cons_succ, List.getElem_cons_zero, List.setIfInBounds_toArray, List.set_cons_zero, List.set_cons_succ])
   refine rdy1 7 rfl (fun K hK => ?_)
   go_simp
   refine (uh HH).mono ?_
   rintro e w1 ⟨rfl, hb1⟩
   have HB1 := Hd hb1
   clear hb1 HH
   go_wp2_with fail
   refine outH hK ?_ (fun hHeld => ?_)
   ·exact trivial
   clear hK K
   have hds : w.drew.heap.size = w.heap.size := rfl
   have HC := Hd (uh HPU w1 (((uh HP).blw (uh HB0)).blw (uh HB1)))
   have HX1 := Hd ((uh HX0).below (uh HB1))
   clear HPU HP
   refine rdy1 8 rfl (fun K hK => ?_)
   go_simp
   refine (uh HC).mono ?_
   rintro e w2 ⟨pv, rfl, hN, hT⟩
   have HN := Hd hN
   have HT2 := Hd hT
   clear hN hT HC
   go_wp2_with fail
   refine outH hK ?_ (fun hHeld => ?_)
   ·exact trivial
   clear hK K
   refine tkH 9 rfl ?_
   refine tkH 10 rfl ?_
   have X2 := (uh HX1).kept (uh HT2) (fun e => (uh HSS p e).2 rfl)
   have y1 := X2.cell 1 rfl
   have f1 := X2.fro 1
   have HX2 := Hd X2
   clear X2
   refine rdy1 11 rfl (fun K hK => ?_)
   go_simp
   refine hK.out _ _ trivial (fun hHeld => ?_)
   clear hK K
   (try simp only [Act.put, List.getElem_toArray, List.getElem_cons_succ, List.getElem_cons_zero, List.setIfInBounds_toArray, List.set_cons_zero, List.set_cons_succ])
   refine wpAnyH_done (by kernel_rfl) (NoPanic.normal ?_) _
   go_wp2_with fail
   go_end0
   have hN := uh HN
   have hT := uh HT2
   have hs2 := hT.size
   have hs1 := (uh HB1).size
   have hs0 := (uh HB0).size
   have hss := uh HSS
   have TS := (Touch.refl (fun k => k = p) w2).setCell ⟨p, 1, none⟩ (.pointer pv) (fun _ => rfl)
   refine ⟨⟨_, rfl⟩, pv, S, ?_, ?_, ?_, ?_⟩
   ·have := (uh HX2).set 1 (.pointer pv) (by simp)
    simpa using this
   ·have TN : ∀ k, S k → ¬ (k = p) := fun k hk => (hss k hk).2
    revert hN
    cases dropT hk32 t with
    | none => exact fun h => h
    | some t' => rintro ⟨p2, h1, h2⟩; exact ⟨p2, h1, h2.touch TS TN⟩
   ·intro x hx
    have hz := TS.size
    have := hss x hx
    exact ⟨.inl hx, by omega⟩
   ·have T1 : Touch (fun q => S q ∨ q = p) w w1 := Touch.ofBelow ((below_drewN (Below.refl w.heap.size w) 1).trans ((uh HB0).trans ((uh HB1).mono (uh HB0).size)))
    exact (T1.trans hT (fun j _ e => .inl e)).trans TS (fun j _ e => .inr e)
  ·go_simp
   refine (uh HH).mono ?_
   rintro e w1 ⟨rfl, hb1⟩
   have HB1 := Hd hb1
   clear hb1 HH
   go_wp2_with fail
   refine hK.out _ _ trivial (fun hHeld => ?_)
   clear hK K
   (try simp only [Act.put, List.getElem_toArray, List.getElem_cons_succ, List.getElem_cons_zero, List.setIfInBounds_toArray, List.set_cons_zero, List.set_cons_succ])
   have c2 := ((uh HX0).below (uh HB1)).cell 1 rfl
   refine rdy1 4 rfl (fun K hK => ?_)
   go_simp
   refine hK.out _ _ trivial (fun hHeld => ?_)
   clear hK K
   (try simp only [Act.put, List.getElem_toArray, List.getElem_cons_succ, List.getElem_cons_zero, List.setIfInBounds_toArray, List.set_cons_zero, List.set_cons_succ])
   have hds : w.drew.heap.size = w.heap.size := rfl
   have HC := Hd (uh HPU w1 (((uh HP).blw (uh HB0)).blw (uh HB1)))
   have HX1 := Hd ((uh HX0).below (uh HB1))
   clear HPU HP
   refine rdy1 8 rfl (fun K hK => ?_)
   go_simp
   refine (uh HC).mono ?_
   rintro e w2 ⟨pv, rfl, hN, hT⟩
   have HN := Hd hN
   have HT2 := Hd hT
   clear hN hT HC
   go_wp2_with fail
   refine outH hK ?_ (fun hHeld => ?_)
   ·exact trivial
   clear hK K
   refine tkH 9 rfl ?_
   refine tkH 10 rfl ?_
   have X2 := (uh HX1).kept (uh HT2) (fun e => (uh HSS p e).2 rfl)
   have y1 := X2.cell 1 rfl
   have f1 := X2.fro 1
   have HX2 := Hd X2
   clear X2
   refine rdy1 11 rfl (fun K hK => ?_)
   go_simp
   refine hK.out _ _ trivial (fun hHeld => ?_)
   clear hK K
   (try simp only [Act.put, List.getElem_toArray, List.getElem_cons_succ, List.getElem_cons_zero, List.setIfInBounds_toArray, List.set_cons_zero, List.set_cons_succ])
   refine wpAnyH_done (by kernel_rfl) (NoPanic.normal ?_) _
   go_wp2_with fail
   go_end0
   have hN := uh HN
   have hT := uh HT2
   have hs2 := hT.size
   have hs1 := (uh HB1).size
   have hs0 := (uh HB0).size
   have hss := uh HSS
   have TS := (Touch.refl (fun k => k = p) w2).setCell ⟨p, 1, none⟩ (.pointer pv) (fun _ => rfl)
   refine ⟨⟨_, rfl⟩, pv, S, ?_, ?_, ?_, ?_⟩
   ·have := (uh HX2).set 1 (.pointer pv) (by simp)
    simpa using this
   ·have TN : ∀ k, S k → ¬ (k = p) := fun k hk => (hss k hk).2
    revert hN
    cases dropT hk32 t with
    | none => exact fun h => h
    | some t' => rintro ⟨p2, h1, h2⟩; exact ⟨p2, h1, h2.touch TS TN⟩
   ·intro x hx
    have hz := TS.size
    have := hss x hx
    exact ⟨.inl hx, by omega⟩
   ·have T1 : Touch (fun q => S q ∨ q = p) w w1 := Touch.ofBelow ((below_drewN (Below.refl w.heap.size w) 1).trans ((uh HB0).trans ((uh HB1).mono (uh HB0).size)))
    exact (T1.trans hT (fun j _ e => .inl e)).trans TS (fun j _ e => .inr e)
theorem infoStr_ : (Tryz.prog.info? 9).map (fun i => (i.zero, i.size, i.bytes)) = some (some (.string ⟨#[]⟩), 1, 16) := by kernel_rfl
theorem own_str {B : Nat} {w : World} {v : Value} {l : List Int} (h : OwnB B w v l) (hl : 0 < l.length) : (convert 80 9 v).run Tryz.prog w = .ok (.string (strOfNums l)) w := by
 obtain ⟨g, cap, rfl, _, _⟩ := World.ownsRow.form h.1 hl
 refine run_convert_bytes_arg (P := Tryz.prog) w 80 5 Tryz.underlying80 Tryz.underlying5 g 0 l.length cap l rfl (fun i hi => ?_) 9 Tryz.underlying9
 have := h.1.cellAt i (by omega)
 rw [Nat.zero_add, this, List.getElem?_map, List.getElem?_eq_getElem hi, Option.map_some, List.getD_eq_getElem?_getD, List.getElem?_eq_getElem hi]
 rfl
def LogR (B p : Nat) (lv : Value) (tp : Option Addr) (sv : Value) (ls : List ByteArray) (w w' : World) : Prop :=
 ∃ lv', Blk w' p [lv', .pointer tp, sv] ∧ OwnS B w' lv' ls ∧ (lv'.ownBlock = lv.ownBlock ∨ ∃ g, lv'.ownBlock = some g ∧ w.heap.size ≤ g) ∧ Touch (fun q => lv.ownBlock = some q ∨ q = p) w w'
theorem note_any (B p : Nat) (lv sv : Value) (tp : Option Addr) (ls : List ByteArray) (c : Cm) (w : World) (hX : Blk w p [lv, .pointer tp, sv]) (hO : OwnS B w lv ls) (hB : B ≤ w.heap.size) (hpo : lv.ownBlock ≠ some p) (hc : cmK c = true) (hk : c.ky.size ≤ 24) (hv : c.vl.size ≤ 60) (hn : ls.length ≤ 1000) (ht : Tab w) :
  Calls Tryz.prog 110 #[.pointer (some ⟨p, 0, none⟩), .agg #[.int .i64 c.kd, .int .i64 c.ss, .int .i64 c.sq, .string c.ky, .string c.vl]] w fun e w' => (∃ v, e = .returned v) ∧ LogR B p lv tp sv (ls ++ [leafC c]) w w' := by
 obtain ⟨i0, hi, hz0, hz1, hz2⟩ := info_parts infoStr_
 obtain ⟨ckd, css, csq, cky, cvl⟩ := c
 dsimp only at hk hv ⊢
 have HLF : Hid (leafC ⟨ckd, css, csq, cky, cvl⟩ = leafV (strOfNums (cmdBytes ckd css csq cky cvl))) := Hd rfl
 generalize leafC ⟨ckd, css, csq, cky, cvl⟩ = lf at *
 have hco : cmdOut ckd css csq cky cvl = (cmdBytes ckd css csq cky cvl, 0) := by unfold cmdOut; rw [if_pos (show cmdOK ckd css csq cky cvl = true from hc)]
 have hbl : 0 < (cmdBytes ckd css csq cky cvl).length ∧ (strOfNums (cmdBytes ckd css csq cky cvl)).size ≤ 100 := by
  have e1 : cky.data.size = cky.size := rfl
  have e2 : cvl.data.size = cvl.size := rfl
  simp only [strOfNums, ByteArray.size, cmdBytes, List.length_append, encN_len, textsL_len, sizes, List.size_toArray, List.length_map]
  omega
 have HCB := Hd (fun wx => implCommandBytes_any ckd css csq cky cvl wx (by unfold maxLen; omega) (by unfold maxLen; omega))
 rw [hco] at HCB
 dsimp only at HCB
 generalize cmdBytes ckd css csq cky cvl = bs at *
 obtain ⟨hbl1, hbl2⟩ := hbl
 have B0 := Hd (bal w (.cells #[.int .i64 ckd, .int .i64 css, .int .i64 csq, .string cky, .string cvl] 77))
 have HX := Hd hX
 have HO := Hd hO
 have HT := Hd ht
 have HP := Hd (And.intro hpo hX.1)
 clear hX hO ht hc hco hpo
 go_enter Tryz.func110, Tryz.ntmps110
 go_wp2_with fail
 generalize w.alloc (.cells #[.int .i64 ckd, .int .i64 css, .int .i64 csq, .string cky, .string cvl] 77) = w0 at *
 refine (uh HCB w0).mono ?_
 rintro e w1 ⟨v1, rfl, hOB, hb1⟩
 have K1 := hbt B0 hb1
 have hcv := own_str hOB hbl1
 have HLH := Hd (implLeaf_any (strOfNums bs) w1 (by omega) ((uh HT).below (uh K1)))
 have hlo : leafOut (strOfNums bs) = .tuple #[.string lf, .int .i64 0] := by unfold leafOut; rw [if_neg (by omega), ← uh HLF]
 rw [hlo] at HLH
 clear hlo hOB hb1 B0 HCB HLF
 generalize strOfNums bs = bt at *
 go_wp2_with fail
 refine (uh HLH).mono ?_
 rintro e w2 ⟨rfl, hb2⟩
 have K2 := hbt K1 hb2
 have hs2 := (uh K2).size
 clear hb2 HLH hcv K1
 have X2 := (uh HX).below (uh K2)
 have x0 := X2.cell 0 rfl
 have HX2 := Hd X2
 have HO2 := Hd ((uh HO).below (uh K2))
 clear X2
 obtain ⟨ob, hob⟩ : ∃ ob, ob = lv.ownBlock := ⟨_, rfl⟩
 have HOB := Hd hob
 clear hob
 go_wp2_with (at_builtin; refine wpList_append_lies _ rfl _ _ 27 rfl B 9 i0 _ 1 16 Tryz.underlying27 hi hz0 hz1 hz2 rfl (by omega) lv ls.length _ rfl (World.ownsRow.alloc (uh HO2) _) ⟨w2.heap.size, 0, none⟩ 1 1 [_] rfl rfl (World.news_of_block (cs := #[_]) (t := 9) (fr := (0, 0)) (heap_alloc_new w2 _)) (by simp [Value.oneCell']) (by omega) (by unfold maxLen; omega) (by omega) (by simp; omega) _ rfl ?_; intro g5 cap5 w5 hown5 hgrow5 hat5 hlt5; have R5 := Hd (And.intro hown5 (And.intro hgrow5 hat5)); have TT := (Touch.refl (fun q => lv.ownBlock = some q) (w2.alloc (.cells #[.string lf] 9))).grown hgrow5 (fun q e _ => e); have X5 := ((uh HX2).alloc (.cells #[.string lf] 9)).kept TT (fun e => (uh HP).1 e); have y0 := X5.cell 0 rfl; have f0 := X5.fro 0; have HX5 := Hd X5; have HTT := Hd TT; clear hown5 hgrow5 hat5 hlt5 TT X5)
 go_end0
 obtain ⟨hown5, hgrow5, hat5⟩ := uh R5
 have TS := (Touch.refl (fun k => k = p) w5).setCell ⟨p, 0, none⟩ (.slice (some ⟨g5, 0, none⟩) (ls.length + 1) cap5) (fun _ => rfl)
 have hg5 : g5 ≠ p := by
  rcases hat5 with h | h
  ·exact fun e => (uh HP).1 (by rw [h, e])
  ·have := (uh HP).2
   simp only [World.size_alloc] at h
   omega
 refine ⟨⟨_, rfl⟩, .slice (some ⟨g5, 0, none⟩) (ls.length + 1) cap5, ?_, ?_, ?_, ?_⟩
 ·have := (uh HX5).set 0 (.slice (some ⟨g5, 0, none⟩) (ls.length + 1) cap5) (by simp)
  simpa using this
 ·refine own_kept (T := fun k => k = p) ?_ TS (fun k hk e => hg5 (by simp [Value.ownBlock] at hk; omega))

  rw [List.length_append, List.map_append]
  exact hown5
 ·rcases hat5 with h | h
  ·exact .inl h.symm
  ·refine .inr ⟨g5, rfl, ?_⟩
   simp only [World.size_alloc] at h
   omega
 ·have T2 : Touch (fun q => lv.ownBlock = some q ∨ q = p) w w2 := Touch.ofBelow (uh K2)
  exact ((T2.alloc (.cells #[.string lf] 9)).trans (uh HTT) (fun j _ e => .inl e)).trans TS (fun j _ e => .inr e)
end Go.Proofs.YtbchnheinnileaaGreatDoor.Sha
namespace Go.Proofs.YtbchnheinnileaaGreatDoor.Sha
set_option maxRecDepth 100000
set_option maxHeartbeats 8000000
open Go.ChangeShapes Go.WideShapes Go.ChangeAt Go.RowKit
set_option linter.unusedVariables false
set_option linter.unusedSimpArgs false
theorem places_any (p : Nat) (a : Option Addr) (n c : Nat) (w : World) (h : w.cell? ⟨p, 0, none⟩ = some (.slice a n c)) (hn : n ≤ maxLen) :
  Calls Tryz.prog 111 #[.pointer (some ⟨p, 0, none⟩)] w fun e w' => e = .returned (.int .i64 n) ∧ w' = w := by
 unfold maxLen at hn
 go_enter Tryz.func111, Tryz.ntmps111
 go_wp2_with fail
 go_ret
 exact ⟨rfl, rfl⟩
theorem keys_any (p : Nat) (tp : Option Addr) (S : Nat → Prop) (o : Option Tr) (w : World) (hc : w.cell? ⟨p, 1, none⟩ = some (.pointer tp)) (hp : PtrM w S tp o) (hok : OkO o) (h40 : lvO o ≤ 1000) :
  Calls Tryz.prog 117 #[.pointer (some ⟨p, 1, none⟩)] w fun e w' => e = .returned (.int .i64 (lvO o)) ∧ Below w.heap.size w w' := by
 have HT := Hd (sizeO_any hp hok h40)
 clear hp hok
 generalize lvO o = tv at *
 go_enter Tryz.func117, Tryz.ntmps117
 go_wp2_with fail
 refine (uh HT).mono ?_
 rintro e w1 ⟨rfl, hb1⟩
 have K := Hd hb1
 clear hb1
 go_wp2_with fail
 go_ret
 exact ⟨rfl, uh K⟩
end Go.Proofs.YtbchnheinnileaaGreatDoor.Sha
namespace Go.Proofs.YtbchnheinnileaaGreatDoor.Sha
set_option maxRecDepth 100000
set_option maxHeartbeats 8000000
open Go.ChangeShapes Go.WideShapes Go.ChangeAt Go.RowKit
set_option linter.unusedVariables false
def valV (o : Option Tr) (key : ByteArray) : Value := match getV o key with
 | none => .tuple #[.string ⟨#[]⟩, .bool false]
 | some x => .tuple #[.string x, .bool true]
theorem value_any (p : Nat) (key : ByteArray) (hk : key.size ≤ 24) (w : World) (S : Nat → Prop) (pv : Option Addr) (o : Option Tr) (hc : w.cell? ⟨p, 1, none⟩ = some (.pointer pv)) (hp : PtrM w S pv o) (hr : RiseO o) (ht : Tab w) :
  Calls Tryz.prog 105 #[.pointer (some ⟨p, 1, none⟩), .string key] w fun e w' => e = .returned (valV o key) ∧ Below w.heap.size w w' := by
 have HFD := Hd (find_any key hk w S pv o hp hr ht)
 clear hp hr ht hk
 go_enter Tryz.func105, Tryz.ntmps105
 go_wp2_with fail
 refine (uh HFD).mono ?_
 rintro e w3 ⟨qv, rfl, hb3, hq⟩
 have B3 := Hd hb3
 clear hb3 HFD
 rcases hq with ⟨hq1, hq2⟩ | ⟨t, q, hq1, hq2, hq3, hq4⟩
 ·have HG : Hid (valV o key = .tuple #[.string ⟨#[]⟩, .bool false]) := Hd (by
   have : getV o key = none := by
    cases o with
    | none => rfl
    | some t => unfold getV; dsimp only; rw [if_neg (hq2 t rfl)]
   unfold valV; rw [this])
  subst hq1
  clear hq2
  go_wp2_with fail
  go_ret2
  exact ⟨by rw [uh HG]; rfl, uh B3⟩
 ·have HG : Hid (valV o key = .tuple #[.string (leadL (kh key) t).2, .bool true]) := Hd (by
   have : getV o key = some (leadL (kh key) t).2 := by
    subst hq1; unfold getV; dsimp only; rw [if_pos hq2]
   unfold valV; rw [this])
  subst hq3
  have c1 := hq4.cell 1 rfl
  clear hq1 hq2 hq4
  generalize (leadL (kh key) t).2 = x at *
  go_wp2_with fail
  go_ret2
  exact ⟨by rw [uh HG]; rfl, uh B3⟩
end Go.Proofs.YtbchnheinnileaaGreatDoor.Sha
namespace Go.Proofs.YtbchnheinnileaaGreatDoor
set_option maxRecDepth 100000
set_option maxHeartbeats 8000000
open Go.ChangeShapes Go.WideShapes Go.ChangeAt Go.RowKit
set_option linter.unusedVariables false
abbrev set6 (w : World) (b : Nat) (x0 x1 x2 x3 x4 x5 : Value) : World := (((((w.setCell ⟨b, 0, none⟩ x0).setCell ⟨b, 1, none⟩ x1).setCell ⟨b, 2, none⟩ x2).setCell ⟨b, 3, none⟩ x3).setCell ⟨b, 4, none⟩ x4).setCell ⟨b, 5, none⟩ x5
abbrev set3 (w : World) (b : Nat) (x0 x1 x2 : Value) : World := ((w.setCell ⟨b, 0, none⟩ x0).setCell ⟨b, 1, none⟩ x1).setCell ⟨b, 2, none⟩ x2
theorem Blk.c6 {w : World} {b : Nat} {a0 a1 a2 a3 a4 a5 : Value} (h : Blk w b [a0, a1, a2, a3, a4, a5]) : (w.cell? ⟨b, 0, none⟩ = some a0 ∧ w.cell? ⟨b, 1, none⟩ = some a1 ∧ w.cell? ⟨b, 2, none⟩ = some a2 ∧ w.cell? ⟨b, 3, none⟩ = some a3 ∧ w.cell? ⟨b, 4, none⟩ = some a4 ∧ w.cell? ⟨b, 5, none⟩ = some a5) ∧ (w.frozen? ⟨b, 0, none⟩ = false ∧ w.frozen? ⟨b, 1, none⟩ = false ∧ w.frozen? ⟨b, 2, none⟩ = false ∧ w.frozen? ⟨b, 3, none⟩ = false ∧ w.frozen? ⟨b, 4, none⟩ = false ∧ w.frozen? ⟨b, 5, none⟩ = false) :=
 ⟨⟨h.cell 0 rfl, h.cell 1 rfl, h.cell 2 rfl, h.cell 3 rfl, h.cell 4 rfl, h.cell 5 rfl⟩, h.fro 0, h.fro 1, h.fro 2, h.fro 3, h.fro 4, h.fro 5⟩
theorem Blk.c5 {w : World} {b : Nat} {a0 a1 a2 a3 a4 : Value} (h : Blk w b [a0, a1, a2, a3, a4]) : w.cell? ⟨b, 0, none⟩ = some a0 ∧ w.cell? ⟨b, 1, none⟩ = some a1 ∧ w.cell? ⟨b, 2, none⟩ = some a2 ∧ w.cell? ⟨b, 3, none⟩ = some a3 ∧ w.cell? ⟨b, 4, none⟩ = some a4 :=
 ⟨h.cell 0 rfl, h.cell 1 rfl, h.cell 2 rfl, h.cell 3 rfl, h.cell 4 rfl⟩
theorem Blk.c3 {w : World} {b : Nat} {a0 a1 a2 : Value} (h : Blk w b [a0, a1, a2]) : (w.cell? ⟨b, 0, none⟩ = some a0 ∧ w.cell? ⟨b, 1, none⟩ = some a1 ∧ w.cell? ⟨b, 2, none⟩ = some a2) ∧ (w.frozen? ⟨b, 0, none⟩ = false ∧ w.frozen? ⟨b, 1, none⟩ = false ∧ w.frozen? ⟨b, 2, none⟩ = false) :=
 ⟨⟨h.cell 0 rfl, h.cell 1 rfl, h.cell 2 rfl⟩, h.fro 0, h.fro 1, h.fro 2⟩
theorem st6 {w : World} {b : Nat} {a0 a1 a2 a3 a4 a5 : Value} (h : Blk w b [a0, a1, a2, a3, a4, a5]) (x0 x1 x2 x3 x4 x5 : Value) : Blk (set6 w b x0 x1 x2 x3 x4 x5) b [x0, x1, x2, x3, x4, x5] :=
 (((((h.set 0 x0 (by simp)).set 1 x1 (by simp)).set 2 x2 (by simp)).set 3 x3 (by simp)).set 4 x4 (by simp)).set 5 x5 (by simp)
theorem st3 {w : World} {b : Nat} {a0 a1 a2 : Value} (h : Blk w b [a0, a1, a2]) (x0 x1 x2 : Value) : Blk (set3 w b x0 x1 x2) b [x0, x1, x2] :=
 ((h.set 0 x0 (by simp)).set 1 x1 (by simp)).set 2 x2 (by simp)
theorem tc6 {T : Nat → Prop} {w0 w : World} (h : Touch T w0 w) (b : Nat) (hb : T b) (x0 x1 x2 x3 x4 x5 : Value) : Touch T w0 (set6 w b x0 x1 x2 x3 x4 x5) :=
 (((((h.setCell ⟨b, 0, none⟩ x0 (fun _ => hb)).setCell ⟨b, 1, none⟩ x1 (fun _ => hb)).setCell ⟨b, 2, none⟩ x2 (fun _ => hb)).setCell ⟨b, 3, none⟩ x3 (fun _ => hb)).setCell ⟨b, 4, none⟩ x4 (fun _ => hb)).setCell ⟨b, 5, none⟩ x5 (fun _ => hb)
theorem tc3 {T : Nat → Prop} {w0 w : World} (h : Touch T w0 w) (b : Nat) (hb : T b) (x0 x1 x2 : Value) : Touch T w0 (set3 w b x0 x1 x2) :=
 ((h.setCell ⟨b, 0, none⟩ x0 (fun _ => hb)).setCell ⟨b, 1, none⟩ x1 (fun _ => hb)).setCell ⟨b, 2, none⟩ x2 (fun _ => hb)
theorem end63 {w : World} {ob rb : Nat} {a0 a1 a2 a3 a4 a5 b0 b1 b2 : Value} (hO : Blk w ob [a0, a1, a2, a3, a4, a5]) (hR : Blk w rb [b0, b1, b2]) (hne : ob ≠ rb) (x0 x1 x2 x3 x4 x5 y0 y1 y2 : Value) :
  Hid (Blk (set3 (set6 w ob x0 x1 x2 x3 x4 x5) rb y0 y1 y2) ob [x0, x1, x2, x3, x4, x5]) ∧ Hid (Blk (set3 (set6 w ob x0 x1 x2 x3 x4 x5) rb y0 y1 y2) rb [y0, y1, y2]) ∧ Hid (Touch (fun k => k = ob ∨ k = rb) w (set3 (set6 w ob x0 x1 x2 x3 x4 x5) rb y0 y1 y2)) :=
 ⟨Hd ((st6 hO x0 x1 x2 x3 x4 x5).kept (tc3 (Touch.refl (fun q => q = rb) _) rb rfl y0 y1 y2) (fun e => hne e)), Hd (st3 (hR.kept (tc6 (Touch.refl (fun q => q = ob) w) ob rfl x0 x1 x2 x3 x4 x5) (fun e => hne e.symm)) y0 y1 y2), Hd (tc3 (tc6 (Touch.refl (fun k => k = ob ∨ k = rb) w) ob (.inl rfl) x0 x1 x2 x3 x4 x5) rb (.inr rfl) y0 y1 y2)⟩
end Go.Proofs.YtbchnheinnileaaGreatDoor
