/- (*keyMap).set, (*keyMap).drop, walked. (Written by py/apm.py.) -/
import Derived.Test.YtnhhnjmjodmacaaGreatDoorQan24
import Derived.Test.YtnhhnjmjodmacaaGreatDoorQan25
import Derived.Deep.RegionHeld3
namespace Go.Proofs.YtnhhnjmjodmacaaGreatDoor.Sha
open Go.ChangeShapes Go.WideShapes Go.ChangeAt Go.RowKit Go.Deep
set_option linter.unusedVariables false
set_option linter.unusedSimpArgs false
theorem touch_cell {T : Nat → Prop} {w w' : World} (ht : Touch T w w') (b i : Nat) (hb : b < w.heap.size) (hn : ¬ T b) : w'.cell? ⟨b, i, none⟩ = w.cell? ⟨b, i, none⟩ := by
  simp only [World.cell?, ht.block b hb hn]
theorem Tab.kept {T : Nat → Prop} {w w' : World} (h : Tab w) (ht : Touch T w w') (h1 : ¬ T 0) (h2 : ¬ T 1) : Tab w' :=
  ⟨⟨Nat.lt_of_lt_of_le h.1.1 ht.size, fun i hi => (touch_cell ht _ _ h.1.1 h1).trans (h.1.2 i hi)⟩, ⟨Nat.lt_of_lt_of_le h.2.1 ht.size, fun i hi => (touch_cell ht _ _ h.2.1 h2).trans (h.2.2 i hi)⟩⟩
/-- The map at cell 1 of block p is another one now. -/
def MapR (p : Nat) (lv sv : Value) (S : Nat → Prop) (o : Option Tr) (w w' : World) : Prop :=
  ∃ tp' S', Blk w' p [lv, .pointer tp', sv] ∧ PtrM w' S' tp' o ∧ (∀ x, S' x → (S x ∨ w.heap.size ≤ x) ∧ x < w'.heap.size) ∧ Touch (fun q => S q ∨ q = p) w w'
set_option maxRecDepth 100000 in
set_option maxHeartbeats 4000000 in
theorem set_any (p : Nat) (lv sv : Value) (tp : Option Addr) (S : Nat → Prop) (o : Option Tr) (key val : ByteArray) (w : World) (hX : Blk w p [lv, .pointer tp, sv]) (hp : PtrM w S tp o) (hri : RiseO o) (hsp : SepO o) (hok : OkO o) (hS : ∀ x, S x → x < w.heap.size ∧ x ≠ p) (hk : key.size ≤ 24) (ht : Tab w) :
    Calls Tryz.prog 123 #[.pointer (some ⟨p, 1, none⟩), .string key, .string val] w fun e w' => (∃ v, e = .returned v) ∧ MapR p lv sv S (some (putO o key val)) w w' := by
  have hpw := hX.1
  have HX := hide (hX.drewN 1)
  have HP := hide (hp.blw (below_drewN (Below.refl w.heap.size w) 1))
  have HT := hide (ht.below (below_drewN (Below.refl w.heap.size w) 1))
  change Hid (Blk w.drew p _) at HX
  change Hid (PtrM w.drew S tp o) at HP
  change Hid (Tab w.drew) at HT
  have HSS := hide hS
  have HNL := hide (fun wx (hx : Tab wx) => newLeaf_any key val wx (by omega) hx)
  have HPU := hide (fun wx q (h : PtrM wx S tp o) (hq : Blk wx q (lfC key val)) (hl : ∀ b, S b → b < wx.heap.size) (hqS : ¬ S q) => put_any key val hk wx S tp q o h hri hsp hok hl hq hqS)
  clear hp hS ht hri hsp hok hX
  go_enter Tryz.func123, Tryz.ntmps123
  go_wp2_with fail
  refine wp_region_noPanic ?_
  refine wp_region_held_drew (S := (fun _ => True)) (by kernel_rfl) ?_ (fun hHeld => ?_)
  · exact trivial
  refine tkH 0 rfl ?_
  refine tkH 1 rfl ?_
  refine tkH 2 rfl ?_
  refine tkH 3 rfl ?_
  refine tkH 5 rfl ?_
  refine tkH 6 rfl ?_
  have c0 := (unhide HX).cell 1 rfl
  refine wpAnyH_ready (rs := [4, 7]) (by kernel_rfl) (by simp) ?_
  refine AllReadyH.cons (o := _) rfl (fun K hK => ?_) (AllReadyH.cons (o := _) rfl (fun K hK => ?_) AllReadyH.nil)
  · go_simp
    refine hK.out _ _ trivial (fun hHeld => ?_)
    clear hK K c0
    (try simp only [Act.put, List.getElem_toArray, List.getElem_cons_succ, List.getElem_cons_zero, List.setIfInBounds_toArray, List.set_cons_zero, List.set_cons_succ])
    refine wpAnyH_ready (rs := [7]) (by kernel_rfl) (by simp) ?_
    refine AllReadyH.cons (o := _) rfl (fun K hK => ?_) AllReadyH.nil
    go_simp
    refine (unhide HNL w.drew (unhide HT)).mono ?_
    rintro e w1 ⟨q, rfl, hq1, hq2, hb1⟩
    have HQ := hide (And.intro hq1 (And.intro hq2 hb1))
    clear hq1 hq2 hb1
    go_wp2_with fail
    refine hK.out _ _ ?_ (fun hHeld => ?_)
    · exact trivial
    clear hK K
    (try simp only [Act.put, List.getElem_toArray, List.getElem_cons_succ, List.getElem_cons_zero, List.setIfInBounds_toArray, List.set_cons_zero, List.set_cons_succ])
    clear HNL
    have hq1 := (unhide HQ).1
    have hb1 := (unhide HQ).2.2
    have hs1 := hb1.size
    have HX1 := hide ((unhide HX).below hb1)
    have HP1 := hide ((unhide HP).blw hb1)
    have hds : w.drew.heap.size = w.heap.size := rfl
    have c1 := (unhide HX1).cell 1 rfl
    have HC := hide (unhide HPU w1 q (unhide HP1) (unhide HQ).2.1 (fun b hb => by have := (unhide HSS b hb).1; omega) (fun hb => by have := (unhide HSS q hb).1; omega))
    clear HPU HP hb1
    refine wpAnyH_ready (rs := [8]) (by kernel_rfl) (by simp) ?_
    refine AllReadyH.cons (o := _) rfl (fun K hK => ?_) AllReadyH.nil
    go_simp
    refine (unhide HC).mono ?_
    rintro e w2 ⟨p2, rfl, hN, hT⟩
    have HN := hide hN
    have HT2 := hide hT
    clear hN hT HC
    go_wp2_with fail
    refine hK.out _ _ ?_ (fun hHeld => ?_)
    · exact trivial
    clear hK K
    (try simp only [Act.put, List.getElem_toArray, List.getElem_cons_succ, List.getElem_cons_zero, List.setIfInBounds_toArray, List.set_cons_zero, List.set_cons_succ])
    refine tkH 9 rfl ?_
    refine tkH 10 rfl ?_
    have X2 := (unhide HX1).kept (unhide HT2) (fun e => (unhide HSS p e).2 rfl)
    have y1 := X2.cell 1 rfl
    have f1 := X2.fro 1
    have HX2 := hide X2
    clear X2
    refine wpAnyH_ready (rs := [11]) (by kernel_rfl) (by simp) ?_
    refine AllReadyH.cons (o := _) rfl (fun K hK => ?_) AllReadyH.nil
    go_simp
    refine hK.out _ _ trivial (fun hHeld => ?_)
    clear hK K
    (try simp only [Act.put, List.getElem_toArray, List.getElem_cons_succ, List.getElem_cons_zero, List.setIfInBounds_toArray, List.set_cons_zero, List.set_cons_succ])
    refine wpAnyH_done (by kernel_rfl) (NoPanic.normal ?_) _
    go_wp2_with fail
    go_end0
    have hN := unhide HN
    have hT := unhide HT2
    have hs2 := hT.size
    have hss := unhide HSS
    have hpS : ∀ b, (S b ∨ b = q ∨ (w1.heap.size ≤ b ∧ b < w2.heap.size)) → b ≠ p := by
      rintro b (h | h | h) e
      · exact (hss b h).2 e
      · omega
      · omega
    have TS := (Touch.refl (fun k => k = p) w2).setCell ⟨p, 1, none⟩ (.pointer (some ⟨p2, 0, none⟩)) (fun _ => rfl)
    refine ⟨⟨_, rfl⟩, some ⟨p2, 0, none⟩, fun b => S b ∨ b = q ∨ (w1.heap.size ≤ b ∧ b < w2.heap.size), ?_, ⟨p2, rfl, hN.touch TS (fun k hk e => hpS k hk e)⟩, ?_, ?_⟩
    · have := (unhide HX2).set 1 (.pointer (some ⟨p2, 0, none⟩)) (by simp)
      simpa using this
    · intro x hx
      have hq2 := (unhide HQ).2.1.1
      have hz := TS.size
      rcases hx with h | h | h
      · have := hss x h; exact ⟨.inl h, by omega⟩
      · exact ⟨.inr (by omega), by omega⟩
      · exact ⟨.inr (by omega), by omega⟩
    · have T1 : Touch (fun q => S q ∨ q = p) w w1 := Touch.ofBelow ((below_drewN (Below.refl w.heap.size w) 1).trans ((unhide HQ).2.2))
      exact (T1.trans hT (fun j _ e => .inl e)).trans TS (fun j _ e => .inr e)
  · go_simp
    refine (unhide HNL w.drew (unhide HT)).mono ?_
    rintro e w1 ⟨q, rfl, hq1, hq2, hb1⟩
    have HQ := hide (And.intro hq1 (And.intro hq2 hb1))
    clear hq1 hq2 hb1
    go_wp2_with fail
    refine hK.out _ _ trivial (fun hHeld => ?_)
    clear hK K c0
    (try simp only [Act.put, List.getElem_toArray, List.getElem_cons_succ, List.getElem_cons_zero, List.setIfInBounds_toArray, List.set_cons_zero, List.set_cons_succ])
    clear HNL
    have hq1 := (unhide HQ).1
    have hb1 := (unhide HQ).2.2
    have hs1 := hb1.size
    have HX1 := hide ((unhide HX).below hb1)
    have HP1 := hide ((unhide HP).blw hb1)
    have hds : w.drew.heap.size = w.heap.size := rfl
    have c1 := (unhide HX1).cell 1 rfl
    have HC := hide (unhide HPU w1 q (unhide HP1) (unhide HQ).2.1 (fun b hb => by have := (unhide HSS b hb).1; omega) (fun hb => by have := (unhide HSS q hb).1; omega))
    clear HPU HP hb1
    refine wpAnyH_ready (rs := [4]) (by kernel_rfl) (by simp) ?_
    refine AllReadyH.cons (o := _) rfl (fun K hK => ?_) AllReadyH.nil
    go_simp
    refine hK.out _ _ trivial (fun hHeld => ?_)
    clear hK K
    (try simp only [Act.put, List.getElem_toArray, List.getElem_cons_succ, List.getElem_cons_zero, List.setIfInBounds_toArray, List.set_cons_zero, List.set_cons_succ])
    refine wpAnyH_ready (rs := [8]) (by kernel_rfl) (by simp) ?_
    refine AllReadyH.cons (o := _) rfl (fun K hK => ?_) AllReadyH.nil
    go_simp
    refine (unhide HC).mono ?_
    rintro e w2 ⟨p2, rfl, hN, hT⟩
    have HN := hide hN
    have HT2 := hide hT
    clear hN hT HC
    go_wp2_with fail
    refine hK.out _ _ ?_ (fun hHeld => ?_)
    · exact trivial
    clear hK K
    (try simp only [Act.put, List.getElem_toArray, List.getElem_cons_succ, List.getElem_cons_zero, List.setIfInBounds_toArray, List.set_cons_zero, List.set_cons_succ])
    refine tkH 9 rfl ?_
    refine tkH 10 rfl ?_
    have X2 := (unhide HX1).kept (unhide HT2) (fun e => (unhide HSS p e).2 rfl)
    have y1 := X2.cell 1 rfl
    have f1 := X2.fro 1
    have HX2 := hide X2
    clear X2
    refine wpAnyH_ready (rs := [11]) (by kernel_rfl) (by simp) ?_
    refine AllReadyH.cons (o := _) rfl (fun K hK => ?_) AllReadyH.nil
    go_simp
    refine hK.out _ _ trivial (fun hHeld => ?_)
    clear hK K
    (try simp only [Act.put, List.getElem_toArray, List.getElem_cons_succ, List.getElem_cons_zero, List.setIfInBounds_toArray, List.set_cons_zero, List.set_cons_succ])
    refine wpAnyH_done (by kernel_rfl) (NoPanic.normal ?_) _
    go_wp2_with fail
    go_end0
    have hN := unhide HN
    have hT := unhide HT2
    have hs2 := hT.size
    have hss := unhide HSS
    have hpS : ∀ b, (S b ∨ b = q ∨ (w1.heap.size ≤ b ∧ b < w2.heap.size)) → b ≠ p := by
      rintro b (h | h | h) e
      · exact (hss b h).2 e
      · omega
      · omega
    have TS := (Touch.refl (fun k => k = p) w2).setCell ⟨p, 1, none⟩ (.pointer (some ⟨p2, 0, none⟩)) (fun _ => rfl)
    refine ⟨⟨_, rfl⟩, some ⟨p2, 0, none⟩, fun b => S b ∨ b = q ∨ (w1.heap.size ≤ b ∧ b < w2.heap.size), ?_, ⟨p2, rfl, hN.touch TS (fun k hk e => hpS k hk e)⟩, ?_, ?_⟩
    · have := (unhide HX2).set 1 (.pointer (some ⟨p2, 0, none⟩)) (by simp)
      simpa using this
    · intro x hx
      have hq2 := (unhide HQ).2.1.1
      have hz := TS.size
      rcases hx with h | h | h
      · have := hss x h; exact ⟨.inl h, by omega⟩
      · exact ⟨.inr (by omega), by omega⟩
      · exact ⟨.inr (by omega), by omega⟩
    · have T1 : Touch (fun q => S q ∨ q = p) w w1 := Touch.ofBelow ((below_drewN (Below.refl w.heap.size w) 1).trans ((unhide HQ).2.2))
      exact (T1.trans hT (fun j _ e => .inl e)).trans TS (fun j _ e => .inr e)
set_option maxRecDepth 100000 in
set_option maxHeartbeats 4000000 in
theorem drop_any (p : Nat) (lv sv : Value) (pt : Nat) (S : Nat → Prop) (t : Tr) (key : ByteArray) (w : World) (hX : Blk w p [lv, .pointer (some ⟨pt, 0, none⟩), sv]) (hn : Nd w S pt t) (hri : Rise 0 t) (hS : ∀ x, S x → x < w.heap.size ∧ x ≠ p) (hk : key.size ≤ 24) (ht : Tab w) :
    Calls Tryz.prog 122 #[.pointer (some ⟨p, 1, none⟩), .string key] w fun e w' => (∃ v, e = .returned v) ∧ MapR p lv sv S (dropT (kh key) t) w w' := by
  have hpw := hX.1
  obtain ⟨cap, w0, hcv, hB, hb0⟩ := str_bytesB key w.drew (by unfold maxLen; omega)
  have HX := hide (hX.drewN 1)
  have HP := hide (hn.blw (below_drewN (Below.refl w.heap.size w) 1))
  change Hid (Blk w.drew p _) at HX
  change Hid (Nd w.drew S pt t) at HP
  have hT0 : Tab w0 := (ht.below (below_drewN (Below.refl w.heap.size w) 1)).below hb0
  have HH := hide (implHash_any _ _ w0 hB hT0.2 hT0.1)
  have hkh : hashV (bytesI key) = kh key := rfl
  rw [hkh] at HH
  clear hkh
  have HSS := hide hS
  have HPU := hide (fun wx (h : Nd wx S pt t) => without_any (kh key) (kh_size (by omega)) t 0 wx S pt h hri)
  have HB0 := hide hb0
  have HX0 := hide ((unhide HX).below hb0)
  generalize kh key = hk32 at *
  clear hn hS ht hri hX hB hT0 hb0
  go_enter Tryz.func122, Tryz.ntmps122
  go_wp2_with fail
  refine wp_region_noPanic ?_
  refine wp_region_held_drew (S := (fun _ => True)) (by kernel_rfl) ?_ (fun hHeld => ?_)
  · exact trivial
  refine tkH 0 rfl ?_
  refine tkH 1 rfl ?_
  refine tkH 2 rfl ?_
  refine tkH 3 rfl ?_
  refine tkH 5 rfl ?_
  have c0 := (unhide HX).cell 1 rfl
  have c1 := (unhide HX0).cell 1 rfl
  refine wpAnyH_ready (rs := [4, 6]) (by kernel_rfl) (by simp) ?_
  refine AllReadyH.cons (o := _) rfl (fun K hK => ?_) (AllReadyH.cons (o := _) rfl (fun K hK => ?_) AllReadyH.nil)
  · go_simp
    refine hK.out _ _ trivial (fun hHeld => ?_)
    clear hK K
    (try simp only [Act.put, List.getElem_toArray, List.getElem_cons_succ, List.getElem_cons_zero, List.setIfInBounds_toArray, List.set_cons_zero, List.set_cons_succ])
    refine wpAnyH_ready (rs := [6]) (by kernel_rfl) (by simp) ?_
    refine AllReadyH.cons (o := _) rfl (fun K hK => ?_) AllReadyH.nil
    go_simp
    refine hK.out _ _ trivial (fun hHeld => ?_)
    clear hK K
    (try simp only [Act.put, List.getElem_toArray, List.getElem_cons_succ, List.getElem_cons_zero, List.setIfInBounds_toArray, List.set_cons_zero, List.set_cons_succ])
    refine wpAnyH_ready (rs := [7]) (by kernel_rfl) (by simp) ?_
    refine AllReadyH.cons (o := _) rfl (fun K hK => ?_) AllReadyH.nil
    go_simp
    refine (unhide HH).mono ?_
    rintro e w1 ⟨rfl, hb1⟩
    have HB1 := hide hb1
    clear hb1 HH
    go_wp2_with fail
    refine hK.out _ _ ?_ (fun hHeld => ?_)
    · exact trivial
    clear hK K
    (try simp only [Act.put, List.getElem_toArray, List.getElem_cons_succ, List.getElem_cons_zero, List.setIfInBounds_toArray, List.set_cons_zero, List.set_cons_succ])
    have hds : w.drew.heap.size = w.heap.size := rfl
    have HC := hide (unhide HPU w1 (((unhide HP).blw (unhide HB0)).blw (unhide HB1)))
    have HX1 := hide ((unhide HX0).below (unhide HB1))
    clear HPU HP
    refine wpAnyH_ready (rs := [8]) (by kernel_rfl) (by simp) ?_
    refine AllReadyH.cons (o := _) rfl (fun K hK => ?_) AllReadyH.nil
    go_simp
    refine (unhide HC).mono ?_
    rintro e w2 ⟨pv, rfl, hN, hT⟩
    have HN := hide hN
    have HT2 := hide hT
    clear hN hT HC
    go_wp2_with fail
    refine hK.out _ _ ?_ (fun hHeld => ?_)
    · exact trivial
    clear hK K
    (try simp only [Act.put, List.getElem_toArray, List.getElem_cons_succ, List.getElem_cons_zero, List.setIfInBounds_toArray, List.set_cons_zero, List.set_cons_succ])
    refine tkH 9 rfl ?_
    refine tkH 10 rfl ?_
    have X2 := (unhide HX1).kept (unhide HT2) (fun e => (unhide HSS p e).2 rfl)
    have y1 := X2.cell 1 rfl
    have f1 := X2.fro 1
    have HX2 := hide X2
    clear X2
    refine wpAnyH_ready (rs := [11]) (by kernel_rfl) (by simp) ?_
    refine AllReadyH.cons (o := _) rfl (fun K hK => ?_) AllReadyH.nil
    go_simp
    refine hK.out _ _ trivial (fun hHeld => ?_)
    clear hK K
    (try simp only [Act.put, List.getElem_toArray, List.getElem_cons_succ, List.getElem_cons_zero, List.setIfInBounds_toArray, List.set_cons_zero, List.set_cons_succ])
    refine wpAnyH_done (by kernel_rfl) (NoPanic.normal ?_) _
    go_wp2_with fail
    go_end0
    have hN := unhide HN
    have hT := unhide HT2
    have hs2 := hT.size
    have hs1 := (unhide HB1).size
    have hs0 := (unhide HB0).size
    have hss := unhide HSS
    have TS := (Touch.refl (fun k => k = p) w2).setCell ⟨p, 1, none⟩ (.pointer pv) (fun _ => rfl)
    refine ⟨⟨_, rfl⟩, pv, S, ?_, ?_, ?_, ?_⟩
    · have := (unhide HX2).set 1 (.pointer pv) (by simp)
      simpa using this
    · have TN : ∀ k, S k → ¬ (k = p) := fun k hk => (hss k hk).2
      revert hN
      cases dropT hk32 t with
      | none => exact fun h => h
      | some t' => rintro ⟨p2, h1, h2⟩; exact ⟨p2, h1, h2.touch TS TN⟩
    · intro x hx
      have hz := TS.size
      have := hss x hx
      exact ⟨.inl hx, by omega⟩
    · have T1 : Touch (fun q => S q ∨ q = p) w w1 := Touch.ofBelow ((below_drewN (Below.refl w.heap.size w) 1).trans ((unhide HB0).trans ((unhide HB1).mono (unhide HB0).size)))
      exact (T1.trans hT (fun j _ e => .inl e)).trans TS (fun j _ e => .inr e)
  · go_simp
    refine hK.out _ _ trivial (fun hHeld => ?_)
    clear hK K
    (try simp only [Act.put, List.getElem_toArray, List.getElem_cons_succ, List.getElem_cons_zero, List.setIfInBounds_toArray, List.set_cons_zero, List.set_cons_succ])
    refine wpAnyH_ready (rs := [4, 7]) (by kernel_rfl) (by simp) ?_
    refine AllReadyH.cons (o := _) rfl (fun K hK => ?_) (AllReadyH.cons (o := _) rfl (fun K hK => ?_) AllReadyH.nil)
    · go_simp
      refine hK.out _ _ trivial (fun hHeld => ?_)
      clear hK K
      (try simp only [Act.put, List.getElem_toArray, List.getElem_cons_succ, List.getElem_cons_zero, List.setIfInBounds_toArray, List.set_cons_zero, List.set_cons_succ])
      refine wpAnyH_ready (rs := [7]) (by kernel_rfl) (by simp) ?_
      refine AllReadyH.cons (o := _) rfl (fun K hK => ?_) AllReadyH.nil
      go_simp
      refine (unhide HH).mono ?_
      rintro e w1 ⟨rfl, hb1⟩
      have HB1 := hide hb1
      clear hb1 HH
      go_wp2_with fail
      refine hK.out _ _ ?_ (fun hHeld => ?_)
      · exact trivial
      clear hK K
      (try simp only [Act.put, List.getElem_toArray, List.getElem_cons_succ, List.getElem_cons_zero, List.setIfInBounds_toArray, List.set_cons_zero, List.set_cons_succ])
      have hds : w.drew.heap.size = w.heap.size := rfl
      have HC := hide (unhide HPU w1 (((unhide HP).blw (unhide HB0)).blw (unhide HB1)))
      have HX1 := hide ((unhide HX0).below (unhide HB1))
      clear HPU HP
      refine wpAnyH_ready (rs := [8]) (by kernel_rfl) (by simp) ?_
      refine AllReadyH.cons (o := _) rfl (fun K hK => ?_) AllReadyH.nil
      go_simp
      refine (unhide HC).mono ?_
      rintro e w2 ⟨pv, rfl, hN, hT⟩
      have HN := hide hN
      have HT2 := hide hT
      clear hN hT HC
      go_wp2_with fail
      refine hK.out _ _ ?_ (fun hHeld => ?_)
      · exact trivial
      clear hK K
      (try simp only [Act.put, List.getElem_toArray, List.getElem_cons_succ, List.getElem_cons_zero, List.setIfInBounds_toArray, List.set_cons_zero, List.set_cons_succ])
      refine tkH 9 rfl ?_
      refine tkH 10 rfl ?_
      have X2 := (unhide HX1).kept (unhide HT2) (fun e => (unhide HSS p e).2 rfl)
      have y1 := X2.cell 1 rfl
      have f1 := X2.fro 1
      have HX2 := hide X2
      clear X2
      refine wpAnyH_ready (rs := [11]) (by kernel_rfl) (by simp) ?_
      refine AllReadyH.cons (o := _) rfl (fun K hK => ?_) AllReadyH.nil
      go_simp
      refine hK.out _ _ trivial (fun hHeld => ?_)
      clear hK K
      (try simp only [Act.put, List.getElem_toArray, List.getElem_cons_succ, List.getElem_cons_zero, List.setIfInBounds_toArray, List.set_cons_zero, List.set_cons_succ])
      refine wpAnyH_done (by kernel_rfl) (NoPanic.normal ?_) _
      go_wp2_with fail
      go_end0
      have hN := unhide HN
      have hT := unhide HT2
      have hs2 := hT.size
      have hs1 := (unhide HB1).size
      have hs0 := (unhide HB0).size
      have hss := unhide HSS
      have TS := (Touch.refl (fun k => k = p) w2).setCell ⟨p, 1, none⟩ (.pointer pv) (fun _ => rfl)
      refine ⟨⟨_, rfl⟩, pv, S, ?_, ?_, ?_, ?_⟩
      · have := (unhide HX2).set 1 (.pointer pv) (by simp)
        simpa using this
      · have TN : ∀ k, S k → ¬ (k = p) := fun k hk => (hss k hk).2
        revert hN
        cases dropT hk32 t with
        | none => exact fun h => h
        | some t' => rintro ⟨p2, h1, h2⟩; exact ⟨p2, h1, h2.touch TS TN⟩
      · intro x hx
        have hz := TS.size
        have := hss x hx
        exact ⟨.inl hx, by omega⟩
      · have T1 : Touch (fun q => S q ∨ q = p) w w1 := Touch.ofBelow ((below_drewN (Below.refl w.heap.size w) 1).trans ((unhide HB0).trans ((unhide HB1).mono (unhide HB0).size)))
        exact (T1.trans hT (fun j _ e => .inl e)).trans TS (fun j _ e => .inr e)
    · go_simp
      refine (unhide HH).mono ?_
      rintro e w1 ⟨rfl, hb1⟩
      have HB1 := hide hb1
      clear hb1 HH
      go_wp2_with fail
      refine hK.out _ _ trivial (fun hHeld => ?_)
      clear hK K
      (try simp only [Act.put, List.getElem_toArray, List.getElem_cons_succ, List.getElem_cons_zero, List.setIfInBounds_toArray, List.set_cons_zero, List.set_cons_succ])
      have c2 := ((unhide HX0).below (unhide HB1)).cell 1 rfl
      refine wpAnyH_ready (rs := [4]) (by kernel_rfl) (by simp) ?_
      refine AllReadyH.cons (o := _) rfl (fun K hK => ?_) AllReadyH.nil
      go_simp
      refine hK.out _ _ trivial (fun hHeld => ?_)
      clear hK K
      (try simp only [Act.put, List.getElem_toArray, List.getElem_cons_succ, List.getElem_cons_zero, List.setIfInBounds_toArray, List.set_cons_zero, List.set_cons_succ])
      have hds : w.drew.heap.size = w.heap.size := rfl
      have HC := hide (unhide HPU w1 (((unhide HP).blw (unhide HB0)).blw (unhide HB1)))
      have HX1 := hide ((unhide HX0).below (unhide HB1))
      clear HPU HP
      refine wpAnyH_ready (rs := [8]) (by kernel_rfl) (by simp) ?_
      refine AllReadyH.cons (o := _) rfl (fun K hK => ?_) AllReadyH.nil
      go_simp
      refine (unhide HC).mono ?_
      rintro e w2 ⟨pv, rfl, hN, hT⟩
      have HN := hide hN
      have HT2 := hide hT
      clear hN hT HC
      go_wp2_with fail
      refine hK.out _ _ ?_ (fun hHeld => ?_)
      · exact trivial
      clear hK K
      (try simp only [Act.put, List.getElem_toArray, List.getElem_cons_succ, List.getElem_cons_zero, List.setIfInBounds_toArray, List.set_cons_zero, List.set_cons_succ])
      refine tkH 9 rfl ?_
      refine tkH 10 rfl ?_
      have X2 := (unhide HX1).kept (unhide HT2) (fun e => (unhide HSS p e).2 rfl)
      have y1 := X2.cell 1 rfl
      have f1 := X2.fro 1
      have HX2 := hide X2
      clear X2
      refine wpAnyH_ready (rs := [11]) (by kernel_rfl) (by simp) ?_
      refine AllReadyH.cons (o := _) rfl (fun K hK => ?_) AllReadyH.nil
      go_simp
      refine hK.out _ _ trivial (fun hHeld => ?_)
      clear hK K
      (try simp only [Act.put, List.getElem_toArray, List.getElem_cons_succ, List.getElem_cons_zero, List.setIfInBounds_toArray, List.set_cons_zero, List.set_cons_succ])
      refine wpAnyH_done (by kernel_rfl) (NoPanic.normal ?_) _
      go_wp2_with fail
      go_end0
      have hN := unhide HN
      have hT := unhide HT2
      have hs2 := hT.size
      have hs1 := (unhide HB1).size
      have hs0 := (unhide HB0).size
      have hss := unhide HSS
      have TS := (Touch.refl (fun k => k = p) w2).setCell ⟨p, 1, none⟩ (.pointer pv) (fun _ => rfl)
      refine ⟨⟨_, rfl⟩, pv, S, ?_, ?_, ?_, ?_⟩
      · have := (unhide HX2).set 1 (.pointer pv) (by simp)
        simpa using this
      · have TN : ∀ k, S k → ¬ (k = p) := fun k hk => (hss k hk).2
        revert hN
        cases dropT hk32 t with
        | none => exact fun h => h
        | some t' => rintro ⟨p2, h1, h2⟩; exact ⟨p2, h1, h2.touch TS TN⟩
      · intro x hx
        have hz := TS.size
        have := hss x hx
        exact ⟨.inl hx, by omega⟩
      · have T1 : Touch (fun q => S q ∨ q = p) w w1 := Touch.ofBelow ((below_drewN (Below.refl w.heap.size w) 1).trans ((unhide HB0).trans ((unhide HB1).mono (unhide HB0).size)))
        exact (T1.trans hT (fun j _ e => .inl e)).trans TS (fun j _ e => .inr e)
end Go.Proofs.YtnhhnjmjodmacaaGreatDoor.Sha
