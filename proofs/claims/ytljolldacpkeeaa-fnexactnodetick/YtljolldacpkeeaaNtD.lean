/- (*actor).lead, walked. (Written by py/ntd.py.) -/
import Derived.Test.YtljolldacpkeeaaNtC
import Derived.Test.YtljolldacpkeeaaNpJ
import Derived.Test.YtljolldacpkeeaaNodF
namespace Go.Proofs.Ytljolldacpkeeaa
open Go.ChangeShapes Go.WideShapes Go.ChangeAt Go.RowKit Go.Deep
set_option linter.unusedVariables false
set_option linter.unusedSimpArgs false

/-- A leader's log: one more entry, without data, if there is room. -/
def leadL (tm : Int) (lg : List En) : List En := if lg.length < 60 then lg ++ [⟨tm, 0, ⟨#[]⟩⟩] else lg
theorem leadL_le (tm : Int) (lg : List En) (h : lg.length ≤ 60) : (leadL tm lg).length ≤ 60 ∧ lg.length ≤ (leadL tm lg).length := by
  unfold leadL; split
  · simp only [List.length_append, List.length_cons, List.length_nil]; omega
  · exact ⟨h, Nat.le_refl _⟩
theorem leadL_cfg {tm : Int} {lg : List En} (h : CfgOK lg) : CfgOK (leadL tm lg) := by
  unfold leadL; split
  · exact cfg_push h _ (by simp)
  · exact h
theorem leadL_size {tm : Int} {lg : List En} {M : Nat} (h : ∀ i, (lg.getD i default).d.size ≤ M) : ∀ i, ((leadL tm lg).getD i default).d.size ≤ M := by
  unfold leadL; split
  · exact size_push h _ (Nat.zero_le _)
  · exact h
theorem rep_getD (n : Nat) (x : Int) (i : Nat) (h : i < n) : (List.replicate n x).getD i 0 = x := by
  rw [List.getD_eq_getElem?_getD, List.getElem?_replicate, if_pos h]; rfl
theorem Touch.wide {T T' : Nat → Prop} {w w' : World} (h : Touch T w w') (hs : ∀ k, T k → T' k) : Touch T' w w' := ⟨h.os, h.tape, h.output, h.size, fun j hj hn => h.block j hj (fun e => hn (hs j e))⟩
/-- The lists of what others have are others. -/
theorem NoO.told {B : Nat} {w w' : World} {lv sv vv nv mv : Value} {lg : List En} {st vs nx mt nx' mt' : List Int} (h : NoO B w lv sv vv nv mv lg st vs nx mt) (ht : Touch (fun k => nv.ownBlock = some k ∨ mv.ownBlock = some k) w w') (hn : OwnI B w' nv nx') (hm : OwnI B w' mv mt') : NoO B w' lv sv vv nv mv lg st vs nx' mt' := by
  have a := h.ap
  simp only [List.pairwise_cons, List.mem_cons, List.not_mem_nil, or_false, forall_eq_or_imp, forall_eq] at a
  obtain ⟨⟨_, _, a1, a2⟩, ⟨_, a3, a4⟩, ⟨a5, a6⟩, _⟩ := a
  exact ⟨OwnE.kept h.lg ht (fun k hk e => e.elim (a1 k hk) (a2 k hk)), h.st.kept ht (fun k hk e => e.elim (a3 k hk) (a4 k hk)), h.vs.kept ht (fun k hk e => e.elim (a5 k hk) (a6 k hk)), hn, hm, h.ap⟩
/-- What (*actor).lead leaves. -/
def LeadR (B b : Nat) (id tm vo cm wt : Int) (up : Bool) (lg : List En) (st vs : List Int) (la : Option Addr) (lc : Nat) (sa : Option Addr) (sc : Nat) (va : Option Addr) (vc : Nat) (g nc h mc : Nat) (w w' : World) : Prop :=
  ∃ la' lc' v l D, Blk w' b [.int .i64 id, .int .i64 tm, .int .i64 vo, .slice la' (leadL tm lg).length lc', .slice sa st.length sc, .int .i64 2, .slice va vs.length vc, .slice (some ⟨g, 0, none⟩) 7 nc, .slice (some ⟨h, 0, none⟩) 7 mc, .int .i64 (advTo id tm cm (leadL tm lg) (List.replicate 7 (0 : Int)) (mbAt (leadL tm lg) st (leadL tm lg).length) (leadL tm lg).length), .int .i64 0, .int .i64 wt, .bool up, v] ∧ NoO B w' (.slice la' (leadL tm lg).length lc') (.slice sa st.length sc) (.slice va vs.length vc) (.slice (some ⟨g, 0, none⟩) 7 nc) (.slice (some ⟨h, 0, none⟩) 7 mc) (leadL tm lg) st vs (List.replicate 7 ((lg.length : Int) + 1)) (List.replicate 7 (0 : Int)) ∧ Ns mgS D w' v l.length l ∧ l.map bareM = tellL id tm cm (leadL tm lg) (List.replicate 7 ((lg.length : Int) + 1)) (mbAt (leadL tm lg) st (leadL tm lg).length) ∧ (∀ q, NoT [.slice la' (leadL tm lg).length lc', .slice sa st.length sc, .slice va vs.length vc, .slice (some ⟨g, 0, none⟩) 7 nc, .slice (some ⟨h, 0, none⟩) 7 mc] q → q ≠ b ∧ q < D) ∧ b < D ∧ w.heap.size ≤ D ∧ Touch (fun q => q = b ∨ NoT [.slice la lg.length lc, .slice sa st.length sc, .slice va vs.length vc, .slice (some ⟨g, 0, none⟩) 7 nc, .slice (some ⟨h, 0, none⟩) 7 mc] q) w w'
set_option maxRecDepth 100000 in
set_option maxHeartbeats 2000000 in
theorem lead_any (B b : Nat) (id tm vo ro cm el wt : Int) (up : Bool) (lg : List En) (st vs nx mt : List Int) (la : Option Addr) (lc : Nat) (sa : Option Addr) (sc : Nat) (va : Option Addr) (vc : Nat) (g nc h mc : Nat) (w : World) (hX : Blk w b [.int .i64 id, .int .i64 tm, .int .i64 vo, .slice la lg.length lc, .slice sa st.length sc, .int .i64 ro, .slice va vs.length vc, .slice (some ⟨g, 0, none⟩) 7 nc, .slice (some ⟨h, 0, none⟩) 7 mc, .int .i64 cm, .int .i64 el, .int .i64 wt, .bool up, .slice none 0 0]) (hO : NoO B w (.slice la lg.length lc) (.slice sa st.length sc) (.slice va vs.length vc) (.slice (some ⟨g, 0, none⟩) 7 nc) (.slice (some ⟨h, 0, none⟩) 7 mc) lg st vs nx mt) (hap : ∀ v ∈ ([.slice la lg.length lc, .slice sa st.length sc, .slice va vs.length vc, .slice (some ⟨g, 0, none⟩) 7 nc, .slice (some ⟨h, 0, none⟩) 7 mc] : List Value), v.ownBlock ≠ some b) (hB : B ≤ w.heap.size) (hz : ∀ i, (lg.getD i default).d.size ≤ maxLen) (hl : lg.length ≤ 60) (hg : CfgOK lg) (hst : mFault st = 0) (hnx : nx.length = 7) (hmt : mt.length = 7) (hc : 0 ≤ cm) :
    Calls Try.prog 75 #[.pointer (some ⟨b, 0, none⟩)] w fun e w' => (∃ v, e = .returned v) ∧ LeadR B b id tm vo cm wt up lg st vs la lc sa sc va vc g nc h mc w w' := by
  obtain ⟨i0, hi, hz0, hz1, hz2⟩ := info_parts infoEn
  have hbw := hX.1
  have BB := (Below.refl w.heap.size w).alloc (Nat.le_refl _) (.cells #[.pointer (some ⟨b, 0, none⟩)] 82)
  have L1 := hide (Blk.new w #[.pointer (some ⟨b, 0, none⟩)] 82 w.heap.size rfl)
  have RZ := Blk.new w #[.pointer none] 82 w.heap.size rfl
  have r0 := RZ.cell 0 rfl
  have f0 := RZ.fro 0
  have X1 := hide (hX.below BB)
  have O1 := hide (hO.below BB)
  have HB1 := hide BB
  have HAP := hide hap
  have HBL := hide (NoO.blk hO)
  have HS := hide (And.intro hz (And.intro hg (And.intro hst hc)))
  clear hX hO hap BB RZ hz hg hst hc
  go_enter Try.func75, Try.ntmps75
  go_upto_region 1 with fail
  clear r0 f0
  generalize w.alloc (.cells #[.pointer (some ⟨b, 0, none⟩)] 82) = w1 at *
  have l0 := (unhide L1).cell 0 rfl
  have hl1 : w.heap.size < w1.heap.size := (unhide L1).1
  have HC := hide (becomeLea_any b _ (by simp) w1 (unhide X1))
  go_wp2_with fail
  refine (unhide HC).mono ?_
  rintro e w2 ⟨⟨v2, rfl⟩, hX2, hT2⟩
  simp only [List.set_cons_succ, List.set_cons_zero] at hX2
  have hapn : ∀ q, NoT [.slice la lg.length lc, .slice sa st.length sc, .slice va vs.length vc, .slice (some ⟨g, 0, none⟩) 7 nc, .slice (some ⟨h, 0, none⟩) 7 mc] q → q ≠ b := fun q hq e => by obtain ⟨v, hv, hvq⟩ := hq; exact unhide HAP v hv (by rw [hvq, e])
  have O2 := NoO.keep (unhide O1) hT2 hapn
  have L2 := (unhide L1).kept hT2 (fun e => by omega)
  have X3 := hX2.set 10 (.int .i64 0) (by simp)
  simp only [List.set_cons_succ, List.set_cons_zero] at X3
  have x10 := hX2.cell 10 rfl
  have f10 := hX2.fro 10
  have T3 := (Touch.refl (fun q => q = b) w2).setCell ⟨b, 10, none⟩ (.int .i64 0) (fun _ => rfl)
  have O3 := hide (NoO.keep O2 T3 hapn)
  have L3 := hide (L2.kept T3 (fun e => by omega))
  have TT3 := hide (((Touch.ofBelow (T := fun q => q = b) (unhide HB1)).trans (T' := fun q => q = b) hT2 (fun _ _ e => e)).trans (T' := fun q => q = b) T3 (fun _ _ e => e))
  have HX3 := hide X3
  have HAN := hide hapn
  clear hX2 hT2 O2 L2 T3 X3 HC L1 X1 O1 l0
  go_upto_region 3 with fail
  clear x10 f10
  generalize w2.setCell ⟨b, 10, none⟩ (.int .i64 0) = w3 at *
  have hs3 := (unhide TT3).size
  have HEn := hide (end_any b la lg.length lc w3 ((unhide HX3).cell 3 rfl))
  have o3 := unhide O3
  have a3 := o3.ap
  simp only [List.pairwise_cons, List.mem_cons, List.not_mem_nil, or_false, forall_eq_or_imp, forall_eq] at a3
  have hgh : g ≠ h := fun e => a3.2.2.2.1 g rfl (by rw [e]; rfl)
  have hbg : b ≠ g := fun e => unhide HAN g ⟨(.slice (some ⟨g, 0, none⟩) 7 nc), by simp, rfl⟩ e.symm
  have hbh : b ≠ h := fun e => unhide HAN h ⟨(.slice (some ⟨h, 0, none⟩) 7 mc), by simp, rfl⟩ e.symm
  have hnv : OwnI B w3 (.slice (some ⟨g, 0, none⟩) 7 nc) nx := o3.nx
  have hmv : OwnI B w3 (.slice (some ⟨h, 0, none⟩) 7 mc) mt := o3.mt
  have HC := hide (resetTold_any B b g nc h mc ((lg.length : Int) + 1) nx mt _ w3 (unhide HX3) rfl rfl hnx hmt hnv hmv hgh hbg hbh)
  have q3 : IntKind.i64.wrap ((lg.length : Int) + 1) = (lg.length : Int) + 1 := wrapSm _ (by omega) (by omega)
  clear o3 a3 hnv hmv
  go_wp2_with fail
  refine (unhide HEn).mono ?_
  rintro e w' ⟨rfl, hw'⟩
  have hw2 := hw'.symm
  clear hw'
  subst hw2
  go_wp2_with fail
  refine (unhide HC).mono ?_
  rintro e w4 ⟨⟨v4, rfl⟩, hn4, hm4, hT4⟩
  have X4 := hide ((unhide HX3).kept hT4 (fun e => by rcases e with e | e <;> omega))
  have O4 := hide (NoO.told (unhide O3) (hT4.wide (fun k e => e.elim (fun e => .inl (by rw [e]; rfl)) (fun e => .inr (by rw [e]; rfl)))) hn4 hm4)
  have L4 := hide ((unhide L3).kept hT4 (fun e => by have h1 := (unhide HBL g ⟨(.slice (some ⟨g, 0, none⟩) 7 nc), by simp, rfl⟩).2; have h2 := (unhide HBL h ⟨(.slice (some ⟨h, 0, none⟩) 7 mc), by simp, rfl⟩).2; rcases e with e | e <;> omega))
  have T4 := hide (((unhide TT3).wide (T' := fun q => q = b ∨ NoT [.slice la lg.length lc, .slice sa st.length sc, .slice va vs.length vc, .slice (some ⟨g, 0, none⟩) 7 nc, .slice (some ⟨h, 0, none⟩) 7 mc] q) (fun _ e => .inl e)).trans (T' := fun q => q = b ∨ NoT [.slice la lg.length lc, .slice sa st.length sc, .slice va vs.length vc, .slice (some ⟨g, 0, none⟩) 7 nc, .slice (some ⟨h, 0, none⟩) 7 mc] q) (hT4.wide (fun k e => .inr (e.elim (fun e => ⟨(.slice (some ⟨g, 0, none⟩) 7 nc), by simp, by rw [e]; rfl⟩) (fun e => ⟨(.slice (some ⟨h, 0, none⟩) 7 mc), by simp, by rw [e]; rfl⟩)))) (fun _ _ e => e))
  have hs4 := hT4.size
  have HEn4 := hide (end_any b la lg.length lc w4 ((unhide X4).cell 3 rfl))
  clear hn4 hm4 hT4 HC HEn HX3 O3 L3 TT3 hgh hbg hbh q3
  go_wp2_with fail
  refine (unhide HEn4).mono ?_
  rintro e w' ⟨rfl, hw'⟩
  have hw2 := hw'.symm
  clear hw' HEn4
  subst hw2
  by_cases h60 : lg.length < 60
  case neg =>
    have q4 : ¬ (lg.length : Int) < 60 := by omega
    have HLG := hide (show leadL tm lg = lg by unfold leadL; rw [if_neg h60])
    have HA6 := hide (unhide HAN)
    have l0 := (unhide L4).cell 0 rfl
    have hw6 : w.heap.size ≤ w4.heap.size := by omega
    obtain ⟨hz, hg, hst, hc⟩ := unhide HS
    have hz' := leadL_size (tm := tm) hz
    have hg' := leadL_cfg (tm := tm) hg
    have hl60 := leadL_le tm lg hl
    have hmb := mb_seven (leadL tm lg) st hg' hst
    have hRp := rep_getD 7 ((lg.length : Int) + 1)
    have hnn' : ∀ x ∈ mbAt (leadL tm lg) st (leadL tm lg).length, 0 ≤ x ∧ x < 7 ∧ (x ≠ id → 1 ≤ (List.replicate 7 ((lg.length : Int) + 1)).getD x.toNat 0 ∧ (List.replicate 7 ((lg.length : Int) + 1)).getD x.toNat 0 ≤ ((leadL tm lg).length : Int) + 1) := fun x hx => ⟨(hmb.2 x hx).1, (hmb.2 x hx).2, fun _ => by have := hmb.2 x hx; rw [hRp x.toNat (by omega)]; omega⟩
    rw [unhide HLG] at hz' hg' hl60 hmb hnn'
    have HV := hide (And.intro hz' (And.intro hg' (And.intro hl60 (And.intro hmb (And.intro hnn' hc)))))
    clear hz hg hst hc hz' hg' hl60 hmb hRp hnn' HS
    obtain ⟨hz', hg', hl60, hmb, hnn', hc⟩ := unhide HV
    have X6c : Blk w4 b [.int .i64 id, .int .i64 tm, .int .i64 vo, .slice la lg.length lc, .slice sa st.length sc, .int .i64 2, .slice va vs.length vc, .slice (some ⟨g, 0, none⟩) (List.replicate 7 ((lg.length : Int) + 1)).length nc, .slice (some ⟨h, 0, none⟩) (List.replicate 7 (0 : Int)).length mc, .int .i64 cm, .int .i64 0, .int .i64 wt, .bool up, .slice none 0 0] := by simpa only [List.length_replicate] using unhide X4
    have OO6 := unhide O4
    have hBW : B ≤ w4.heap.size := by omega
    have hNI : Ints w4 (.slice (some ⟨g, 0, none⟩) (List.replicate 7 ((lg.length : Int) + 1)).length nc) (List.replicate 7 ((lg.length : Int) + 1)) := by have := OO6.nx.ints; simpa only [List.length_replicate] using this
    have HSn := hide (sendNews_any B b id tm vo 2 cm 0 wt up lg st vs (List.replicate 7 ((lg.length : Int) + 1)) (List.replicate 7 (0 : Int)) la lc sa sc va vc (some ⟨g, 0, none⟩) nc (some ⟨h, 0, none⟩) mc w4 X6c OO6.lg.ens (fun e => unhide HA6 b ⟨_, by simp, e⟩ rfl) OO6.st hBW (fun e => unhide HA6 b ⟨_, by simp, e⟩ rfl) hNI (fun e => unhide HA6 b ⟨(.slice (some ⟨g, 0, none⟩) 7 nc), by simp, by simpa [Value.ownBlock] using e⟩ rfl) hz' hl60.1 hg' (by simp) hmb.1 hnn')
    simp only [List.length_replicate] at HSn
    have HCm := hide (fun wx v (T : Touch (fun q => q = b) w4 wx) (hx : Blk wx b [.int .i64 id, .int .i64 tm, .int .i64 vo, .slice la lg.length lc, .slice sa st.length sc, .int .i64 2, .slice va vs.length vc, .slice (some ⟨g, 0, none⟩) 7 nc, .slice (some ⟨h, 0, none⟩) 7 mc, .int .i64 cm, .int .i64 0, .int .i64 wt, .bool up, v]) => commit_any B b id tm vo 2 cm 0 wt up lg st vs (List.replicate 7 ((lg.length : Int) + 1)) (List.replicate 7 (0 : Int)) la lc sa sc va vc (some ⟨g, 0, none⟩) nc (some ⟨h, 0, none⟩) mc v wx (by simpa only [List.length_replicate] using hx) (NoO.keep OO6 T (unhide HA6)).lg.ens (NoO.keep OO6 T (unhide HA6)).st (by have := T.size; omega) (by have := (NoO.keep OO6 T (unhide HA6)).mt.ints; simpa only [List.length_replicate] using this) hz' hl60.1 hg' (by simp) hmb.1 hmb.2 hc)
    simp only [List.length_replicate] at HCm
    have HO6 := hide OO6
    have HBk := hide (fun q hq => (NoO.blk OO6 q hq).2)
    have hb6 : b < w4.heap.size := X6c.1
    clear X6c OO6 hNI hz' hg' hl60 hmb hnn' hc HV X4 O4
    go_wp2_with fail
    refine (unhide HSn).mono ?_
    rintro e w7 ⟨⟨v7, rfl⟩, v, l, hX7, hN7, hL7, hT7⟩
    have HC7 := hide (unhide HCm w7 v hT7 hX7)
    have L7 := (unhide L4).kept hT7 (fun e => by omega)
    have l7 := L7.cell 0 rfl
    have HN7 := hide hN7
    have HL7 := hide hL7
    have HT7 := hide hT7
    clear hX7 hN7 hL7 hT7 HSn HCm L7 l0
    go_wp2_with fail
    refine (unhide HC7).mono ?_
    rintro e w8 ⟨⟨v8, rfl⟩, hX8, hT8⟩
    have T78 := (unhide HT7).trans (T' := fun q => q = b) hT8 (fun _ _ e => e)
    have R := hide (And.intro hX8 (And.intro (NoO.keep (unhide HO6) T78 (unhide HA6)) (And.intro ((unhide HN7).kept hT8 (fun k e _ => by omega)) (And.intro (unhide HL7) ((unhide T4).trans (T' := fun q => q = b) T78 (fun _ _ e => .inl e))))))
    clear hX8 hT8 T78 HC7 l7
    go_wp2_with fail
    go_end0
    refine ⟨⟨_, rfl⟩, ?_⟩
    unfold LeadR
    rw [unhide HLG]
    exact ⟨la, lc, v, l, w4.heap.size, (unhide R).1, (unhide R).2.1, (unhide R).2.2.1, (unhide R).2.2.2.1, fun q hq => ⟨unhide HA6 q hq, unhide HBk q hq⟩, hb6, hw6, (unhide R).2.2.2.2⟩
  have q4 : (lg.length : Int) < 60 := by omega
  have HLG := hide (show leadL tm lg = lg ++ [(⟨tm, 0, ⟨#[]⟩⟩ : En)] by unfold leadL; rw [if_pos h60])
  have x1 := (unhide X4).cell 1 rfl
  go_wp2_with fail
  have X5 := hide ((unhide X4).drewN 1)
  have O5 := hide ((unhide O4).drewN 1)
  have L5 := hide ((unhide L4).drewN 1)
  have T5 := hide ((unhide T4).drewN 1)
  change Hid (Blk w4.drew b _) at X5
  change Hid (NoO _ w4.drew _ _ _ _ _ _ _ _ _ _) at O5
  change Hid (Blk w4.drew w.heap.size _) at L5
  change Hid (Touch _ w w4.drew) at T5
  have hs5 : w4.drew.heap.size = w4.heap.size := rfl
  refine wp_region_noPanic ?_
  refine wp_region_held_drew (S := (fun wx => wx.cell? ⟨b, 1, none⟩ = some (.int .i64 tm))) (by kernel_rfl) ?_ (fun hHeld => ?_)
  · exact x1
  refine wpAnyH_take (i := 0) (oi := _) (v := ?_) rfl (by kernel_rfl) (by kernel_rfl) (by kernel_rfl) (fun _ _ _ h => h) (Or.inl ⟨by rfl, ?_⟩) (by assumption) ?_
  rotate_left 1
  · (intro wq hSw; (try dsimp only at hSw); (try simp only [List.getElem_toArray, List.getElem_cons_succ, List.getElem_cons_zero]); go_simp; try with_reducible rfl)
  (try simp only [Act.put, List.getElem_toArray, List.getElem_cons_succ, List.getElem_cons_zero, List.setIfInBounds_toArray, List.set_cons_zero, List.set_cons_succ])
  refine wpAnyH_take (i := 1) (oi := _) (v := ?_) rfl (by kernel_rfl) (by kernel_rfl) (by kernel_rfl) (fun _ _ _ h => h) (Or.inl ⟨by rfl, ?_⟩) (by assumption) ?_
  rotate_left 1
  · (intro wq hSw; (try dsimp only at hSw); (try simp only [List.getElem_toArray, List.getElem_cons_succ, List.getElem_cons_zero]); go_simp; try with_reducible rfl)
  (try simp only [Act.put, List.getElem_toArray, List.getElem_cons_succ, List.getElem_cons_zero, List.setIfInBounds_toArray, List.set_cons_zero, List.set_cons_succ])
  refine wpAnyH_take (i := 2) (oi := _) (v := ?_) rfl (by kernel_rfl) (by kernel_rfl) (by kernel_rfl) (fun _ _ _ h => h) (Or.inl ⟨by rfl, ?_⟩) (by assumption) ?_
  rotate_left 1
  · (intro wq hSw; (try dsimp only at hSw); (try simp only [List.getElem_toArray, List.getElem_cons_succ, List.getElem_cons_zero]); go_simp; try with_reducible rfl)
  (try simp only [Act.put, List.getElem_toArray, List.getElem_cons_succ, List.getElem_cons_zero, List.setIfInBounds_toArray, List.set_cons_zero, List.set_cons_succ])
  refine wpAnyH_take (i := 3) (oi := _) (v := ?_) rfl (by kernel_rfl) (by kernel_rfl) (by kernel_rfl) (fun _ _ _ h => h) (Or.inl ⟨by rfl, ?_⟩) (by assumption) ?_
  rotate_left 1
  · (intro wq hSw; (try dsimp only at hSw); (try simp only [List.getElem_toArray, List.getElem_cons_succ, List.getElem_cons_zero]); go_simp; try with_reducible rfl)
  (try simp only [Act.put, List.getElem_toArray, List.getElem_cons_succ, List.getElem_cons_zero, List.setIfInBounds_toArray, List.set_cons_zero, List.set_cons_succ])
  refine wpAnyH_take (i := 4) (oi := _) (v := ?_) rfl (by kernel_rfl) (by kernel_rfl) (by kernel_rfl) (fun _ _ _ h => h) (Or.inl ⟨by rfl, ?_⟩) (by assumption) ?_
  rotate_left 1
  · (intro wq hSw; (try dsimp only at hSw); (try simp only [List.getElem_toArray, List.getElem_cons_succ, List.getElem_cons_zero]); go_simp; try with_reducible rfl)
  (try simp only [Act.put, List.getElem_toArray, List.getElem_cons_succ, List.getElem_cons_zero, List.setIfInBounds_toArray, List.set_cons_zero, List.set_cons_succ])
  refine wpAnyH_take (i := 6) (oi := _) (v := ?_) rfl (by kernel_rfl) (by kernel_rfl) (by kernel_rfl) (fun _ _ _ h => h) (Or.inl ⟨by rfl, ?_⟩) (by assumption) ?_
  rotate_left 1
  · (intro wq hSw; (try dsimp only at hSw); (try simp only [List.getElem_toArray, List.getElem_cons_succ, List.getElem_cons_zero]); go_simp; try with_reducible rfl)
  (try simp only [Act.put, List.getElem_toArray, List.getElem_cons_succ, List.getElem_cons_zero, List.setIfInBounds_toArray, List.set_cons_zero, List.set_cons_succ])
  refine wpAnyH_take (i := 7) (oi := _) (v := ?_) rfl (by kernel_rfl) (by kernel_rfl) (by kernel_rfl) (fun _ _ _ h => h) (Or.inl ⟨by rfl, ?_⟩) (by assumption) ?_
  rotate_left 1
  · (intro wq hSw; (try dsimp only at hSw); (try simp only [List.getElem_toArray, List.getElem_cons_succ, List.getElem_cons_zero]); go_simp; try with_reducible rfl)
  (try simp only [Act.put, List.getElem_toArray, List.getElem_cons_succ, List.getElem_cons_zero, List.setIfInBounds_toArray, List.set_cons_zero, List.set_cons_succ])
  refine wpAnyH_take (i := 8) (oi := _) (v := ?_) rfl (by kernel_rfl) (by kernel_rfl) (by kernel_rfl) (fun _ _ _ h => h) (Or.inl ⟨by rfl, ?_⟩) (by assumption) ?_
  rotate_left 1
  · (intro wq hSw; (try dsimp only at hSw); (try simp only [List.getElem_toArray, List.getElem_cons_succ, List.getElem_cons_zero]); go_simp; try with_reducible rfl)
  (try simp only [Act.put, List.getElem_toArray, List.getElem_cons_succ, List.getElem_cons_zero, List.setIfInBounds_toArray, List.set_cons_zero, List.set_cons_succ])
  refine wpAnyH_take (i := 9) (oi := _) (v := ?_) rfl (by kernel_rfl) (by kernel_rfl) (by kernel_rfl) (fun _ _ _ h => h) (Or.inl ⟨by rfl, ?_⟩) (by assumption) ?_
  rotate_left 1
  · (intro wq hSw; (try dsimp only at hSw); (try simp only [List.getElem_toArray, List.getElem_cons_succ, List.getElem_cons_zero]); go_simp; try with_reducible rfl)
  (try simp only [Act.put, List.getElem_toArray, List.getElem_cons_succ, List.getElem_cons_zero, List.setIfInBounds_toArray, List.set_cons_zero, List.set_cons_succ])
  refine wpAnyH_take (i := 10) (oi := _) (v := ?_) rfl (by kernel_rfl) (by kernel_rfl) (by kernel_rfl) (fun _ _ _ h => h) (Or.inl ⟨by rfl, ?_⟩) (by assumption) ?_
  rotate_left 1
  · (intro wq hSw; (try dsimp only at hSw); (try simp only [List.getElem_toArray, List.getElem_cons_succ, List.getElem_cons_zero]); go_simp; try with_reducible rfl)
  (try simp only [Act.put, List.getElem_toArray, List.getElem_cons_succ, List.getElem_cons_zero, List.setIfInBounds_toArray, List.set_cons_zero, List.set_cons_succ])
  refine wpAnyH_take (i := 11) (oi := _) (v := ?_) rfl (by kernel_rfl) (by kernel_rfl) (by kernel_rfl) (fun _ _ _ h => h) (Or.inl ⟨by rfl, ?_⟩) (by assumption) ?_
  rotate_left 1
  · (intro wq hSw; (try dsimp only at hSw); (try simp only [List.getElem_toArray, List.getElem_cons_succ, List.getElem_cons_zero]); go_simp; try with_reducible rfl)
  (try simp only [Act.put, List.getElem_toArray, List.getElem_cons_succ, List.getElem_cons_zero, List.setIfInBounds_toArray, List.set_cons_zero, List.set_cons_succ])
  clear x1 X4 O4 L4 T4
  have hw5 : w.heap.size < w4.drew.heap.size := (unhide L5).1
  clear hs5
  generalize w4.drew = wz at *
  have x1 := (unhide X5).cell 1 rfl
  have y3 := (unhide X5).cell 3 rfl
  have HB4 := hide ((Below.refl wz.heap.size wz).alloc (Nat.le_refl _) (.cells #[.int .i64 tm, .int .i64 0, .string ⟨#[]⟩] 63))
  have HR4 := hide (blk_rw (Blk.new wz #[.int .i64 tm, .int .i64 0, .string ⟨#[]⟩] 63 wz.heap.size rfl))
  have z3 := ((unhide HB4).cell (p := ⟨b, 3, none⟩) (show b < wz.heap.size by omega)).trans y3
  have z1 := ((unhide HB4).cell (p := ⟨b, 1, none⟩) (show b < wz.heap.size by omega)).trans x1
  refine wpAnyH_ready (rs := [5, 12]) (by kernel_rfl) (by simp) ?_
  refine AllReadyH.cons (o := _) rfl (fun K hK => ?_) (AllReadyH.cons (o := _) rfl (fun K hK => ?_) AllReadyH.nil)
  · go_simp
    refine hK.out _ _ ?_ (fun hHeld => ?_)
    · exact x1
    clear hK K
    (try simp only [Act.put, List.getElem_toArray, List.getElem_cons_succ, List.getElem_cons_zero, List.setIfInBounds_toArray, List.set_cons_zero, List.set_cons_succ])
    refine wpAnyH_ready (rs := [12]) (by kernel_rfl) (by simp) ?_
    refine AllReadyH.cons (o := _) rfl (fun K hK => ?_) AllReadyH.nil
    go_simp
    refine hK.out _ _ ?_ (fun hHeld => ?_)
    · exact z1
    clear hK K
    (try simp only [Act.put, List.getElem_toArray, List.getElem_cons_succ, List.getElem_cons_zero, List.setIfInBounds_toArray, List.set_cons_zero, List.set_cons_succ])
    generalize wz.alloc (.cells #[.int .i64 tm, .int .i64 0, .string ⟨#[]⟩] 63) = w4 at *
    have O4 := hide ((unhide O5).below (unhide HB4))
    have hs4' := (unhide HB4).size
    refine wpAnyH_ready (rs := [13]) (by kernel_rfl) (by simp) ?_
    refine AllReadyH.cons (o := _) rfl (fun K hK => ?_) AllReadyH.nil
    refine step_append_row rfl _ _ _ rfl B 63 i0 _ 3 32 Try.underlying27 hi hz0 hz1 hz2 rfl (by omega) (.slice la lg.length lc) lg.length _ rfl (unhide O4).lg _ 1 [.int .i64 tm, .int .i64 0, .string ⟨#[]⟩] rfl (unhide HR4) rfl (by simp [Value.oneCell']) (by unfold maxLen; omega) (by omega) (by omega) ?_
    intro a6 c6 w5 hown5 hgrow5 hat5
    obtain ⟨gg, rfl⟩ : ∃ gg, a6 = some ⟨gg, 0, none⟩ := by
      rcases own_shape hown5 with ⟨_, h0⟩ | ⟨gg, cap, hq, _⟩
      · omega
      · simp only [Value.slice.injEq] at hq
        exact ⟨gg, hq.1⟩
    have hO5 : NoO B w5 (.slice (some ⟨gg, 0, none⟩) (lg.length + 1) c6) (.slice sa st.length sc) (.slice va vs.length vc) (.slice (some ⟨g, 0, none⟩) 7 nc) (.slice (some ⟨h, 0, none⟩) 7 mc) (lg ++ [(⟨tm, 0, ⟨#[]⟩⟩ : En)]) st vs (List.replicate 7 ((lg.length : Int) + 1)) (List.replicate 7 (0 : Int)) := NoO.log (unhide O4) hgrow5 (by unfold OwnE; rw [List.length_append, ensC_push]; exact hown5) hat5
    have hgb : gg ≠ b := fun e => by
      rcases hat5 with h | h
      · exact unhide HAP (.slice la lg.length lc) (by simp) (by rw [← h, e]; rfl)
      · have : gg = w4.heap.size := by simpa [Value.ownBlock] using h
        omega
    have hap5 : ∀ q, NoT [.slice (some ⟨gg, 0, none⟩) (lg.length + 1) c6, .slice sa st.length sc, .slice va vs.length vc, .slice (some ⟨g, 0, none⟩) 7 nc, .slice (some ⟨h, 0, none⟩) 7 mc] q → q ≠ b := fun q hq e => by
      obtain ⟨v, hv, hvq⟩ := hq
      rcases List.mem_cons.1 hv with rfl | hv
      · have : q = gg := by simp [Value.ownBlock] at hvq; omega
        omega
      · exact unhide HAP v (List.mem_cons_of_mem _ hv) (by rw [hvq, e])
    have T4 := (Touch.refl (fun q => (Value.slice la lg.length lc).ownBlock = some q) w4).grown hgrow5 (fun q e _ => e)
    have hlv : ∀ q, (Value.slice la lg.length lc).ownBlock = some q → q < w.heap.size := fun q e => (unhide HBL q ⟨_, by simp, e⟩).2
    have XX5 := ((unhide X5).below (unhide HB4)).kept T4 (fun e => unhide HAP _ (by simp) e)
    have LL5 := ((unhide L5).below (unhide HB4)).kept T4 (fun e => by have := hlv _ e; omega)
    have T6 := hide ((((unhide T5).trans (T' := fun _ => False) (Touch.ofBelow (unhide HB4)) (fun _ _ e => e.elim)).grown hgrow5 (fun q e hq => .inr ⟨_, by simp, e⟩)).setCell ⟨b, 3, none⟩ (.slice (some ⟨gg, 0, none⟩) (lg.length + 1) c6) (fun _ => .inl rfl))
    have O6 := hide (NoO.keep hO5 ((Touch.refl (fun q => q = b) w5).setCell ⟨b, 3, none⟩ (.slice (some ⟨gg, 0, none⟩) (lg.length + 1) c6) (fun _ => rfl)) hap5)
    have HA6 := hide hap5
    have X6 := hide (XX5.set 3 (.slice (some ⟨gg, 0, none⟩) (lg.length + 1) c6) (by simp))
    have u3 := XX5.cell 3 rfl
    have f3 := XX5.fro 3
    have L6 := hide (LL5.other (C := b) 3 (.slice (some ⟨gg, 0, none⟩) (lg.length + 1) c6) (fun e => by omega))
    have u1 := (unhide X6).cell 1 rfl
    refine hK.out _ _ ?_ (fun hHeld => ?_)
    · exact XX5.cell 1 rfl
    clear hK K T4 XX5 LL5 hown5 hgrow5 hat5 hO5 hap5 hlv O4
    (try simp only [Act.put, List.getElem_toArray, List.getElem_cons_succ, List.getElem_cons_zero, List.setIfInBounds_toArray, List.set_cons_zero, List.set_cons_succ])
    refine wpAnyH_take (i := 14) (oi := _) (v := ?_) rfl (by kernel_rfl) (by kernel_rfl) (by kernel_rfl) (fun _ _ _ h => h) (Or.inl ⟨by rfl, ?_⟩) (by assumption) ?_
    rotate_left 1
    · (intro wq hSw; (try dsimp only at hSw); (try simp only [List.getElem_toArray, List.getElem_cons_succ, List.getElem_cons_zero]); go_simp; try with_reducible rfl)
    (try simp only [Act.put, List.getElem_toArray, List.getElem_cons_succ, List.getElem_cons_zero, List.setIfInBounds_toArray, List.set_cons_zero, List.set_cons_succ])
    refine wpAnyH_take (i := 15) (oi := _) (v := ?_) rfl (by kernel_rfl) (by kernel_rfl) (by kernel_rfl) (fun _ _ _ h => h) (Or.inl ⟨by rfl, ?_⟩) (by assumption) ?_
    rotate_left 1
    · (intro wq hSw; (try dsimp only at hSw); (try simp only [List.getElem_toArray, List.getElem_cons_succ, List.getElem_cons_zero]); go_simp; try with_reducible rfl)
    (try simp only [Act.put, List.getElem_toArray, List.getElem_cons_succ, List.getElem_cons_zero, List.setIfInBounds_toArray, List.set_cons_zero, List.set_cons_succ])
    refine wpAnyH_take (i := 16) (oi := _) (v := ?_) rfl (by kernel_rfl) (by kernel_rfl) (by kernel_rfl) (fun _ _ _ h => h) (Or.inl ⟨by rfl, ?_⟩) (by assumption) ?_
    rotate_left 1
    · (intro wq hSw; (try dsimp only at hSw); (try simp only [List.getElem_toArray, List.getElem_cons_succ, List.getElem_cons_zero]); go_simp; try with_reducible rfl)
    (try simp only [Act.put, List.getElem_toArray, List.getElem_cons_succ, List.getElem_cons_zero, List.setIfInBounds_toArray, List.set_cons_zero, List.set_cons_succ])
    refine wpAnyH_ready (rs := [17]) (by kernel_rfl) (by simp) ?_
    refine AllReadyH.cons (o := _) rfl (fun K hK => ?_) AllReadyH.nil
    go_simp
    refine hK.out _ _ ?_ (fun hHeld => ?_)
    · exact u1
    clear hK K
    (try simp only [Act.put, List.getElem_toArray, List.getElem_cons_succ, List.getElem_cons_zero, List.setIfInBounds_toArray, List.set_cons_zero, List.set_cons_succ])
    refine wpAnyH_done (by kernel_rfl) (NoPanic.normal ?_) _
    simp only [List.set_cons_succ, List.set_cons_zero] at X6
    have hw6 : w.heap.size ≤ (w5.setCell ⟨b, 3, none⟩ (.slice (some ⟨gg, 0, none⟩) (lg.length + 1) c6)).heap.size := (unhide T6).size
    generalize w5.setCell ⟨b, 3, none⟩ (.slice (some ⟨gg, 0, none⟩) (lg.length + 1) c6) = w6 at *
    clear u3 f3 u1 z3 z1 y3 x1 X5 O5 L5 T5 HB4 HR4
    have hlen : (lg ++ [(⟨tm, 0, ⟨#[]⟩⟩ : En)]).length = lg.length + 1 := by simp
    rw [← hlen] at X6 O6 HA6
    have HLEN := hide hlen
    clear hlen
    have l0 := (unhide L6).cell 0 rfl
    obtain ⟨hz, hg, hst, hc⟩ := unhide HS
    have hz' := leadL_size (tm := tm) hz
    have hg' := leadL_cfg (tm := tm) hg
    have hl60 := leadL_le tm lg hl
    have hmb := mb_seven (leadL tm lg) st hg' hst
    have hRp := rep_getD 7 ((lg.length : Int) + 1)
    have hnn' : ∀ x ∈ mbAt (leadL tm lg) st (leadL tm lg).length, 0 ≤ x ∧ x < 7 ∧ (x ≠ id → 1 ≤ (List.replicate 7 ((lg.length : Int) + 1)).getD x.toNat 0 ∧ (List.replicate 7 ((lg.length : Int) + 1)).getD x.toNat 0 ≤ ((leadL tm lg).length : Int) + 1) := fun x hx => ⟨(hmb.2 x hx).1, (hmb.2 x hx).2, fun _ => by have := hmb.2 x hx; rw [hRp x.toNat (by omega)]; omega⟩
    rw [unhide HLG] at hz' hg' hl60 hmb hnn'
    have HV := hide (And.intro hz' (And.intro hg' (And.intro hl60 (And.intro hmb (And.intro hnn' hc)))))
    clear hz hg hst hc hz' hg' hl60 hmb hRp hnn' HS
    generalize hlgN : lg ++ [(⟨tm, 0, ⟨#[]⟩⟩ : En)] = lgN at X6 O6 HA6 HLG HV ⊢
    clear hlgN
    obtain ⟨hz', hg', hl60, hmb, hnn', hc⟩ := unhide HV
    have X6c : Blk w6 b [.int .i64 id, .int .i64 tm, .int .i64 vo, .slice (some ⟨gg, 0, none⟩) lgN.length c6, .slice sa st.length sc, .int .i64 2, .slice va vs.length vc, .slice (some ⟨g, 0, none⟩) (List.replicate 7 ((lg.length : Int) + 1)).length nc, .slice (some ⟨h, 0, none⟩) (List.replicate 7 (0 : Int)).length mc, .int .i64 cm, .int .i64 0, .int .i64 wt, .bool up, .slice none 0 0] := by simpa only [List.length_replicate] using unhide X6
    have OO6 := unhide O6
    have hBW : B ≤ w6.heap.size := by omega
    have hNI : Ints w6 (.slice (some ⟨g, 0, none⟩) (List.replicate 7 ((lg.length : Int) + 1)).length nc) (List.replicate 7 ((lg.length : Int) + 1)) := by have := OO6.nx.ints; simpa only [List.length_replicate] using this
    have HSn := hide (sendNews_any B b id tm vo 2 cm 0 wt up lgN st vs (List.replicate 7 ((lg.length : Int) + 1)) (List.replicate 7 (0 : Int)) (some ⟨gg, 0, none⟩) c6 sa sc va vc (some ⟨g, 0, none⟩) nc (some ⟨h, 0, none⟩) mc w6 X6c OO6.lg.ens (fun e => unhide HA6 b ⟨_, by simp, e⟩ rfl) OO6.st hBW (fun e => unhide HA6 b ⟨_, by simp, e⟩ rfl) hNI (fun e => unhide HA6 b ⟨(.slice (some ⟨g, 0, none⟩) 7 nc), by simp, by simpa [Value.ownBlock] using e⟩ rfl) hz' hl60.1 hg' (by simp) hmb.1 hnn')
    simp only [List.length_replicate] at HSn
    have HCm := hide (fun wx v (T : Touch (fun q => q = b) w6 wx) (hx : Blk wx b [.int .i64 id, .int .i64 tm, .int .i64 vo, .slice (some ⟨gg, 0, none⟩) lgN.length c6, .slice sa st.length sc, .int .i64 2, .slice va vs.length vc, .slice (some ⟨g, 0, none⟩) 7 nc, .slice (some ⟨h, 0, none⟩) 7 mc, .int .i64 cm, .int .i64 0, .int .i64 wt, .bool up, v]) => commit_any B b id tm vo 2 cm 0 wt up lgN st vs (List.replicate 7 ((lg.length : Int) + 1)) (List.replicate 7 (0 : Int)) (some ⟨gg, 0, none⟩) c6 sa sc va vc (some ⟨g, 0, none⟩) nc (some ⟨h, 0, none⟩) mc v wx (by simpa only [List.length_replicate] using hx) (NoO.keep OO6 T (unhide HA6)).lg.ens (NoO.keep OO6 T (unhide HA6)).st (by have := T.size; omega) (by have := (NoO.keep OO6 T (unhide HA6)).mt.ints; simpa only [List.length_replicate] using this) hz' hl60.1 hg' (by simp) hmb.1 hmb.2 hc)
    simp only [List.length_replicate] at HCm
    have HO6 := hide OO6
    have HBk := hide (fun q hq => (NoO.blk OO6 q hq).2)
    have hb6 : b < w6.heap.size := X6c.1
    clear X6c OO6 hNI hz' hg' hl60 hmb hnn' hc HV X6 O6
    go_wp2_with fail
    refine (unhide HSn).mono ?_
    rintro e w7 ⟨⟨v7, rfl⟩, v, l, hX7, hN7, hL7, hT7⟩
    have HC7 := hide (unhide HCm w7 v hT7 hX7)
    have L7 := (unhide L6).kept hT7 (fun e => by omega)
    have l7 := L7.cell 0 rfl
    have HN7 := hide hN7
    have HL7 := hide hL7
    have HT7 := hide hT7
    clear hX7 hN7 hL7 hT7 HSn HCm L7 l0
    go_wp2_with fail
    refine (unhide HC7).mono ?_
    rintro e w8 ⟨⟨v8, rfl⟩, hX8, hT8⟩
    have T78 := (unhide HT7).trans (T' := fun q => q = b) hT8 (fun _ _ e => e)
    have R := hide (And.intro hX8 (And.intro (NoO.keep (unhide HO6) T78 (unhide HA6)) (And.intro ((unhide HN7).kept hT8 (fun k e _ => by omega)) (And.intro (unhide HL7) ((unhide T6).trans (T' := fun q => q = b) T78 (fun _ _ e => .inl e))))))
    clear hX8 hT8 T78 HC7 l7
    go_wp2_with fail
    go_end0
    refine ⟨⟨_, rfl⟩, ?_⟩
    unfold LeadR
    rw [unhide HLG]
    exact ⟨(some ⟨gg, 0, none⟩), c6, v, l, w6.heap.size, (unhide R).1, (unhide R).2.1, (unhide R).2.2.1, (unhide R).2.2.2.1, fun q hq => ⟨unhide HA6 q hq, unhide HBk q hq⟩, hb6, hw6, (unhide R).2.2.2.2⟩
  · go_simp
    refine hK.out _ _ ?_ (fun hHeld => ?_)
    · exact z1
    clear hK K
    (try simp only [Act.put, List.getElem_toArray, List.getElem_cons_succ, List.getElem_cons_zero, List.setIfInBounds_toArray, List.set_cons_zero, List.set_cons_succ])
    refine wpAnyH_ready (rs := [5]) (by kernel_rfl) (by simp) ?_
    refine AllReadyH.cons (o := _) rfl (fun K hK => ?_) AllReadyH.nil
    go_simp
    refine hK.out _ _ ?_ (fun hHeld => ?_)
    · exact z1
    clear hK K
    (try simp only [Act.put, List.getElem_toArray, List.getElem_cons_succ, List.getElem_cons_zero, List.setIfInBounds_toArray, List.set_cons_zero, List.set_cons_succ])
    generalize wz.alloc (.cells #[.int .i64 tm, .int .i64 0, .string ⟨#[]⟩] 63) = w4 at *
    have O4 := hide ((unhide O5).below (unhide HB4))
    have hs4' := (unhide HB4).size
    refine wpAnyH_ready (rs := [13]) (by kernel_rfl) (by simp) ?_
    refine AllReadyH.cons (o := _) rfl (fun K hK => ?_) AllReadyH.nil
    refine step_append_row rfl _ _ _ rfl B 63 i0 _ 3 32 Try.underlying27 hi hz0 hz1 hz2 rfl (by omega) (.slice la lg.length lc) lg.length _ rfl (unhide O4).lg _ 1 [.int .i64 tm, .int .i64 0, .string ⟨#[]⟩] rfl (unhide HR4) rfl (by simp [Value.oneCell']) (by unfold maxLen; omega) (by omega) (by omega) ?_
    intro a6 c6 w5 hown5 hgrow5 hat5
    obtain ⟨gg, rfl⟩ : ∃ gg, a6 = some ⟨gg, 0, none⟩ := by
      rcases own_shape hown5 with ⟨_, h0⟩ | ⟨gg, cap, hq, _⟩
      · omega
      · simp only [Value.slice.injEq] at hq
        exact ⟨gg, hq.1⟩
    have hO5 : NoO B w5 (.slice (some ⟨gg, 0, none⟩) (lg.length + 1) c6) (.slice sa st.length sc) (.slice va vs.length vc) (.slice (some ⟨g, 0, none⟩) 7 nc) (.slice (some ⟨h, 0, none⟩) 7 mc) (lg ++ [(⟨tm, 0, ⟨#[]⟩⟩ : En)]) st vs (List.replicate 7 ((lg.length : Int) + 1)) (List.replicate 7 (0 : Int)) := NoO.log (unhide O4) hgrow5 (by unfold OwnE; rw [List.length_append, ensC_push]; exact hown5) hat5
    have hgb : gg ≠ b := fun e => by
      rcases hat5 with h | h
      · exact unhide HAP (.slice la lg.length lc) (by simp) (by rw [← h, e]; rfl)
      · have : gg = w4.heap.size := by simpa [Value.ownBlock] using h
        omega
    have hap5 : ∀ q, NoT [.slice (some ⟨gg, 0, none⟩) (lg.length + 1) c6, .slice sa st.length sc, .slice va vs.length vc, .slice (some ⟨g, 0, none⟩) 7 nc, .slice (some ⟨h, 0, none⟩) 7 mc] q → q ≠ b := fun q hq e => by
      obtain ⟨v, hv, hvq⟩ := hq
      rcases List.mem_cons.1 hv with rfl | hv
      · have : q = gg := by simp [Value.ownBlock] at hvq; omega
        omega
      · exact unhide HAP v (List.mem_cons_of_mem _ hv) (by rw [hvq, e])
    have T4 := (Touch.refl (fun q => (Value.slice la lg.length lc).ownBlock = some q) w4).grown hgrow5 (fun q e _ => e)
    have hlv : ∀ q, (Value.slice la lg.length lc).ownBlock = some q → q < w.heap.size := fun q e => (unhide HBL q ⟨_, by simp, e⟩).2
    have XX5 := ((unhide X5).below (unhide HB4)).kept T4 (fun e => unhide HAP _ (by simp) e)
    have LL5 := ((unhide L5).below (unhide HB4)).kept T4 (fun e => by have := hlv _ e; omega)
    have T6 := hide ((((unhide T5).trans (T' := fun _ => False) (Touch.ofBelow (unhide HB4)) (fun _ _ e => e.elim)).grown hgrow5 (fun q e hq => .inr ⟨_, by simp, e⟩)).setCell ⟨b, 3, none⟩ (.slice (some ⟨gg, 0, none⟩) (lg.length + 1) c6) (fun _ => .inl rfl))
    have O6 := hide (NoO.keep hO5 ((Touch.refl (fun q => q = b) w5).setCell ⟨b, 3, none⟩ (.slice (some ⟨gg, 0, none⟩) (lg.length + 1) c6) (fun _ => rfl)) hap5)
    have HA6 := hide hap5
    have X6 := hide (XX5.set 3 (.slice (some ⟨gg, 0, none⟩) (lg.length + 1) c6) (by simp))
    have u3 := XX5.cell 3 rfl
    have f3 := XX5.fro 3
    have L6 := hide (LL5.other (C := b) 3 (.slice (some ⟨gg, 0, none⟩) (lg.length + 1) c6) (fun e => by omega))
    have u1 := (unhide X6).cell 1 rfl
    refine hK.out _ _ ?_ (fun hHeld => ?_)
    · exact XX5.cell 1 rfl
    clear hK K T4 XX5 LL5 hown5 hgrow5 hat5 hO5 hap5 hlv O4
    (try simp only [Act.put, List.getElem_toArray, List.getElem_cons_succ, List.getElem_cons_zero, List.setIfInBounds_toArray, List.set_cons_zero, List.set_cons_succ])
    refine wpAnyH_take (i := 14) (oi := _) (v := ?_) rfl (by kernel_rfl) (by kernel_rfl) (by kernel_rfl) (fun _ _ _ h => h) (Or.inl ⟨by rfl, ?_⟩) (by assumption) ?_
    rotate_left 1
    · (intro wq hSw; (try dsimp only at hSw); (try simp only [List.getElem_toArray, List.getElem_cons_succ, List.getElem_cons_zero]); go_simp; try with_reducible rfl)
    (try simp only [Act.put, List.getElem_toArray, List.getElem_cons_succ, List.getElem_cons_zero, List.setIfInBounds_toArray, List.set_cons_zero, List.set_cons_succ])
    refine wpAnyH_take (i := 15) (oi := _) (v := ?_) rfl (by kernel_rfl) (by kernel_rfl) (by kernel_rfl) (fun _ _ _ h => h) (Or.inl ⟨by rfl, ?_⟩) (by assumption) ?_
    rotate_left 1
    · (intro wq hSw; (try dsimp only at hSw); (try simp only [List.getElem_toArray, List.getElem_cons_succ, List.getElem_cons_zero]); go_simp; try with_reducible rfl)
    (try simp only [Act.put, List.getElem_toArray, List.getElem_cons_succ, List.getElem_cons_zero, List.setIfInBounds_toArray, List.set_cons_zero, List.set_cons_succ])
    refine wpAnyH_take (i := 16) (oi := _) (v := ?_) rfl (by kernel_rfl) (by kernel_rfl) (by kernel_rfl) (fun _ _ _ h => h) (Or.inl ⟨by rfl, ?_⟩) (by assumption) ?_
    rotate_left 1
    · (intro wq hSw; (try dsimp only at hSw); (try simp only [List.getElem_toArray, List.getElem_cons_succ, List.getElem_cons_zero]); go_simp; try with_reducible rfl)
    (try simp only [Act.put, List.getElem_toArray, List.getElem_cons_succ, List.getElem_cons_zero, List.setIfInBounds_toArray, List.set_cons_zero, List.set_cons_succ])
    refine wpAnyH_ready (rs := [17]) (by kernel_rfl) (by simp) ?_
    refine AllReadyH.cons (o := _) rfl (fun K hK => ?_) AllReadyH.nil
    go_simp
    refine hK.out _ _ ?_ (fun hHeld => ?_)
    · exact u1
    clear hK K
    (try simp only [Act.put, List.getElem_toArray, List.getElem_cons_succ, List.getElem_cons_zero, List.setIfInBounds_toArray, List.set_cons_zero, List.set_cons_succ])
    refine wpAnyH_done (by kernel_rfl) (NoPanic.normal ?_) _
    simp only [List.set_cons_succ, List.set_cons_zero] at X6
    have hw6 : w.heap.size ≤ (w5.setCell ⟨b, 3, none⟩ (.slice (some ⟨gg, 0, none⟩) (lg.length + 1) c6)).heap.size := (unhide T6).size
    generalize w5.setCell ⟨b, 3, none⟩ (.slice (some ⟨gg, 0, none⟩) (lg.length + 1) c6) = w6 at *
    clear u3 f3 u1 z3 z1 y3 x1 X5 O5 L5 T5 HB4 HR4
    have hlen : (lg ++ [(⟨tm, 0, ⟨#[]⟩⟩ : En)]).length = lg.length + 1 := by simp
    rw [← hlen] at X6 O6 HA6
    have HLEN := hide hlen
    clear hlen
    have l0 := (unhide L6).cell 0 rfl
    obtain ⟨hz, hg, hst, hc⟩ := unhide HS
    have hz' := leadL_size (tm := tm) hz
    have hg' := leadL_cfg (tm := tm) hg
    have hl60 := leadL_le tm lg hl
    have hmb := mb_seven (leadL tm lg) st hg' hst
    have hRp := rep_getD 7 ((lg.length : Int) + 1)
    have hnn' : ∀ x ∈ mbAt (leadL tm lg) st (leadL tm lg).length, 0 ≤ x ∧ x < 7 ∧ (x ≠ id → 1 ≤ (List.replicate 7 ((lg.length : Int) + 1)).getD x.toNat 0 ∧ (List.replicate 7 ((lg.length : Int) + 1)).getD x.toNat 0 ≤ ((leadL tm lg).length : Int) + 1) := fun x hx => ⟨(hmb.2 x hx).1, (hmb.2 x hx).2, fun _ => by have := hmb.2 x hx; rw [hRp x.toNat (by omega)]; omega⟩
    rw [unhide HLG] at hz' hg' hl60 hmb hnn'
    have HV := hide (And.intro hz' (And.intro hg' (And.intro hl60 (And.intro hmb (And.intro hnn' hc)))))
    clear hz hg hst hc hz' hg' hl60 hmb hRp hnn' HS
    generalize hlgN : lg ++ [(⟨tm, 0, ⟨#[]⟩⟩ : En)] = lgN at X6 O6 HA6 HLG HV ⊢
    clear hlgN
    obtain ⟨hz', hg', hl60, hmb, hnn', hc⟩ := unhide HV
    have X6c : Blk w6 b [.int .i64 id, .int .i64 tm, .int .i64 vo, .slice (some ⟨gg, 0, none⟩) lgN.length c6, .slice sa st.length sc, .int .i64 2, .slice va vs.length vc, .slice (some ⟨g, 0, none⟩) (List.replicate 7 ((lg.length : Int) + 1)).length nc, .slice (some ⟨h, 0, none⟩) (List.replicate 7 (0 : Int)).length mc, .int .i64 cm, .int .i64 0, .int .i64 wt, .bool up, .slice none 0 0] := by simpa only [List.length_replicate] using unhide X6
    have OO6 := unhide O6
    have hBW : B ≤ w6.heap.size := by omega
    have hNI : Ints w6 (.slice (some ⟨g, 0, none⟩) (List.replicate 7 ((lg.length : Int) + 1)).length nc) (List.replicate 7 ((lg.length : Int) + 1)) := by have := OO6.nx.ints; simpa only [List.length_replicate] using this
    have HSn := hide (sendNews_any B b id tm vo 2 cm 0 wt up lgN st vs (List.replicate 7 ((lg.length : Int) + 1)) (List.replicate 7 (0 : Int)) (some ⟨gg, 0, none⟩) c6 sa sc va vc (some ⟨g, 0, none⟩) nc (some ⟨h, 0, none⟩) mc w6 X6c OO6.lg.ens (fun e => unhide HA6 b ⟨_, by simp, e⟩ rfl) OO6.st hBW (fun e => unhide HA6 b ⟨_, by simp, e⟩ rfl) hNI (fun e => unhide HA6 b ⟨(.slice (some ⟨g, 0, none⟩) 7 nc), by simp, by simpa [Value.ownBlock] using e⟩ rfl) hz' hl60.1 hg' (by simp) hmb.1 hnn')
    simp only [List.length_replicate] at HSn
    have HCm := hide (fun wx v (T : Touch (fun q => q = b) w6 wx) (hx : Blk wx b [.int .i64 id, .int .i64 tm, .int .i64 vo, .slice (some ⟨gg, 0, none⟩) lgN.length c6, .slice sa st.length sc, .int .i64 2, .slice va vs.length vc, .slice (some ⟨g, 0, none⟩) 7 nc, .slice (some ⟨h, 0, none⟩) 7 mc, .int .i64 cm, .int .i64 0, .int .i64 wt, .bool up, v]) => commit_any B b id tm vo 2 cm 0 wt up lgN st vs (List.replicate 7 ((lg.length : Int) + 1)) (List.replicate 7 (0 : Int)) (some ⟨gg, 0, none⟩) c6 sa sc va vc (some ⟨g, 0, none⟩) nc (some ⟨h, 0, none⟩) mc v wx (by simpa only [List.length_replicate] using hx) (NoO.keep OO6 T (unhide HA6)).lg.ens (NoO.keep OO6 T (unhide HA6)).st (by have := T.size; omega) (by have := (NoO.keep OO6 T (unhide HA6)).mt.ints; simpa only [List.length_replicate] using this) hz' hl60.1 hg' (by simp) hmb.1 hmb.2 hc)
    simp only [List.length_replicate] at HCm
    have HO6 := hide OO6
    have HBk := hide (fun q hq => (NoO.blk OO6 q hq).2)
    have hb6 : b < w6.heap.size := X6c.1
    clear X6c OO6 hNI hz' hg' hl60 hmb hnn' hc HV X6 O6
    go_wp2_with fail
    refine (unhide HSn).mono ?_
    rintro e w7 ⟨⟨v7, rfl⟩, v, l, hX7, hN7, hL7, hT7⟩
    have HC7 := hide (unhide HCm w7 v hT7 hX7)
    have L7 := (unhide L6).kept hT7 (fun e => by omega)
    have l7 := L7.cell 0 rfl
    have HN7 := hide hN7
    have HL7 := hide hL7
    have HT7 := hide hT7
    clear hX7 hN7 hL7 hT7 HSn HCm L7 l0
    go_wp2_with fail
    refine (unhide HC7).mono ?_
    rintro e w8 ⟨⟨v8, rfl⟩, hX8, hT8⟩
    have T78 := (unhide HT7).trans (T' := fun q => q = b) hT8 (fun _ _ e => e)
    have R := hide (And.intro hX8 (And.intro (NoO.keep (unhide HO6) T78 (unhide HA6)) (And.intro ((unhide HN7).kept hT8 (fun k e _ => by omega)) (And.intro (unhide HL7) ((unhide T6).trans (T' := fun q => q = b) T78 (fun _ _ e => .inl e))))))
    clear hX8 hT8 T78 HC7 l7
    go_wp2_with fail
    go_end0
    refine ⟨⟨_, rfl⟩, ?_⟩
    unfold LeadR
    rw [unhide HLG]
    exact ⟨(some ⟨gg, 0, none⟩), c6, v, l, w6.heap.size, (unhide R).1, (unhide R).2.1, (unhide R).2.2.1, (unhide R).2.2.2.1, fun q hq => ⟨unhide HA6 q hq, unhide HBk q hq⟩, hb6, hw6, (unhide R).2.2.2.2⟩
end Go.Proofs.Ytljolldacpkeeaa
