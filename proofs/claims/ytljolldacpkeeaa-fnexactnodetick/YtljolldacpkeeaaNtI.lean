/- spec.l10Lead, walked. (Written by py/nti.py.) -/
import Derived.Test.YtljolldacpkeeaaNtD
import Derived.Test.YtljolldacpkeeaaNpD
namespace Go.Proofs.Ytljolldacpkeeaa
open Go.ChangeShapes Go.WideShapes Go.ChangeAt Go.RowKit Go.Deep
set_option linter.unusedVariables false
set_option linter.unusedSimpArgs false

/-- What l10Lead tells. -/
def LdAns (B : Nat) (id tm vo cm wt : Int) (up : Bool) (lg : List En) (st vs : List Int) (la : Option Addr) (lc : Nat) (sa : Option Addr) (sc : Nat) (va : Option Addr) (vc : Nat) (g nc h mc : Nat) (w : World) (e : Ending) (w' : World) : Prop :=
  ∃ la' lc' mv l D, e = .returned (.tuple #[.agg #[.int .i64 id, .int .i64 tm, .int .i64 vo, .slice la' (leadL tm lg).length lc', .slice sa st.length sc, .int .i64 2, .slice va vs.length vc, .slice (some ⟨g, 0, none⟩) 7 nc, .slice (some ⟨h, 0, none⟩) 7 mc, .int .i64 (advTo id tm cm (leadL tm lg) (List.replicate 7 (0 : Int)) (mbAt (leadL tm lg) st (leadL tm lg).length) (leadL tm lg).length), .int .i64 0, .int .i64 wt, .bool up], mv]) ∧ NoO B w' (.slice la' (leadL tm lg).length lc') (.slice sa st.length sc) (.slice va vs.length vc) (.slice (some ⟨g, 0, none⟩) 7 nc) (.slice (some ⟨h, 0, none⟩) 7 mc) (leadL tm lg) st vs (List.replicate 7 ((lg.length : Int) + 1)) (List.replicate 7 (0 : Int)) ∧ Ns mgS D w' mv l.length l ∧ l.map bareM = tellL id tm cm (leadL tm lg) (List.replicate 7 ((lg.length : Int) + 1)) (mbAt (leadL tm lg) st (leadL tm lg).length) ∧ (∀ q, NoT [.slice la' (leadL tm lg).length lc', .slice sa st.length sc, .slice va vs.length vc, .slice (some ⟨g, 0, none⟩) 7 nc, .slice (some ⟨h, 0, none⟩) 7 mc] q → q < D ∧ (NoT [.slice la lg.length lc, .slice sa st.length sc, .slice va vs.length vc, .slice (some ⟨g, 0, none⟩) 7 nc, .slice (some ⟨h, 0, none⟩) 7 mc] q ∨ w.heap.size ≤ q)) ∧ w.heap.size ≤ D ∧ Touch (fun q => NoT [.slice la lg.length lc, .slice sa st.length sc, .slice va vs.length vc, .slice (some ⟨g, 0, none⟩) 7 nc, .slice (some ⟨h, 0, none⟩) 7 mc] q) w w'
set_option maxRecDepth 100000 in
set_option maxHeartbeats 4000000 in
theorem l10Lead_any (B : Nat) (id tm vo ro cm el wt : Int) (up : Bool) (lg : List En) (st vs nx mt : List Int) (la : Option Addr) (lc : Nat) (sa : Option Addr) (sc : Nat) (va : Option Addr) (vc : Nat) (g nc h mc : Nat) (w : World) (hO : NoO B w (.slice la lg.length lc) (.slice sa st.length sc) (.slice va vs.length vc) (.slice (some ⟨g, 0, none⟩) 7 nc) (.slice (some ⟨h, 0, none⟩) 7 mc) lg st vs nx mt) (hB : B ≤ w.heap.size) (hz : ∀ i, (lg.getD i default).d.size ≤ 1048576) (hl : lg.length ≤ 60) (hg : CfgOK lg) (hst : mFault st = 0) (hnx : nx.length = 7) (hmt : mt.length = 7) (hc : 0 ≤ cm) :
    Calls Try.prog 65 #[.agg #[.int .i64 id, .int .i64 tm, .int .i64 vo, .slice la lg.length lc, .slice sa st.length sc, .int .i64 ro, .slice va vs.length vc, .slice (some ⟨g, 0, none⟩) 7 nc, .slice (some ⟨h, 0, none⟩) 7 mc, .int .i64 cm, .int .i64 el, .int .i64 wt, .bool up]] w fun e w' => LdAns B id tm vo cm wt up lg st vs la lc sa sc va vc g nc h mc w e w' := by
  obtain ⟨i0, hi, hz0, hz1, hz2⟩ := info_parts infoEn
  have B0 := hide (((Below.refl w.heap.size w).alloc (Nat.le_refl _) (.cells #[.int .i64 id, .int .i64 tm, .int .i64 vo, .slice la lg.length lc, .slice sa st.length sc, .int .i64 ro, .slice va vs.length vc, .slice (some ⟨g, 0, none⟩) 7 nc, .slice (some ⟨h, 0, none⟩) 7 mc, .int .i64 cm, .int .i64 el, .int .i64 wt, .bool up] 29)).alloc (by simp) (.cells #[.int .i64 0, .int .i64 0, .int .i64 0, .slice none 0 0, .slice none 0 0, .int .i64 0, .slice none 0 0, .slice none 0 0, .slice none 0 0, .int .i64 0, .int .i64 0, .int .i64 0, .bool false] 29))
  have X0 := hide ((Blk.new w #[.int .i64 id, .int .i64 tm, .int .i64 vo, .slice la lg.length lc, .slice sa st.length sc, .int .i64 ro, .slice va vs.length vc, .slice (some ⟨g, 0, none⟩) 7 nc, .slice (some ⟨h, 0, none⟩) 7 mc, .int .i64 cm, .int .i64 el, .int .i64 wt, .bool up] 29 w.heap.size rfl).alloc (.cells #[.int .i64 0, .int .i64 0, .int .i64 0, .slice none 0 0, .slice none 0 0, .int .i64 0, .slice none 0 0, .slice none 0 0, .slice none 0 0, .int .i64 0, .int .i64 0, .int .i64 0, .bool false] 29))
  have R0 := hide (Blk.new (w.alloc (.cells #[.int .i64 id, .int .i64 tm, .int .i64 vo, .slice la lg.length lc, .slice sa st.length sc, .int .i64 ro, .slice va vs.length vc, .slice (some ⟨g, 0, none⟩) 7 nc, .slice (some ⟨h, 0, none⟩) 7 mc, .int .i64 cm, .int .i64 el, .int .i64 wt, .bool up] 29)) #[.int .i64 0, .int .i64 0, .int .i64 0, .slice none 0 0, .slice none 0 0, .int .i64 0, .slice none 0 0, .slice none 0 0, .slice none 0 0, .int .i64 0, .int .i64 0, .int .i64 0, .bool false] 29 (w.heap.size + 1) (by simp))
  have HBL := hide (NoO.blk hO)
  have HO := hide hO
  have HS := hide (And.intro hz (And.intro hg (And.intro hst hc)))
  clear hO hz hg hst hc
  go_enter Try.func65, Try.ntmps65
  go_upto_region 1 with fail
  generalize (w.alloc (.cells #[.int .i64 id, .int .i64 tm, .int .i64 vo, .slice la lg.length lc, .slice sa st.length sc, .int .i64 ro, .slice va vs.length vc, .slice (some ⟨g, 0, none⟩) 7 nc, .slice (some ⟨h, 0, none⟩) 7 mc, .int .i64 cm, .int .i64 el, .int .i64 wt, .bool up] 29)).alloc (.cells #[.int .i64 0, .int .i64 0, .int .i64 0, .slice none 0 0, .slice none 0 0, .int .i64 0, .slice none 0 0, .slice none 0 0, .slice none 0 0, .int .i64 0, .int .i64 0, .int .i64 0, .bool false] 29) = w0 at *
  have hrw : w.heap.size + 1 < w0.heap.size := (unhide R0).1
  have x5 := (unhide X0).cell 5 rfl
  have x10 := (unhide X0).cell 10 rfl
  have f5 := (unhide X0).fro 5
  have f10 := (unhide X0).fro 10
  have X1 := hide (((unhide X0).set 5 (.int .i64 2) (by simp)).set 10 (.int .i64 0) (by simp))
  have T1 := ((Touch.refl (fun q => q = w.heap.size) w0).setCell ⟨w.heap.size, 5, none⟩ (.int .i64 2) (fun _ => rfl)).setCell ⟨w.heap.size, 10, none⟩ (.int .i64 0) (fun _ => rfl)
  have R1 := hide ((unhide R0).kept T1 (fun e => by omega))
  have O1 := hide (((unhide HO).below (unhide B0)).keep T1 (fun q hq e => by have := (unhide HBL q hq).2; omega))
  have K1 := hide ((unhide B0).trans (T1.below (unhide B0).size (fun q hq e => by omega)))
  simp only [List.set_cons_succ, List.set_cons_zero] at X1
  have hs1 := T1.size
  clear T1 X0 R0
  go_upto_region 3 with fail
  clear x5 x10 f5 f10
  generalize (w0.setCell ⟨w.heap.size, 5, none⟩ (.int .i64 2)).setCell ⟨w.heap.size, 10, none⟩ (.int .i64 0) = w1 at *
  have o1 := unhide O1
  have a1 := o1.ap
  simp only [List.pairwise_cons, List.mem_cons, List.not_mem_nil, or_false, forall_eq_or_imp, forall_eq] at a1
  have hgh : g ≠ h := fun e => a1.2.2.2.1 g rfl (by rw [e]; rfl)
  have hgw := (unhide HBL g ⟨(.slice (some ⟨g, 0, none⟩) 7 nc), by simp, rfl⟩).2
  have hhw := (unhide HBL h ⟨(.slice (some ⟨h, 0, none⟩) 7 mc), by simp, rfl⟩).2
  have hnv : OwnI B w1 (.slice (some ⟨g, 0, none⟩) 7 nc) nx := o1.nx
  have hmv : OwnI B w1 (.slice (some ⟨h, 0, none⟩) 7 mc) mt := o1.mt
  obtain ⟨hL, hm, hBg, hq1, hlt⟩ := LaidI.of hnv
  obtain ⟨hL', hm', hBh, hq2, hlt'⟩ := LaidI.of hmv
  clear hq1 hq2
  rw [hnx] at hL
  rw [hmt] at hL'
  have HL := hide (And.intro hL hL')
  have HM := hide (And.intro hm (And.intro hm' (And.intro hBg hBh)))
  have q3 : IntKind.i64.wrap ((lg.length : Int) + 1) = (lg.length : Int) + 1 := wrapSm _ (by omega) (by omega)
  clear o1 a1 hnv hmv hL hL' hm hm' hBg hBh
  go_wp2_with fail
  go_loopw [4] (fun i wr => ∃ k : Nat, k ≤ 7 ∧ i = .int .i64 (k : Int) ∧ Hid (LaidI wr g nc (resF nx ((lg.length : Int) + 1) k) 7) ∧ Hid (LaidI wr h mc (resF mt 0 k) 7) ∧ Hid (Touch (fun q => q = g ∨ q = h) w1 wr)) (fun i _ => 7 - (intOf i).toNat)
  case atStart => exact ⟨0, Nat.zero_le _, rfl, hide (unhide HL).1, hide (unhide HL).2, hide (Touch.refl _ _)⟩
  case round =>
    obtain ⟨k, hk, rfl, HA, HA', HT⟩ := hrel
    have XX := (unhide X1).kept (unhide HT) (fun e => by rcases e with e | e <;> omega)
    have y3 := XX.cell 3 rfl
    have y7 := XX.cell 7 rfl
    have y8 := XX.cell 8 rfl
    by_cases hlt2 : k < 7
    · obtain ⟨c1, f1⟩ := (unhide HA).cell k hlt2
      obtain ⟨c2, f2⟩ := (unhide HA').cell k hlt2
      have p0 : (0 : Int) ≤ (k : Int) := by omega
      have p1 : (k : Int) < 7 := by omega
      have q4 : IntKind.i64.wrap ((k : Int) + 1) = (k : Int) + 1 := wrapSm _ (by omega) (by omega)
      have d1 : (wr.setCell ⟨g, k, none⟩ (.int .i64 ((lg.length : Int) + 1))).cell? ⟨h, k, none⟩ = some (.int .i64 (resF mt 0 k k)) := (World.cell?_setCell_other _ _ _ _ (fun e => hgh (by simp at e <;> omega))).trans c2
      have d2 : (wr.setCell ⟨g, k, none⟩ (.int .i64 ((lg.length : Int) + 1))).frozen? ⟨h, k, none⟩ = false := by rw [World.frozen?_setCell]; exact f2
      have d3 : (wr.setCell ⟨g, k, none⟩ (.int .i64 ((lg.length : Int) + 1))).cell? ⟨w.heap.size, 8, none⟩ = some (.slice (some ⟨h, 0, none⟩) 7 mc) := (World.cell?_setCell_other _ _ _ _ (fun e => by simp at e <;> omega)).trans y8
      have T1 := (Touch.refl (fun q => q = g) wr).setCell ⟨g, k, none⟩ (.int .i64 ((lg.length : Int) + 1)) (fun _ => rfl)
      have T2 := (Touch.refl (fun q => q = h) (wr.setCell ⟨g, k, none⟩ (.int .i64 ((lg.length : Int) + 1)))).setCell ⟨h, k, none⟩ (.int .i64 0) (fun _ => rfl)
      have RA := hide (((unhide HA).set (f' := resF nx ((lg.length : Int) + 1) (k + 1)) k ((lg.length : Int) + 1) hlt2 (by unfold resF; rw [if_pos (by omega)]) (fun j hj => by
          unfold resF
          by_cases h1 : j < k
          · rw [if_pos h1, if_pos (by omega)]
          · rw [if_neg h1, if_neg (by omega)])).kept T2 (fun e => hgh e))
      have RB := hide (((unhide HA').kept T1 (fun e => hgh e.symm)).set (f' := resF mt 0 (k + 1)) k 0 hlt2 (by unfold resF; rw [if_pos (by omega)]) (fun j hj => by
          unfold resF
          by_cases h1 : j < k
          · rw [if_pos h1, if_pos (by omega)]
          · rw [if_neg h1, if_neg (by omega)]))
      have T3 := hide (((unhide HT).setCell ⟨g, k, none⟩ (.int .i64 ((lg.length : Int) + 1)) (fun _ => .inl rfl)).setCell ⟨h, k, none⟩ (.int .i64 0) (fun _ => .inr rfl))
      clear T1 T2 HA HA' HT XX
      generalize resF nx ((lg.length : Int) + 1) k k = zz at *
      generalize resF mt 0 k k = zz' at *
      go_wp2_with fail
      refine ⟨⟨k + 1, by omega, by go_num, RA, RB, T3⟩, ?_⟩
      simp [intOf] <;> omega
    · obtain rfl : k = 7 := by omega
      have q5 : ¬ ((7 : Nat) : Int) < 7 := by omega
      have hm1 := unhide HM
      have ON : OwnI B wr (.slice (some ⟨g, 0, none⟩) 7 nc) (List.replicate 7 ((lg.length : Int) + 1)) := LaidI.own (l := (List.replicate 7 ((lg.length : Int) + 1))) (f := resF nx ((lg.length : Int) + 1) 7) (unhide HA) (fun j hj => by unfold resF; rw [if_pos (by simpa using hj)]; exact (rep_getD 7 _ j (by simpa using hj)).symm) hm1.2.2.1 hm1.1
      have OM : OwnI B wr (.slice (some ⟨h, 0, none⟩) 7 mc) (List.replicate 7 (0 : Int)) := LaidI.own (l := (List.replicate 7 (0 : Int))) (f := resF mt 0 7) (unhide HA') (fun j hj => by unfold resF; rw [if_pos (by simpa using hj)]; exact (rep_getD 7 _ j (by simpa using hj)).symm) hm1.2.2.2 hm1.2.1
      have O4 := hide (NoO.told (unhide O1) ((unhide HT).wide (fun k e => e.elim (fun e => .inl (by rw [e]; rfl)) (fun e => .inr (by rw [e]; rfl)))) ON OM)
      have N4 := hide XX
      have R4 := hide ((unhide R1).kept (unhide HT) (fun e => by rcases e with e | e <;> omega))
      have T4 := hide (((Touch.ofBelow (T := fun q => NoT [.slice la lg.length lc, .slice sa st.length sc, .slice va vs.length vc, .slice (some ⟨g, 0, none⟩) 7 nc, .slice (some ⟨h, 0, none⟩) 7 mc] q) (unhide K1)).trans (T' := fun q => NoT [.slice la lg.length lc, .slice sa st.length sc, .slice va vs.length vc, .slice (some ⟨g, 0, none⟩) 7 nc, .slice (some ⟨h, 0, none⟩) 7 mc] q) ((unhide HT).wide (fun k e => e.elim (fun e => ⟨(.slice (some ⟨g, 0, none⟩) 7 nc), by simp, by rw [e]; rfl⟩) (fun e => ⟨(.slice (some ⟨h, 0, none⟩) 7 mc), by simp, by rw [e]; rfl⟩))) (fun _ _ e => e)))
      have hs4 := (unhide HT).size
      clear y3 y7 y8 XX ON OM HA HA' HT HL HM hm1
      have x3 := (unhide N4).cell 3 rfl
      go_upto_region 8 with fail
      by_cases h60 : lg.length < 60
      case neg =>
        have q6 : ¬ (lg.length : Int) < 60 := by omega
        have HLG := hide (show leadL tm lg = lg by unfold leadL; rw [if_neg h60])
        have HRN := hide (fun q (hq : NoT [.slice la lg.length lc, .slice sa st.length sc, .slice va vs.length vc, .slice (some ⟨g, 0, none⟩) 7 nc, .slice (some ⟨h, 0, none⟩) 7 mc] q) => show q ≠ w.heap.size + 1 from fun e => by have := (unhide HBL q hq).2; omega)
        have HOLD := hide (fun q (hq : NoT [.slice la lg.length lc, .slice sa st.length sc, .slice va vs.length vc, .slice (some ⟨g, 0, none⟩) 7 nc, .slice (some ⟨h, 0, none⟩) 7 mc] q) => (Or.inl hq : NoT [.slice la lg.length lc, .slice sa st.length sc, .slice va vs.length vc, .slice (some ⟨g, 0, none⟩) 7 nc, .slice (some ⟨h, 0, none⟩) 7 mc] q ∨ w.heap.size ≤ q))
        have N6 := N4
        have O6 := O4
        have R6 := R4
        have T6 := T4
        clear N4 O4 R4 T4
        obtain ⟨hz, hg, hst, hc⟩ := unhide HS
        have hz' := leadL_size (tm := tm) hz
        have hg' := leadL_cfg (tm := tm) hg
        have hl60 := leadL_le tm lg hl
        have hmb := mb_seven (leadL tm lg) st hg' hst
        have hRp := rep_getD 7 ((lg.length : Int) + 1)
        have hnn' : ∀ x ∈ mbAt (leadL tm lg) st (leadL tm lg).length, 0 ≤ x ∧ x < 7 ∧ (x ≠ id → 1 ≤ (List.replicate 7 ((lg.length : Int) + 1)).getD x.toNat 0 ∧ (List.replicate 7 ((lg.length : Int) + 1)).getD x.toNat 0 ≤ ((leadL tm lg).length : Int) + 1) := fun x hx => ⟨(hmb.2 x hx).1, (hmb.2 x hx).2, fun _ => by have := hmb.2 x hx; rw [hRp x.toNat (by omega)]; omega⟩
        rw [unhide HLG] at hz' hg' hl60 hmb hnn'
        have HV := hide (And.intro hz' (And.intro hg' (And.intro hl60 (And.intro hmb (And.intro hnn' hc)))))
        clear hz hg hst hc hz' hg' hl60 hmb hRp hnn' HS
        obtain ⟨hz', hg', hl60, hmb, hnn', hc⟩ := unhide HV
        have HAd := hide (fun wx (o : NoO B wx (.slice la lg.length lc) (.slice sa st.length sc) (.slice va vs.length vc) (.slice (some ⟨g, 0, none⟩) 7 nc) (.slice (some ⟨h, 0, none⟩) 7 mc) lg st vs (List.replicate 7 ((lg.length : Int) + 1)) (List.replicate 7 (0 : Int))) => l10Advance_any id tm vo 2 cm 0 wt up lg st vs (List.replicate 7 ((lg.length : Int) + 1)) (List.replicate 7 (0 : Int)) la lc sa sc va vc (some ⟨g, 0, none⟩) nc (some ⟨h, 0, none⟩) mc wx o.lg.ens o.st.ints (by have := o.mt.ints; simpa only [List.length_replicate] using this) hz' hl60.1 hg' (by simp) hmb.1 hc)
        have HTl := hide (fun wx (o : NoO B wx (.slice la lg.length lc) (.slice sa st.length sc) (.slice va vs.length vc) (.slice (some ⟨g, 0, none⟩) 7 nc) (.slice (some ⟨h, 0, none⟩) 7 mc) lg st vs (List.replicate 7 ((lg.length : Int) + 1)) (List.replicate 7 (0 : Int))) => l10Tell_any id tm vo 2 cm 0 wt up lg st vs (List.replicate 7 ((lg.length : Int) + 1)) (List.replicate 7 (0 : Int)) la lc sa sc va vc (some ⟨g, 0, none⟩) nc (some ⟨h, 0, none⟩) mc wx o.lg.ens o.st.ints (by have := o.nx.ints; simpa only [List.length_replicate] using this) hz' hl60.1 hg' (by simp) hmb.1 hnn')
        simp only [List.length_replicate] at HAd HTl
        generalize hcm : advTo id tm cm lg (List.replicate 7 (0 : Int)) (mbAt lg st lg.length) lg.length = cmN at HAd
        have HCM := hide hcm
        clear hcm hz' hg' hl60 hmb hnn' hc HV
        have O7 := hide ((unhide O6).drewN 1)
        have N7 := hide ((unhide N6).drewN 1)
        have R7 := hide ((unhide R6).drewN 1)
        have T7 := hide ((unhide T6).drewN 1)
        change Hid (NoO _ wr.drew _ _ _ _ _ _ _ _ _ _) at O7
        change Hid (Blk wr.drew w.heap.size _) at N7
        change Hid (Blk wr.drew (w.heap.size + 1) _) at R7
        change Hid (Touch _ w wr.drew) at T7
        have x0 := (unhide N6).cell 0 rfl
        have x1 := (unhide N6).cell 1 rfl
        have x2 := (unhide N6).cell 2 rfl
        have x3 := (unhide N6).cell 3 rfl
        have x4 := (unhide N6).cell 4 rfl
        have x5 := (unhide N6).cell 5 rfl
        have x6 := (unhide N6).cell 6 rfl
        have x7 := (unhide N6).cell 7 rfl
        have x8 := (unhide N6).cell 8 rfl
        have x9 := (unhide N6).cell 9 rfl
        have x10 := (unhide N6).cell 10 rfl
        have x11 := (unhide N6).cell 11 rfl
        have x12 := (unhide N6).cell 12 rfl
        go_wp2_with fail
        refine wp_region_noPanic ?_
        refine wp_region_held_drew (S := (fun wx => wx.cell? ⟨w.heap.size, 0, none⟩ = some (.int .i64 id) ∧ wx.cell? ⟨w.heap.size, 1, none⟩ = some (.int .i64 tm) ∧ wx.cell? ⟨w.heap.size, 2, none⟩ = some (.int .i64 vo) ∧ wx.cell? ⟨w.heap.size, 3, none⟩ = some (.slice la lg.length lc) ∧ wx.cell? ⟨w.heap.size, 4, none⟩ = some (.slice sa st.length sc) ∧ wx.cell? ⟨w.heap.size, 5, none⟩ = some (.int .i64 2) ∧ wx.cell? ⟨w.heap.size, 6, none⟩ = some (.slice va vs.length vc) ∧ wx.cell? ⟨w.heap.size, 7, none⟩ = some (.slice (some ⟨g, 0, none⟩) 7 nc) ∧ wx.cell? ⟨w.heap.size, 8, none⟩ = some (.slice (some ⟨h, 0, none⟩) 7 mc) ∧ wx.cell? ⟨w.heap.size, 9, none⟩ = some (.int .i64 cm) ∧ wx.cell? ⟨w.heap.size, 10, none⟩ = some (.int .i64 0) ∧ wx.cell? ⟨w.heap.size, 11, none⟩ = some (.int .i64 wt) ∧ wx.cell? ⟨w.heap.size, 12, none⟩ = some (.bool up))) (by kernel_rfl) ?_ (fun hHeld => ?_)
        · exact ⟨x0, x1, x2, x3, x4, x5, x6, x7, x8, x9, x10, x11, x12⟩
        refine wpAnyH_take (i := 0) (oi := _) (v := ?_) rfl (by kernel_rfl) (by kernel_rfl) (by kernel_rfl) (fun _ _ _ h => h) (Or.inl ⟨by rfl, ?_⟩) (by assumption) ?_
        rotate_left 1
        · (intro wq hSw; (try dsimp only at hSw); (try simp only [List.getElem_toArray, List.getElem_cons_succ, List.getElem_cons_zero]); go_simp; try with_reducible rfl)
        (try simp only [Act.put, List.getElem_toArray, List.getElem_cons_succ, List.getElem_cons_zero, List.setIfInBounds_toArray, List.set_cons_zero, List.set_cons_succ])
        refine wpAnyH_take (i := 2) (oi := _) (v := ?_) rfl (by kernel_rfl) (by kernel_rfl) (by kernel_rfl) (fun _ _ _ h => h) (Or.inl ⟨by rfl, ?_⟩) (by assumption) ?_
        rotate_left 1
        · (intro wq hSw; (try dsimp only at hSw); (try simp only [List.getElem_toArray, List.getElem_cons_succ, List.getElem_cons_zero]); go_simp; try with_reducible rfl)
        (try simp only [Act.put, List.getElem_toArray, List.getElem_cons_succ, List.getElem_cons_zero, List.setIfInBounds_toArray, List.set_cons_zero, List.set_cons_succ])
        clear x0 x1 x2 x3 x4 x5 x6 x7 x8 x9 x10 x11 x12 O6 N6 R6 T6
        generalize wr.drew = wz at *
        have x0 := (unhide N7).cell 0 rfl
        have x1 := (unhide N7).cell 1 rfl
        have x2 := (unhide N7).cell 2 rfl
        have x3 := (unhide N7).cell 3 rfl
        have x4 := (unhide N7).cell 4 rfl
        have x5 := (unhide N7).cell 5 rfl
        have x6 := (unhide N7).cell 6 rfl
        have x7 := (unhide N7).cell 7 rfl
        have x8 := (unhide N7).cell 8 rfl
        have x9 := (unhide N7).cell 9 rfl
        have x10 := (unhide N7).cell 10 rfl
        have x11 := (unhide N7).cell 11 rfl
        have x12 := (unhide N7).cell 12 rfl
        have hnz : w.heap.size < wz.heap.size := (unhide N7).1
        refine wpAnyH_ready (rs := [1]) (by kernel_rfl) (by simp) ?_
        refine AllReadyH.cons (o := _) rfl (fun K hK => ?_) AllReadyH.nil
        go_simp
        refine (unhide HAd wz (unhide O7)).mono ?_
        rintro e w8 ⟨rfl, hb8⟩
        have hbX := hb8
        have HB8 := hide hb8
        go_wp2_with fail
        refine hK.out _ _ ?_ (fun hHeld => ?_)
        · exact ⟨(hbX.cell (p := ⟨w.heap.size, 0, none⟩) hnz).trans x0, (hbX.cell (p := ⟨w.heap.size, 1, none⟩) hnz).trans x1, (hbX.cell (p := ⟨w.heap.size, 2, none⟩) hnz).trans x2, (hbX.cell (p := ⟨w.heap.size, 3, none⟩) hnz).trans x3, (hbX.cell (p := ⟨w.heap.size, 4, none⟩) hnz).trans x4, (hbX.cell (p := ⟨w.heap.size, 5, none⟩) hnz).trans x5, (hbX.cell (p := ⟨w.heap.size, 6, none⟩) hnz).trans x6, (hbX.cell (p := ⟨w.heap.size, 7, none⟩) hnz).trans x7, (hbX.cell (p := ⟨w.heap.size, 8, none⟩) hnz).trans x8, (hbX.cell (p := ⟨w.heap.size, 9, none⟩) hnz).trans x9, (hbX.cell (p := ⟨w.heap.size, 10, none⟩) hnz).trans x10, (hbX.cell (p := ⟨w.heap.size, 11, none⟩) hnz).trans x11, (hbX.cell (p := ⟨w.heap.size, 12, none⟩) hnz).trans x12⟩
        clear hK K
        (try simp only [Act.put, List.getElem_toArray, List.getElem_cons_succ, List.getElem_cons_zero, List.setIfInBounds_toArray, List.set_cons_zero, List.set_cons_succ])
        clear hb8 x0 x1 x2 x3 x4 x5 x6 x7 x8 x9 x10 x11 x12
        have O8 := hide ((unhide O7).below (unhide HB8))
        have N8 := hide ((unhide N7).below (unhide HB8))
        have R8 := hide ((unhide R7).below (unhide HB8))
        have T8 := hide ((unhide T7).trans (T' := fun _ => False) (Touch.ofBelow (unhide HB8)) (fun _ _ e => e.elim))
        have x0 := (unhide N8).cell 0 rfl
        have x1 := (unhide N8).cell 1 rfl
        have x2 := (unhide N8).cell 2 rfl
        have x3 := (unhide N8).cell 3 rfl
        have x4 := (unhide N8).cell 4 rfl
        have x5 := (unhide N8).cell 5 rfl
        have x6 := (unhide N8).cell 6 rfl
        have x7 := (unhide N8).cell 7 rfl
        have x8 := (unhide N8).cell 8 rfl
        have x9 := (unhide N8).cell 9 rfl
        have x10 := (unhide N8).cell 10 rfl
        have x11 := (unhide N8).cell 11 rfl
        have x12 := (unhide N8).cell 12 rfl
        have hn8 : w.heap.size < w8.heap.size := (unhide N8).1
        refine wpAnyH_ready (rs := [3]) (by kernel_rfl) (by simp) ?_
        refine AllReadyH.cons (o := _) rfl (fun K hK => ?_) AllReadyH.nil
        go_simp
        refine (unhide HTl w8 (unhide O8)).mono ?_
        rintro e w9 ⟨mv, l, rfl, hNs, hml, hb9⟩
        have hbX := hb9
        have HNs := hide hNs
        have HML := hide hml
        have HB9 := hide hb9
        go_wp2_with fail
        refine hK.out _ _ ?_ (fun hHeld => ?_)
        · exact ⟨(hbX.cell (p := ⟨w.heap.size, 0, none⟩) hn8).trans x0, (hbX.cell (p := ⟨w.heap.size, 1, none⟩) hn8).trans x1, (hbX.cell (p := ⟨w.heap.size, 2, none⟩) hn8).trans x2, (hbX.cell (p := ⟨w.heap.size, 3, none⟩) hn8).trans x3, (hbX.cell (p := ⟨w.heap.size, 4, none⟩) hn8).trans x4, (hbX.cell (p := ⟨w.heap.size, 5, none⟩) hn8).trans x5, (hbX.cell (p := ⟨w.heap.size, 6, none⟩) hn8).trans x6, (hbX.cell (p := ⟨w.heap.size, 7, none⟩) hn8).trans x7, (hbX.cell (p := ⟨w.heap.size, 8, none⟩) hn8).trans x8, (hbX.cell (p := ⟨w.heap.size, 9, none⟩) hn8).trans x9, (hbX.cell (p := ⟨w.heap.size, 10, none⟩) hn8).trans x10, (hbX.cell (p := ⟨w.heap.size, 11, none⟩) hn8).trans x11, (hbX.cell (p := ⟨w.heap.size, 12, none⟩) hn8).trans x12⟩
        clear hK K
        (try simp only [Act.put, List.getElem_toArray, List.getElem_cons_succ, List.getElem_cons_zero, List.setIfInBounds_toArray, List.set_cons_zero, List.set_cons_succ])
        clear hNs hml hb9
        have hs9 := (unhide HB9).size
        have hr8 : w.heap.size + 1 < w8.heap.size := (unhide R8).1
        have RX := (unhide R8).below (unhide HB9)
        have r0 := RX.cell 0 rfl
        have r1 := RX.cell 1 rfl
        have r2 := RX.cell 2 rfl
        have r3 := RX.cell 3 rfl
        have r4 := RX.cell 4 rfl
        have r5 := RX.cell 5 rfl
        have r6 := RX.cell 6 rfl
        have r7 := RX.cell 7 rfl
        have r8 := RX.cell 8 rfl
        have r9 := RX.cell 9 rfl
        have r10 := RX.cell 10 rfl
        have r11 := RX.cell 11 rfl
        have r12 := RX.cell 12 rfl
        have f0 := RX.fro 0
        have f1 := RX.fro 1
        have f2 := RX.fro 2
        have f3 := RX.fro 3
        have f4 := RX.fro 4
        have f5 := RX.fro 5
        have f6 := RX.fro 6
        have f7 := RX.fro 7
        have f8 := RX.fro 8
        have f9 := RX.fro 9
        have f10 := RX.fro 10
        have f11 := RX.fro 11
        have f12 := RX.fro 12
        have HR9 := hide ((((((((((((((RX.set 0 (.int .i64 id) (by simp)).set 1 (.int .i64 tm) (by simp)).set 2 (.int .i64 vo) (by simp)).set 3 (.slice la lg.length lc) (by simp)).set 4 (.slice sa st.length sc) (by simp)).set 5 (.int .i64 2) (by simp)).set 6 (.slice va vs.length vc) (by simp)).set 7 (.slice (some ⟨g, 0, none⟩) 7 nc) (by simp)).set 8 (.slice (some ⟨h, 0, none⟩) 7 mc) (by simp)).set 9 (.int .i64 cmN) (by simp)).set 10 (.int .i64 0) (by simp)).set 11 (.int .i64 wt) (by simp)).set 12 (.bool up) (by simp)))
        have T9 := ((((((((((((((Touch.refl (fun q => q = w.heap.size + 1) w9).setCell ⟨w.heap.size + 1, 0, none⟩ (.int .i64 id) (fun _ => rfl)).setCell ⟨w.heap.size + 1, 1, none⟩ (.int .i64 tm) (fun _ => rfl)).setCell ⟨w.heap.size + 1, 2, none⟩ (.int .i64 vo) (fun _ => rfl)).setCell ⟨w.heap.size + 1, 3, none⟩ (.slice la lg.length lc) (fun _ => rfl)).setCell ⟨w.heap.size + 1, 4, none⟩ (.slice sa st.length sc) (fun _ => rfl)).setCell ⟨w.heap.size + 1, 5, none⟩ (.int .i64 2) (fun _ => rfl)).setCell ⟨w.heap.size + 1, 6, none⟩ (.slice va vs.length vc) (fun _ => rfl)).setCell ⟨w.heap.size + 1, 7, none⟩ (.slice (some ⟨g, 0, none⟩) 7 nc) (fun _ => rfl)).setCell ⟨w.heap.size + 1, 8, none⟩ (.slice (some ⟨h, 0, none⟩) 7 mc) (fun _ => rfl)).setCell ⟨w.heap.size + 1, 9, none⟩ (.int .i64 cmN) (fun _ => rfl)).setCell ⟨w.heap.size + 1, 10, none⟩ (.int .i64 0) (fun _ => rfl)).setCell ⟨w.heap.size + 1, 11, none⟩ (.int .i64 wt) (fun _ => rfl)).setCell ⟨w.heap.size + 1, 12, none⟩ (.bool up) (fun _ => rfl))
        have HT9 := hide T9
        have X9 := hide (((unhide N8).below (unhide HB9)).kept T9 (fun e => by omega))
        clear RX T9
        refine wpAnyH_ready (rs := [4]) (by kernel_rfl) (by simp) ?_
        refine AllReadyH.cons (o := _) rfl (fun K hK => ?_) AllReadyH.nil
        go_simp
        refine hK.out _ _ ?_ (fun hHeld => ?_)
        · exact ⟨(unhide X9).cell 0 rfl, (unhide X9).cell 1 rfl, (unhide X9).cell 2 rfl, (unhide X9).cell 3 rfl, (unhide X9).cell 4 rfl, (unhide X9).cell 5 rfl, (unhide X9).cell 6 rfl, (unhide X9).cell 7 rfl, (unhide X9).cell 8 rfl, (unhide X9).cell 9 rfl, (unhide X9).cell 10 rfl, (unhide X9).cell 11 rfl, (unhide X9).cell 12 rfl⟩
        clear hK K
        (try simp only [Act.put, List.getElem_toArray, List.getElem_cons_succ, List.getElem_cons_zero, List.setIfInBounds_toArray, List.set_cons_zero, List.set_cons_succ])
        refine wpAnyH_take (i := 5) (oi := _) (v := ?_) rfl (by kernel_rfl) (by kernel_rfl) (by kernel_rfl) (fun _ _ _ h => h) (Or.inl ⟨by rfl, ?_⟩) (by assumption) ?_
        rotate_left 1
        · (intro wq hSw; (try dsimp only at hSw); (try simp only [List.getElem_toArray, List.getElem_cons_succ, List.getElem_cons_zero]); go_simp; try with_reducible rfl)
        (try simp only [Act.put, List.getElem_toArray, List.getElem_cons_succ, List.getElem_cons_zero, List.setIfInBounds_toArray, List.set_cons_zero, List.set_cons_succ])
        refine wpAnyH_done (by kernel_rfl) (NoPanic.normal ?_) _
        go_wp2_with fail
        have R9 := unhide HR9
        have z0 := R9.cell 0 rfl
        have z1 := R9.cell 1 rfl
        have z2 := R9.cell 2 rfl
        have z3 := R9.cell 3 rfl
        have z4 := R9.cell 4 rfl
        have z5 := R9.cell 5 rfl
        have z6 := R9.cell 6 rfl
        have z7 := R9.cell 7 rfl
        have z8 := R9.cell 8 rfl
        have z9 := R9.cell 9 rfl
        have z10 := R9.cell 10 rfl
        have z11 := R9.cell 11 rfl
        have z12 := R9.cell 12 rfl
        refine bodyPost_ret (v := .tuple #[.agg #[.int .i64 id, .int .i64 tm, .int .i64 vo, .slice la lg.length lc, .slice sa st.length sc, .int .i64 2, .slice va vs.length vc, .slice (some ⟨g, 0, none⟩) 7 nc, .slice (some ⟨h, 0, none⟩) 7 mc, .int .i64 cmN, .int .i64 0, .int .i64 wt, .bool up], mv]) (by simp [results, Try.results65, go_sem, z0, z1, z2, z3, z4, z5, z6, z7, z8, z9, z10, z11, z12]) rfl ?_
        unfold LdAns
        rw [unhide HLG, unhide HCM]
        have hblk := fun q hq => NoO.blk (unhide O8) q hq
        exact ⟨la, lc, mv, l, w8.heap.size, rfl, NoO.keep ((unhide O8).below (unhide HB9)) (unhide HT9) (fun q hq e => unhide HRN q hq e), (unhide HNs).kept (unhide HT9) (fun q e _ => by omega), unhide HML, fun q hq => ⟨(hblk q hq).2, unhide HOLD q hq⟩, by omega, ((unhide T8).trans (T' := fun _ => False) (Touch.ofBelow (unhide HB9)) (fun _ _ e => e.elim)).trans (T' := fun q => q = w.heap.size + 1) (unhide HT9) (fun j hj e => by omega)⟩
      have q6 : (lg.length : Int) < 60 := by omega
      have HLG := hide (show leadL tm lg = lg ++ [(⟨tm, 0, ⟨#[]⟩⟩ : En)] by unfold leadL; rw [if_pos h60])
      have x1 := (unhide N4).cell 1 rfl
      have hlv := hide (fun q (e : NoT [.slice la lg.length lc, .slice sa st.length sc, .slice va vs.length vc, .slice (some ⟨g, 0, none⟩) 7 nc, .slice (some ⟨h, 0, none⟩) 7 mc] q) => (unhide HBL q e).2)
      go_upto_region 10 with (at_builtin; refine wpList_append_lies _ rfl _ _ _ rfl B 63 i0 _ 3 32 Try.underlying27 hi hz0 hz1 hz2 rfl (by omega) (.slice la lg.length lc) lg.length _ rfl (World.ownsRow.alloc (unhide O4).lg _) ⟨wr.heap.size, 0, none⟩ 1 1 [_, _, _] rfl rfl (World.news_of_block (cs := #[_, _, _]) (t := 63) (fr := (0, 0)) (heap_alloc_new wr _)) (by simp [Value.oneCell']) (by omega) (by unfold maxLen; omega) (by omega) (by simp; omega) _ rfl ?_; intro g5 c5 w5 hown5 hgrow5 hat5 hlt5; have R5 := hide (And.intro hown5 (And.intro hgrow5 hat5)); have N5 := hide ((Blk.alloc (unhide N4) (.cells #[.int .i64 tm, .int .i64 0, .string ⟨#[]⟩] 63)).kept ((Touch.refl (fun q => (Value.slice la lg.length lc).ownBlock = some q) _).grown hgrow5 (fun q e _ => e)) (fun e => by have := unhide hlv w.heap.size ⟨_, by simp, e⟩; omega)); have C5 := (unhide N5).cell 3 rfl; have F5 := (unhide N5).fro 3; clear hown5 hgrow5 hat5 hlt5)
      obtain ⟨hown5, hgrow5, hat5⟩ := unhide R5
      have hsw : (wr.alloc (.cells #[.int .i64 tm, .int .i64 0, .string ⟨#[]⟩] 63)).heap.size = wr.heap.size + 1 := by simp
      have hO5 : NoO B w5 (.slice (some ⟨g5, 0, none⟩) (lg.length + 1) c5) (.slice sa st.length sc) (.slice va vs.length vc) (.slice (some ⟨g, 0, none⟩) 7 nc) (.slice (some ⟨h, 0, none⟩) 7 mc) (lg ++ [(⟨tm, 0, ⟨#[]⟩⟩ : En)]) st vs (List.replicate 7 ((lg.length : Int) + 1)) (List.replicate 7 (0 : Int)) := NoO.log ((unhide O4).below ((Below.refl wr.heap.size wr).alloc (Nat.le_refl _) (.cells #[.int .i64 tm, .int .i64 0, .string ⟨#[]⟩] 63))) hgrow5 (by unfold OwnE; rw [List.length_append, ensC_push]; exact hown5) (hat5.elim (fun h => .inl (by rw [h]; rfl)) (fun h => .inr (by rw [← h]; rfl)))
      have hap6 : ∀ q, NoT [.slice (some ⟨g5, 0, none⟩) (lg.length + 1) c5, .slice sa st.length sc, .slice va vs.length vc, .slice (some ⟨g, 0, none⟩) 7 nc, .slice (some ⟨h, 0, none⟩) 7 mc] q → q ≠ w.heap.size ∧ q ≠ w.heap.size + 1 := fun q hq => by
        obtain ⟨v, hv, hvq⟩ := hq
        rcases List.mem_cons.1 hv with rfl | hv
        · have hqg : q = g5 := by simp [Value.ownBlock] at hvq; omega
          rcases hat5 with h | h
          · have := unhide hlv g5 ⟨_, by simp, h⟩; omega
          · omega
        · have := unhide hlv q ⟨v, List.mem_cons_of_mem _ hv, hvq⟩; omega
      have TT := (Touch.refl (fun q => (Value.slice la lg.length lc).ownBlock = some q) (wr.alloc (.cells #[.int .i64 tm, .int .i64 0, .string ⟨#[]⟩] 63))).grown hgrow5 (fun q e _ => e)
      have R6 := hide ((((unhide R4).alloc (.cells #[.int .i64 tm, .int .i64 0, .string ⟨#[]⟩] 63)).kept TT (fun e => by have := unhide hlv _ ⟨_, by simp, e⟩; omega)).other (C := w.heap.size) 3 (.slice (some ⟨g5, 0, none⟩) (lg.length + 1) c5) (by omega))
      have T6 := hide ((((unhide T4).alloc (.cells #[.int .i64 tm, .int .i64 0, .string ⟨#[]⟩] 63)).grown hgrow5 (fun q e _ => ⟨_, by simp, e⟩)).setCell ⟨w.heap.size, 3, none⟩ (.slice (some ⟨g5, 0, none⟩) (lg.length + 1) c5) (fun e => absurd e (Nat.lt_irrefl _)))
      have O6 := hide (NoO.keep hO5 ((Touch.refl (fun q => q = w.heap.size) w5).setCell ⟨w.heap.size, 3, none⟩ (.slice (some ⟨g5, 0, none⟩) (lg.length + 1) c5) (fun _ => rfl)) (fun q hq => (hap6 q hq).1))
      have N6 := hide ((unhide N5).set 3 (.slice (some ⟨g5, 0, none⟩) (lg.length + 1) c5) (by simp))
      have HRN := hide (fun q hq => (hap6 q hq).2)
      have hold : ∀ q, NoT [.slice (some ⟨g5, 0, none⟩) (lg.length + 1) c5, .slice sa st.length sc, .slice va vs.length vc, .slice (some ⟨g, 0, none⟩) 7 nc, .slice (some ⟨h, 0, none⟩) 7 mc] q → NoT [.slice la lg.length lc, .slice sa st.length sc, .slice va vs.length vc, .slice (some ⟨g, 0, none⟩) 7 nc, .slice (some ⟨h, 0, none⟩) 7 mc] q ∨ w.heap.size ≤ q := fun q hq => by
        obtain ⟨v, hv, hvq⟩ := hq
        rcases List.mem_cons.1 hv with rfl | hv
        · have hqg : q = g5 := by simp [Value.ownBlock] at hvq; omega
          rcases hat5 with h | h
          · exact .inl ⟨.slice la lg.length lc, by simp, by rw [hqg]; exact h⟩
          · right; omega
        · exact .inl ⟨v, List.mem_cons_of_mem _ hv, hvq⟩
      have HOLD := hide hold
      clear hold
      simp only [List.set_cons_succ, List.set_cons_zero] at N6
      clear hown5 hgrow5 hat5 R5 N5 C5 F5 hO5 hap6 TT R4 T4 O4 N4 x3 x1 hsw hlv
      generalize w5.setCell ⟨w.heap.size, 3, none⟩ (.slice (some ⟨g5, 0, none⟩) (lg.length + 1) c5) = w6 at *
      have hlen : (lg ++ [(⟨tm, 0, ⟨#[]⟩⟩ : En)]).length = lg.length + 1 := by simp
      rw [← hlen] at N6 O6 HRN HOLD
      have HLEN := hide hlen
      clear hlen
      obtain ⟨hz, hg, hst, hc⟩ := unhide HS
      have hz' := leadL_size (tm := tm) hz
      have hg' := leadL_cfg (tm := tm) hg
      have hl60 := leadL_le tm lg hl
      have hmb := mb_seven (leadL tm lg) st hg' hst
      have hRp := rep_getD 7 ((lg.length : Int) + 1)
      have hnn' : ∀ x ∈ mbAt (leadL tm lg) st (leadL tm lg).length, 0 ≤ x ∧ x < 7 ∧ (x ≠ id → 1 ≤ (List.replicate 7 ((lg.length : Int) + 1)).getD x.toNat 0 ∧ (List.replicate 7 ((lg.length : Int) + 1)).getD x.toNat 0 ≤ ((leadL tm lg).length : Int) + 1) := fun x hx => ⟨(hmb.2 x hx).1, (hmb.2 x hx).2, fun _ => by have := hmb.2 x hx; rw [hRp x.toNat (by omega)]; omega⟩
      rw [unhide HLG] at hz' hg' hl60 hmb hnn'
      have HV := hide (And.intro hz' (And.intro hg' (And.intro hl60 (And.intro hmb (And.intro hnn' hc)))))
      clear hz hg hst hc hz' hg' hl60 hmb hRp hnn' HS
      generalize hlgN : lg ++ [(⟨tm, 0, ⟨#[]⟩⟩ : En)] = lgN at N6 O6 HLG HV HRN HOLD ⊢
      clear hlgN
      obtain ⟨hz', hg', hl60, hmb, hnn', hc⟩ := unhide HV
      have HAd := hide (fun wx (o : NoO B wx (.slice (some ⟨g5, 0, none⟩) lgN.length c5) (.slice sa st.length sc) (.slice va vs.length vc) (.slice (some ⟨g, 0, none⟩) 7 nc) (.slice (some ⟨h, 0, none⟩) 7 mc) lgN st vs (List.replicate 7 ((lg.length : Int) + 1)) (List.replicate 7 (0 : Int))) => l10Advance_any id tm vo 2 cm 0 wt up lgN st vs (List.replicate 7 ((lg.length : Int) + 1)) (List.replicate 7 (0 : Int)) (some ⟨g5, 0, none⟩) c5 sa sc va vc (some ⟨g, 0, none⟩) nc (some ⟨h, 0, none⟩) mc wx o.lg.ens o.st.ints (by have := o.mt.ints; simpa only [List.length_replicate] using this) hz' hl60.1 hg' (by simp) hmb.1 hc)
      have HTl := hide (fun wx (o : NoO B wx (.slice (some ⟨g5, 0, none⟩) lgN.length c5) (.slice sa st.length sc) (.slice va vs.length vc) (.slice (some ⟨g, 0, none⟩) 7 nc) (.slice (some ⟨h, 0, none⟩) 7 mc) lgN st vs (List.replicate 7 ((lg.length : Int) + 1)) (List.replicate 7 (0 : Int))) => l10Tell_any id tm vo 2 cm 0 wt up lgN st vs (List.replicate 7 ((lg.length : Int) + 1)) (List.replicate 7 (0 : Int)) (some ⟨g5, 0, none⟩) c5 sa sc va vc (some ⟨g, 0, none⟩) nc (some ⟨h, 0, none⟩) mc wx o.lg.ens o.st.ints (by have := o.nx.ints; simpa only [List.length_replicate] using this) hz' hl60.1 hg' (by simp) hmb.1 hnn')
      simp only [List.length_replicate] at HAd HTl
      generalize hcm : advTo id tm cm lgN (List.replicate 7 (0 : Int)) (mbAt lgN st lgN.length) lgN.length = cmN at HAd
      have HCM := hide hcm
      clear hcm hz' hg' hl60 hmb hnn' hc HV
      have O7 := hide ((unhide O6).drewN 1)
      have N7 := hide ((unhide N6).drewN 1)
      have R7 := hide ((unhide R6).drewN 1)
      have T7 := hide ((unhide T6).drewN 1)
      change Hid (NoO _ w6.drew _ _ _ _ _ _ _ _ _ _) at O7
      change Hid (Blk w6.drew w.heap.size _) at N7
      change Hid (Blk w6.drew (w.heap.size + 1) _) at R7
      change Hid (Touch _ w w6.drew) at T7
      have x0 := (unhide N6).cell 0 rfl
      have x1 := (unhide N6).cell 1 rfl
      have x2 := (unhide N6).cell 2 rfl
      have x3 := (unhide N6).cell 3 rfl
      have x4 := (unhide N6).cell 4 rfl
      have x5 := (unhide N6).cell 5 rfl
      have x6 := (unhide N6).cell 6 rfl
      have x7 := (unhide N6).cell 7 rfl
      have x8 := (unhide N6).cell 8 rfl
      have x9 := (unhide N6).cell 9 rfl
      have x10 := (unhide N6).cell 10 rfl
      have x11 := (unhide N6).cell 11 rfl
      have x12 := (unhide N6).cell 12 rfl
      go_wp2_with fail
      refine wp_region_noPanic ?_
      refine wp_region_held_drew (S := (fun wx => wx.cell? ⟨w.heap.size, 0, none⟩ = some (.int .i64 id) ∧ wx.cell? ⟨w.heap.size, 1, none⟩ = some (.int .i64 tm) ∧ wx.cell? ⟨w.heap.size, 2, none⟩ = some (.int .i64 vo) ∧ wx.cell? ⟨w.heap.size, 3, none⟩ = some (.slice (some ⟨g5, 0, none⟩) lgN.length c5) ∧ wx.cell? ⟨w.heap.size, 4, none⟩ = some (.slice sa st.length sc) ∧ wx.cell? ⟨w.heap.size, 5, none⟩ = some (.int .i64 2) ∧ wx.cell? ⟨w.heap.size, 6, none⟩ = some (.slice va vs.length vc) ∧ wx.cell? ⟨w.heap.size, 7, none⟩ = some (.slice (some ⟨g, 0, none⟩) 7 nc) ∧ wx.cell? ⟨w.heap.size, 8, none⟩ = some (.slice (some ⟨h, 0, none⟩) 7 mc) ∧ wx.cell? ⟨w.heap.size, 9, none⟩ = some (.int .i64 cm) ∧ wx.cell? ⟨w.heap.size, 10, none⟩ = some (.int .i64 0) ∧ wx.cell? ⟨w.heap.size, 11, none⟩ = some (.int .i64 wt) ∧ wx.cell? ⟨w.heap.size, 12, none⟩ = some (.bool up))) (by kernel_rfl) ?_ (fun hHeld => ?_)
      · exact ⟨x0, x1, x2, x3, x4, x5, x6, x7, x8, x9, x10, x11, x12⟩
      refine wpAnyH_take (i := 0) (oi := _) (v := ?_) rfl (by kernel_rfl) (by kernel_rfl) (by kernel_rfl) (fun _ _ _ h => h) (Or.inl ⟨by rfl, ?_⟩) (by assumption) ?_
      rotate_left 1
      · (intro wq hSw; (try dsimp only at hSw); (try simp only [List.getElem_toArray, List.getElem_cons_succ, List.getElem_cons_zero]); go_simp; try with_reducible rfl)
      (try simp only [Act.put, List.getElem_toArray, List.getElem_cons_succ, List.getElem_cons_zero, List.setIfInBounds_toArray, List.set_cons_zero, List.set_cons_succ])
      refine wpAnyH_take (i := 2) (oi := _) (v := ?_) rfl (by kernel_rfl) (by kernel_rfl) (by kernel_rfl) (fun _ _ _ h => h) (Or.inl ⟨by rfl, ?_⟩) (by assumption) ?_
      rotate_left 1
      · (intro wq hSw; (try dsimp only at hSw); (try simp only [List.getElem_toArray, List.getElem_cons_succ, List.getElem_cons_zero]); go_simp; try with_reducible rfl)
      (try simp only [Act.put, List.getElem_toArray, List.getElem_cons_succ, List.getElem_cons_zero, List.setIfInBounds_toArray, List.set_cons_zero, List.set_cons_succ])
      clear x0 x1 x2 x3 x4 x5 x6 x7 x8 x9 x10 x11 x12 O6 N6 R6 T6
      generalize w6.drew = wz at *
      have x0 := (unhide N7).cell 0 rfl
      have x1 := (unhide N7).cell 1 rfl
      have x2 := (unhide N7).cell 2 rfl
      have x3 := (unhide N7).cell 3 rfl
      have x4 := (unhide N7).cell 4 rfl
      have x5 := (unhide N7).cell 5 rfl
      have x6 := (unhide N7).cell 6 rfl
      have x7 := (unhide N7).cell 7 rfl
      have x8 := (unhide N7).cell 8 rfl
      have x9 := (unhide N7).cell 9 rfl
      have x10 := (unhide N7).cell 10 rfl
      have x11 := (unhide N7).cell 11 rfl
      have x12 := (unhide N7).cell 12 rfl
      have hnz : w.heap.size < wz.heap.size := (unhide N7).1
      refine wpAnyH_ready (rs := [1]) (by kernel_rfl) (by simp) ?_
      refine AllReadyH.cons (o := _) rfl (fun K hK => ?_) AllReadyH.nil
      go_simp
      refine (unhide HAd wz (unhide O7)).mono ?_
      rintro e w8 ⟨rfl, hb8⟩
      have hbX := hb8
      have HB8 := hide hb8
      go_wp2_with fail
      refine hK.out _ _ ?_ (fun hHeld => ?_)
      · exact ⟨(hbX.cell (p := ⟨w.heap.size, 0, none⟩) hnz).trans x0, (hbX.cell (p := ⟨w.heap.size, 1, none⟩) hnz).trans x1, (hbX.cell (p := ⟨w.heap.size, 2, none⟩) hnz).trans x2, (hbX.cell (p := ⟨w.heap.size, 3, none⟩) hnz).trans x3, (hbX.cell (p := ⟨w.heap.size, 4, none⟩) hnz).trans x4, (hbX.cell (p := ⟨w.heap.size, 5, none⟩) hnz).trans x5, (hbX.cell (p := ⟨w.heap.size, 6, none⟩) hnz).trans x6, (hbX.cell (p := ⟨w.heap.size, 7, none⟩) hnz).trans x7, (hbX.cell (p := ⟨w.heap.size, 8, none⟩) hnz).trans x8, (hbX.cell (p := ⟨w.heap.size, 9, none⟩) hnz).trans x9, (hbX.cell (p := ⟨w.heap.size, 10, none⟩) hnz).trans x10, (hbX.cell (p := ⟨w.heap.size, 11, none⟩) hnz).trans x11, (hbX.cell (p := ⟨w.heap.size, 12, none⟩) hnz).trans x12⟩
      clear hK K
      (try simp only [Act.put, List.getElem_toArray, List.getElem_cons_succ, List.getElem_cons_zero, List.setIfInBounds_toArray, List.set_cons_zero, List.set_cons_succ])
      clear hb8 x0 x1 x2 x3 x4 x5 x6 x7 x8 x9 x10 x11 x12
      have O8 := hide ((unhide O7).below (unhide HB8))
      have N8 := hide ((unhide N7).below (unhide HB8))
      have R8 := hide ((unhide R7).below (unhide HB8))
      have T8 := hide ((unhide T7).trans (T' := fun _ => False) (Touch.ofBelow (unhide HB8)) (fun _ _ e => e.elim))
      have x0 := (unhide N8).cell 0 rfl
      have x1 := (unhide N8).cell 1 rfl
      have x2 := (unhide N8).cell 2 rfl
      have x3 := (unhide N8).cell 3 rfl
      have x4 := (unhide N8).cell 4 rfl
      have x5 := (unhide N8).cell 5 rfl
      have x6 := (unhide N8).cell 6 rfl
      have x7 := (unhide N8).cell 7 rfl
      have x8 := (unhide N8).cell 8 rfl
      have x9 := (unhide N8).cell 9 rfl
      have x10 := (unhide N8).cell 10 rfl
      have x11 := (unhide N8).cell 11 rfl
      have x12 := (unhide N8).cell 12 rfl
      have hn8 : w.heap.size < w8.heap.size := (unhide N8).1
      refine wpAnyH_ready (rs := [3]) (by kernel_rfl) (by simp) ?_
      refine AllReadyH.cons (o := _) rfl (fun K hK => ?_) AllReadyH.nil
      go_simp
      refine (unhide HTl w8 (unhide O8)).mono ?_
      rintro e w9 ⟨mv, l, rfl, hNs, hml, hb9⟩
      have hbX := hb9
      have HNs := hide hNs
      have HML := hide hml
      have HB9 := hide hb9
      go_wp2_with fail
      refine hK.out _ _ ?_ (fun hHeld => ?_)
      · exact ⟨(hbX.cell (p := ⟨w.heap.size, 0, none⟩) hn8).trans x0, (hbX.cell (p := ⟨w.heap.size, 1, none⟩) hn8).trans x1, (hbX.cell (p := ⟨w.heap.size, 2, none⟩) hn8).trans x2, (hbX.cell (p := ⟨w.heap.size, 3, none⟩) hn8).trans x3, (hbX.cell (p := ⟨w.heap.size, 4, none⟩) hn8).trans x4, (hbX.cell (p := ⟨w.heap.size, 5, none⟩) hn8).trans x5, (hbX.cell (p := ⟨w.heap.size, 6, none⟩) hn8).trans x6, (hbX.cell (p := ⟨w.heap.size, 7, none⟩) hn8).trans x7, (hbX.cell (p := ⟨w.heap.size, 8, none⟩) hn8).trans x8, (hbX.cell (p := ⟨w.heap.size, 9, none⟩) hn8).trans x9, (hbX.cell (p := ⟨w.heap.size, 10, none⟩) hn8).trans x10, (hbX.cell (p := ⟨w.heap.size, 11, none⟩) hn8).trans x11, (hbX.cell (p := ⟨w.heap.size, 12, none⟩) hn8).trans x12⟩
      clear hK K
      (try simp only [Act.put, List.getElem_toArray, List.getElem_cons_succ, List.getElem_cons_zero, List.setIfInBounds_toArray, List.set_cons_zero, List.set_cons_succ])
      clear hNs hml hb9
      have hs9 := (unhide HB9).size
      have hr8 : w.heap.size + 1 < w8.heap.size := (unhide R8).1
      have RX := (unhide R8).below (unhide HB9)
      have r0 := RX.cell 0 rfl
      have r1 := RX.cell 1 rfl
      have r2 := RX.cell 2 rfl
      have r3 := RX.cell 3 rfl
      have r4 := RX.cell 4 rfl
      have r5 := RX.cell 5 rfl
      have r6 := RX.cell 6 rfl
      have r7 := RX.cell 7 rfl
      have r8 := RX.cell 8 rfl
      have r9 := RX.cell 9 rfl
      have r10 := RX.cell 10 rfl
      have r11 := RX.cell 11 rfl
      have r12 := RX.cell 12 rfl
      have f0 := RX.fro 0
      have f1 := RX.fro 1
      have f2 := RX.fro 2
      have f3 := RX.fro 3
      have f4 := RX.fro 4
      have f5 := RX.fro 5
      have f6 := RX.fro 6
      have f7 := RX.fro 7
      have f8 := RX.fro 8
      have f9 := RX.fro 9
      have f10 := RX.fro 10
      have f11 := RX.fro 11
      have f12 := RX.fro 12
      have HR9 := hide ((((((((((((((RX.set 0 (.int .i64 id) (by simp)).set 1 (.int .i64 tm) (by simp)).set 2 (.int .i64 vo) (by simp)).set 3 (.slice (some ⟨g5, 0, none⟩) lgN.length c5) (by simp)).set 4 (.slice sa st.length sc) (by simp)).set 5 (.int .i64 2) (by simp)).set 6 (.slice va vs.length vc) (by simp)).set 7 (.slice (some ⟨g, 0, none⟩) 7 nc) (by simp)).set 8 (.slice (some ⟨h, 0, none⟩) 7 mc) (by simp)).set 9 (.int .i64 cmN) (by simp)).set 10 (.int .i64 0) (by simp)).set 11 (.int .i64 wt) (by simp)).set 12 (.bool up) (by simp)))
      have T9 := ((((((((((((((Touch.refl (fun q => q = w.heap.size + 1) w9).setCell ⟨w.heap.size + 1, 0, none⟩ (.int .i64 id) (fun _ => rfl)).setCell ⟨w.heap.size + 1, 1, none⟩ (.int .i64 tm) (fun _ => rfl)).setCell ⟨w.heap.size + 1, 2, none⟩ (.int .i64 vo) (fun _ => rfl)).setCell ⟨w.heap.size + 1, 3, none⟩ (.slice (some ⟨g5, 0, none⟩) lgN.length c5) (fun _ => rfl)).setCell ⟨w.heap.size + 1, 4, none⟩ (.slice sa st.length sc) (fun _ => rfl)).setCell ⟨w.heap.size + 1, 5, none⟩ (.int .i64 2) (fun _ => rfl)).setCell ⟨w.heap.size + 1, 6, none⟩ (.slice va vs.length vc) (fun _ => rfl)).setCell ⟨w.heap.size + 1, 7, none⟩ (.slice (some ⟨g, 0, none⟩) 7 nc) (fun _ => rfl)).setCell ⟨w.heap.size + 1, 8, none⟩ (.slice (some ⟨h, 0, none⟩) 7 mc) (fun _ => rfl)).setCell ⟨w.heap.size + 1, 9, none⟩ (.int .i64 cmN) (fun _ => rfl)).setCell ⟨w.heap.size + 1, 10, none⟩ (.int .i64 0) (fun _ => rfl)).setCell ⟨w.heap.size + 1, 11, none⟩ (.int .i64 wt) (fun _ => rfl)).setCell ⟨w.heap.size + 1, 12, none⟩ (.bool up) (fun _ => rfl))
      have HT9 := hide T9
      have X9 := hide (((unhide N8).below (unhide HB9)).kept T9 (fun e => by omega))
      clear RX T9
      refine wpAnyH_ready (rs := [4]) (by kernel_rfl) (by simp) ?_
      refine AllReadyH.cons (o := _) rfl (fun K hK => ?_) AllReadyH.nil
      go_simp
      refine hK.out _ _ ?_ (fun hHeld => ?_)
      · exact ⟨(unhide X9).cell 0 rfl, (unhide X9).cell 1 rfl, (unhide X9).cell 2 rfl, (unhide X9).cell 3 rfl, (unhide X9).cell 4 rfl, (unhide X9).cell 5 rfl, (unhide X9).cell 6 rfl, (unhide X9).cell 7 rfl, (unhide X9).cell 8 rfl, (unhide X9).cell 9 rfl, (unhide X9).cell 10 rfl, (unhide X9).cell 11 rfl, (unhide X9).cell 12 rfl⟩
      clear hK K
      (try simp only [Act.put, List.getElem_toArray, List.getElem_cons_succ, List.getElem_cons_zero, List.setIfInBounds_toArray, List.set_cons_zero, List.set_cons_succ])
      refine wpAnyH_take (i := 5) (oi := _) (v := ?_) rfl (by kernel_rfl) (by kernel_rfl) (by kernel_rfl) (fun _ _ _ h => h) (Or.inl ⟨by rfl, ?_⟩) (by assumption) ?_
      rotate_left 1
      · (intro wq hSw; (try dsimp only at hSw); (try simp only [List.getElem_toArray, List.getElem_cons_succ, List.getElem_cons_zero]); go_simp; try with_reducible rfl)
      (try simp only [Act.put, List.getElem_toArray, List.getElem_cons_succ, List.getElem_cons_zero, List.setIfInBounds_toArray, List.set_cons_zero, List.set_cons_succ])
      refine wpAnyH_done (by kernel_rfl) (NoPanic.normal ?_) _
      go_wp2_with fail
      have R9 := unhide HR9
      have z0 := R9.cell 0 rfl
      have z1 := R9.cell 1 rfl
      have z2 := R9.cell 2 rfl
      have z3 := R9.cell 3 rfl
      have z4 := R9.cell 4 rfl
      have z5 := R9.cell 5 rfl
      have z6 := R9.cell 6 rfl
      have z7 := R9.cell 7 rfl
      have z8 := R9.cell 8 rfl
      have z9 := R9.cell 9 rfl
      have z10 := R9.cell 10 rfl
      have z11 := R9.cell 11 rfl
      have z12 := R9.cell 12 rfl
      refine bodyPost_ret (v := .tuple #[.agg #[.int .i64 id, .int .i64 tm, .int .i64 vo, .slice (some ⟨g5, 0, none⟩) lgN.length c5, .slice sa st.length sc, .int .i64 2, .slice va vs.length vc, .slice (some ⟨g, 0, none⟩) 7 nc, .slice (some ⟨h, 0, none⟩) 7 mc, .int .i64 cmN, .int .i64 0, .int .i64 wt, .bool up], mv]) (by simp [results, Try.results65, go_sem, z0, z1, z2, z3, z4, z5, z6, z7, z8, z9, z10, z11, z12]) rfl ?_
      unfold LdAns
      rw [unhide HLG, unhide HCM]
      have hblk := fun q hq => NoO.blk (unhide O8) q hq
      exact ⟨(some ⟨g5, 0, none⟩), c5, mv, l, w8.heap.size, rfl, NoO.keep ((unhide O8).below (unhide HB9)) (unhide HT9) (fun q hq e => unhide HRN q hq e), (unhide HNs).kept (unhide HT9) (fun q e _ => by omega), unhide HML, fun q hq => ⟨(hblk q hq).2, unhide HOLD q hq⟩, by omega, ((unhide T8).trans (T' := fun _ => False) (Touch.ofBelow (unhide HB9)) (fun _ _ e => e.elim)).trans (T' := fun q => q = w.heap.size + 1) (unhide HT9) (fun j hj e => by omega)⟩
end Go.Proofs.Ytljolldacpkeeaa
