/- spec.l11Allowed, walked. -/
import Derived.Test.YtafbdjcoimopfaaCfC
namespace Go.Proofs.Ytafbdjcoimopfaa
open Go.ChangeShapes Go.WideShapes Go.ChangeAt Go.RowKit Go.Deep
set_option linter.unusedVariables false

def bitI (b : Bool) : Int := if b then 1 else 0
set_option maxRecDepth 100000 in
theorem l01Bit_any (b : Bool) (w : World) : Calls Try.prog 85 #[.bool b] w fun e w' => e = .returned (.int .i64 (bitI b)) ∧ w' = w := by
  cases b
  all_goals
    go_enter Try.func85, Try.ntmps85
    go_wp2_with fail
    go_ret
    exact ⟨rfl, rfl⟩
theorem moreN_bd (one other : List Int) : ∀ k, 0 ≤ moreN one other k ∧ moreN one other k ≤ k := by
  intro k
  induction k with
  | zero => exact ⟨Int.le_refl _, Int.le_refl _⟩
  | succ k ih =>
    simp only [moreN]
    split <;> omega
set_option maxRecDepth 100000 in
set_option maxHeartbeats 2000000 in
theorem l11Allowed_any (id tm vo ro el wt : Int) (cm : Nat) (up : Bool) (lg : List En) (st vs nx mt : List Int) (la : Option Addr) (lc : Nat) (sa : Option Addr) (sc : Nat) (va : Option Addr) (vc : Nat) (na : Option Addr) (nc : Nat) (ma : Option Addr) (mc : Nat) (ms : List Int) (aa : Option Addr) (ac : Nat) (w : World) (hE : Ens w (.slice la lg.length lc) lg) (hS : Ints w (.slice sa st.length sc) st) (hz : ∀ i, (lg.getD i default).d.size ≤ 1048576) (hl : lg.length ≤ 1048576) (hg : CfgOK lg) (hst : mFault st = 0) (hM : Ints w (.slice aa ms.length ac) ms) (hms : ms.length ≤ 4096) (hmf : mFault ms = 0) (hmb : (mbAt lg st lg.length).length ≤ 100) (hcm : cm ≤ lg.length) :
    Calls Try.prog 55 #[.agg #[.int .i64 id, .int .i64 tm, .int .i64 vo, .slice la lg.length lc, .slice sa st.length sc, .int .i64 ro, .slice va vs.length vc, .slice na nx.length nc, .slice ma mt.length mc, .int .i64 (cm : Int), .int .i64 el, .int .i64 wt, .bool up], .slice aa ms.length ac] w fun e w' => e = .returned (.bool (mayB ro cm tm lg st ms)) ∧ Below w.heap.size w w' := by
  have B0 := hide ((Below.refl w.heap.size w).alloc (Nat.le_refl _) (.cells #[.int .i64 id, .int .i64 tm, .int .i64 vo, .slice la lg.length lc, .slice sa st.length sc, .int .i64 ro, .slice va vs.length vc, .slice na nx.length nc, .slice ma mt.length mc, .int .i64 cm, .int .i64 el, .int .i64 wt, .bool up] 42))
  have X0 := hide (Blk.new w #[.int .i64 id, .int .i64 tm, .int .i64 vo, .slice la lg.length lc, .slice sa st.length sc, .int .i64 ro, .slice va vs.length vc, .slice na nx.length nc, .slice ma mt.length mc, .int .i64 cm, .int .i64 el, .int .i64 wt, .bool up] 42 w.heap.size rfl)
  have HMem := hide (fun wx (hx : Below w.heap.size w wx) => l10Members_any id tm vo ro (cm : Int) el wt up lg st vs nx mt la lc sa sc va vc na nc ma mc wx (hE.below hx) (hS.below hx) hz hl hg)
  have HMs := hide (fun wx (hx : Below w.heap.size w wx) => hM.below hx)
  have HEs := hide (fun wx (hx : Below w.heap.size w wx) => hE.below hx)
  have HAP := hide (more_ap (fault_ids (mb_fault lg st hg hst lg.length (Nat.le_refl _))) (fault_ids hmf))
  have HN : Hid (mayB ro (cm : Int) tm lg st ms = (decide (ro = 2) && (decide (apN (mbAt lg st lg.length) ms = 1) && (decide (0 < (cm : Int)) && (decide (termP lg cm = tm) && !cfgIn (lg.drop cm)))))) := hide rfl
  generalize mayB ro (cm : Int) tm lg st ms = R at *
  clear hE hS hM hg hmf hst
  go_enter Try.func55, Try.ntmps55
  go_wp2_with fail
  generalize w.alloc (.cells #[.int .i64 id, .int .i64 tm, .int .i64 vo, .slice la lg.length lc, .slice sa st.length sc, .int .i64 ro, .slice va vs.length vc, .slice na nx.length nc, .slice ma mt.length mc, .int .i64 cm, .int .i64 el, .int .i64 wt, .bool up] 42) = w0 at *
  have XX := unhide X0
  have y3 := XX.cell 3 rfl
  clear XX
  refine (unhide HMem w0 (unhide B0)).mono ?_
  rintro e w1 ⟨v, rfl, hI, hb⟩
  have K1 := hide ((unhide B0).trans (hb.mono (unhide B0).size))
  have X1 := hide ((unhide X0).below hb)
  obtain ⟨wa, wc, rfl⟩ := hI.shape
  have HI := hide hI
  clear hb hI X0 B0 HMem y3
  generalize mbAt lg st lg.length = mb at *
  go_wp2_with fail
  go_loop [6, 7] (fun c i => ∃ (k : Nat) (x : Int), k ≤ 7 ∧ i = .int .i64 k ∧ c = .int .i64 x ∧ Hid (x = moreN mb ms k)) (fun _ i => 7 - (intOf i).toNat)
  case atStart => exact ⟨0, _, Nat.zero_le _, rfl, rfl, rfl⟩
  case round =>
    obtain ⟨k, x, hk, rfl, rfl, HX⟩ := hrel
    by_cases hlt : k < 7
    · have HC1 := hide (l10Has_any _ mb k w1 (unhide HI) (by omega))
      have HC2 := hide (l10Has_any _ ms k w1 (unhide HMs w1 (unhide K1)) (by omega))
      have hk1 : (k : Int) < 7 := by omega
      have hbd := moreN_bd mb ms k
      have HS : Hid (moreN mb ms (k + 1) = moreN mb ms k + bitI (!(decide ((k : Int) ∈ mb) == decide ((k : Int) ∈ ms)))) := hide (by
        simp only [moreN, bitI]
        cases decide ((k : Int) ∈ mb) <;> cases decide ((k : Int) ∈ ms) <;> rfl)
      rw [← unhide HX] at hbd HS
      have HBI : 0 ≤ bitI (!(decide ((k : Int) ∈ mb) == decide ((k : Int) ∈ ms))) ∧ bitI (!(decide ((k : Int) ∈ mb) == decide ((k : Int) ∈ ms))) ≤ 1 := by
        cases (!(decide ((k : Int) ∈ mb) == decide ((k : Int) ∈ ms))) <;> simp [bitI]
      generalize decide ((k : Int) ∈ mb) = d1 at *
      generalize decide ((k : Int) ∈ ms) = d2 at *
      have HBt := hide (l01Bit_any (!(d1 == d2)) w1)
      have q1 : IntKind.i64.wrap (x + bitI (!(d1 == d2))) = x + bitI (!(d1 == d2)) := by
        simp only [IntKind.wrap, IntKind.bits, IntKind.signed]
        simp
        omega
      generalize bitI (!(d1 == d2)) = bi at *
      have HQ := hide q1
      clear hbd HBI q1
      go_wp2_with fail
      refine (unhide HC1).mono ?_
      rintro e w' ⟨rfl, hw⟩
      subst w'
      go_wp2_with fail
      refine (unhide HC2).mono ?_
      rintro e w' ⟨rfl, hw⟩
      subst w'
      go_wp2_with fail
      refine (unhide HBt).mono ?_
      rintro e w' ⟨rfl, hw⟩
      subst w'
      have q1 := unhide HQ
      clear HQ
      go_wp2_with fail
      refine ⟨⟨k + 1, _, by omega, by go_num, rfl, ?_⟩, ?_⟩
      · exact (unhide HS).symm
      · simp [intOf]; omega
    · obtain rfl : k = 7 := by omega
      have HX2 := hide ((unhide HX).trans (unhide HAP))
      have XX := unhide X1
      have x1 := XX.cell 1 rfl
      have x3 := XX.cell 3 rfl
      have x5 := XX.cell 5 rfl
      have x9 := XX.cell 9 rfl
      rw [← unhide HX2] at HN
      clear HX HX2 HAP XX
      by_cases g2 : x = 1
      case neg =>
        have E : Hid (R = false) := hide (by rw [unhide HN]; simp [g2])
        have hb2 : (x == 1) = false := by rw [beq_eq_false_iff_ne]; exact g2
        have hb2n : (x != 1) = true := by simp [bne, hb2]
        clear g2 HN
        go_wp2_with fail
        go_quiet (fail)
        go_wp2_with fail
        go_ret
        exact ⟨ret_bool (unhide E).symm, below_drewN (unhide K1) _⟩
      subst g2
      by_cases g1 : ro = 2
      case neg =>
        have E : Hid (R = false) := hide (by rw [unhide HN]; simp [g1])
        have hb2 : (ro == 2) = false := by rw [beq_eq_false_iff_ne]; exact g1
        have hb2n : (ro != 2) = true := by simp [bne, hb2]
        clear g1 HN
        go_wp2_with fail
        go_quiet (fail)
        go_wp2_with fail
        go_ret
        exact ⟨ret_bool (unhide E).symm, below_drewN (unhide K1) _⟩
      subst g1
      by_cases g3 : cm = 0
      case pos =>
        have E : Hid (R = false) := hide (by rw [unhide HN]; simp [g3])
        have hb2 : ((cm : Int) == 0) = true := by rw [g3]; rfl
        have hb3 : (cm == 0) = true := by rw [g3]; rfl
        clear g3 HN
        go_wp2_with fail
        go_quiet (fail)
        go_wp2_with fail
        go_ret
        exact ⟨ret_bool (unhide E).symm, below_drewN (unhide K1) _⟩
      have hb2 : ((cm : Int) == 0) = false := by rw [beq_eq_false_iff_ne]; omega
      obtain ⟨q, hq⟩ : ∃ q, cm = q + 1 := ⟨cm - 1, by omega⟩
      obtain ⟨b2, off, rfl, hbn, s0, _, _⟩ := (unhide HEs w1 (unhide K1)).term q (by omega)
      have HTP : Hid (termP lg cm = (lg.getD q default).t) := hide (by rw [hq]; unfold termP; rw [if_neg (by omega), Nat.add_sub_cancel])
      have m1 : IntKind.i64.wrap ((cm : Int) - 1) = (q : Int) := by rw [hq]; simp only [IntKind.wrap, IntKind.bits, IntKind.signed]; simp; omega
      have m3 : (0 : Int) ≤ (q : Int) := by omega
      have m4 : (q : Int) < (lg.length : Int) := by omega
      have m5 : (cm : Int) ≤ (lg.length : Int) := by omega
      rw [unhide HTP] at HN
      clear HTP hq
      generalize (lg.getD q default).t = tp at *
      by_cases g4 : tp = tm
      case neg =>
        have E : Hid (R = false) := hide (by rw [unhide HN]; simp [g4])
        have hb4 : (tp == tm) = false := by rw [beq_eq_false_iff_ne]; exact g4
        have hb4n : (tp != tm) = true := by simp [bne, hb4]
        clear g4 HN g3
        go_wp2_with fail
        go_quiet (fail)
        go_wp2_with fail
        go_ret
        exact ⟨ret_bool (unhide E).symm, below_drewN (unhide K1) _⟩
      have hb4 : (tp == tm) = true := by rw [g4]; simp
      have E : Hid (R = !cfgIn (lg.drop cm)) := hide (by rw [unhide HN]; simp [g4]; omega)
      clear g4 HN g3
      go_wp2_with fail
      go_quiet (fail)
      go_wp2_with fail
      have HKd := hide (below_drewN (unhide K1) nq)
      have Xd := (unhide X1).below (below_drewN (Below.refl _ w1) nq)
      have x3d := Xd.cell 3 rfl
      have HEd := hide (unhide HEs _ (unhide HKd))
      clear x1 x3 x5 x9 Xd K1 X1 HEs HMs HI s0
      generalize w1.drewN nq = w2 at *
      have HCY := hide (fun i (hi : i < (lg.drop cm).length) (h : ((lg.drop cm).getD i default).k = 2) => cfgIn_yes hi h)
      have HCN := hide (fun (h : ∀ i, i < (lg.drop cm).length → ((lg.drop cm).getD i default).k ≠ 2) => cfgIn_no h)
      rw [List.length_drop] at HCY HCN
      generalize cfgIn (lg.drop cm) = ci at *
      go_loop [8] (fun i => ∃ k : Nat, cm ≤ k ∧ k ≤ lg.length ∧ i = .int .i64 k ∧ Hid (∀ j, cm ≤ j → j < k → (lg.getD j default).k ≠ 2)) (fun i => lg.length - (intOf i).toNat)
      case atStart => exact ⟨cm, Nat.le_refl _, hcm, rfl, fun j h1 h2 => absurd h1 (by omega)⟩
      case round =>
        obtain ⟨k, hk0, hk, rfl, HGO⟩ := hrel
        by_cases hlt2 : k < lg.length
        · obtain ⟨b3, off3, e3, hbn3, s0, s1, s2⟩ := (unhide HEd).term k hlt2
          cases e3
          have hk1 : (0 : Int) ≤ (k : Int) := by omega
          have hk2 : (k : Int) < (lg.length : Int) := by omega
          have HY := hide (fun (hx : (lg.getD k default).k = 2) => unhide HCY (k - cm) (by omega) (by rw [getD_drop, show cm + (k - cm) = k by omega]; exact hx))
          have HNX := hide (fun (hx : (lg.getD k default).k ≠ 2) => show ∀ i, cm ≤ i → i < k + 1 → (lg.getD i default).k ≠ 2 from fun i h0 hi => by
              by_cases e : i = k
              · subst e; exact hx
              · exact unhide HGO i h0 (by omega))
          generalize (lg.getD k default).k = fk at *
          by_cases h2 : fk = 2
          · have E2 : Hid (R = false) := hide (by rw [unhide E, unhide HY h2]; rfl)
            have hq : (fk == 2) = true := by simpa using h2
            clear h2 E HY HNX
            go_wp2_with fail
            go_ret
            exact ⟨ret_bool (unhide E2).symm, unhide HKd⟩
          · have E2 := hide (unhide HNX h2)
            have hq : (fk == 2) = false := by simpa using h2
            clear h2 HY HNX
            go_wp2_with fail
            refine ⟨⟨k + 1, by omega, by omega, by go_num, E2⟩, ?_⟩
            simp [intOf]; omega
        · obtain rfl : k = lg.length := by omega
          have E2 : Hid (R = true) := hide (by rw [unhide E, unhide HCN (fun i hi => by rw [getD_drop]; exact unhide HGO _ (by omega) (by omega))]; rfl)
          go_wp2_with fail
          go_ret
          exact ⟨ret_bool (unhide E2).symm, unhide HKd⟩
set_option maxRecDepth 100000 in
set_option maxHeartbeats 2000000 in
theorem specConfigAllowed_any (id tm vo ro cm el wt : Int) (up : Bool) (lg : List En) (st vs nx mt : List Int) (la : Option Addr) (lc : Nat) (sa : Option Addr) (sc : Nat) (va : Option Addr) (vc : Nat) (na : Option Addr) (nc : Nat) (ma : Option Addr) (mc : Nat) (ms : List Int) (aa : Option Addr) (ac : Nat) (w : World) (h : NoR w (.slice la lg.length lc) (.slice sa st.length sc) (.slice va vs.length vc) (.slice na nx.length nc) (.slice ma mt.length mc) lg st vs nx mt) (hs : NoS lg st vs nx mt) (hM : Ints w (.slice aa ms.length ac) ms) (hms : ms.length ≤ 1048576) :
    Calls Try.prog 14 #[.agg #[.int .i64 id, .int .i64 tm, .int .i64 vo, .slice la lg.length lc, .slice sa st.length sc, .int .i64 ro, .slice va vs.length vc, .slice na nx.length nc, .slice ma mt.length mc, .int .i64 cm, .int .i64 el, .int .i64 wt, .bool up], .slice aa ms.length ac] w fun e w' => e = .returned (.tuple #[.bool (caOut (nodeB id tm vo ro cm el wt up lg st vs nx mt) ro cm tm lg st ms).1, .int .i64 (caOut (nodeB id tm vo ro cm el wt up lg st vs nx mt) ro cm tm lg st ms).2]) ∧ Below w.heap.size w w' := by
  have B0 := hide ((Below.refl w.heap.size w).alloc (Nat.le_refl _) (.cells #[.int .i64 id, .int .i64 tm, .int .i64 vo, .slice la lg.length lc, .slice sa st.length sc, .int .i64 ro, .slice va vs.length vc, .slice na nx.length nc, .slice ma mt.length mc, .int .i64 cm, .int .i64 el, .int .i64 wt, .bool up] 42))
  have X0 := hide (Blk.new w #[.int .i64 id, .int .i64 tm, .int .i64 vo, .slice la lg.length lc, .slice sa st.length sc, .int .i64 ro, .slice va vs.length vc, .slice na nx.length nc, .slice ma mt.length mc, .int .i64 cm, .int .i64 el, .int .i64 wt, .bool up] 42 w.heap.size rfl)
  have HN := hide (fun wx (hx : Below w.heap.size w wx) => specNodeOK_any id tm vo ro cm el wt up lg st vs nx mt la lc sa sc va vc na nc ma mc wx (h.below hx) hs)
  have HF := hide (fun wx (hx : Below w.heap.size w wx) => l10Ids_any _ ms wx (hM.below hx) hms)
  have HQ := hide (fun wx (hx : Below w.heap.size w wx) (hh : nodeB id tm vo ro cm el wt up lg st vs nx mt = true) (cn : Nat) (hcn : cm = (cn : Int)) (h2 : mFault ms = 0) (h3 : ms.length ≤ 4096) => l11Allowed_any id tm vo ro el wt cn up lg st vs nx mt la lc sa sc va vc na nc ma mc ms aa ac wx (h.below hx).lg (h.below hx).st hs.dt hs.l0 (cfg_of_node hh) (node_small hh).2.2.2.2.2.1 (hM.below hx) h3 h2 (mbAt_len lg st (cfg_of_node hh) (by have := node_small hh; omega) lg.length (Nat.le_refl _)) (by have := node_commit hh; omega))
  have HCM := hide (fun hh : nodeB id tm vo ro cm el wt up lg st vs nx mt = true => node_commit hh)
  have HIF := hide (idsB_fault ms)
  clear h hs hM
  generalize nodeB id tm vo ro cm el wt up lg st vs nx mt = ok at *
  by_cases hlen : 4096 < ms.length
  · have HO := hide (caOut_long (ok := ok) (ro := ro) (cm := cm) (tm := tm) (lg := lg) (st := st) hlen)
    have q1 : (4096 : Int) < (ms.length : Int) := by omega
    generalize caOut ok ro cm tm lg st ms = R at *
    go_enter Try.func14, Try.ntmps14
    go_wp2_with fail
    go_ret2
    exact ⟨by rw [unhide HO]; rfl, unhide B0⟩
  have q1 : ¬ (4096 : Int) < (ms.length : Int) := by omega
  have HOB := hide (fun h2 => caOut_bad (ok := ok) (ro := ro) (cm := cm) (tm := tm) (lg := lg) (st := st) hlen h2)
  have HOK := hide (fun h1 h2 => caOut_ok (ok := ok) (ro := ro) (cm := cm) (tm := tm) (lg := lg) (st := st) hlen h1 h2)
  have hlen2 : ms.length ≤ 4096 := by omega
  clear hlen
  generalize caOut ok ro cm tm lg st ms = R at *
  go_enter Try.func14, Try.ntmps14
  go_wp2_with fail
  generalize w.alloc (.cells #[.int .i64 id, .int .i64 tm, .int .i64 vo, .slice la lg.length lc, .slice sa st.length sc, .int .i64 ro, .slice va vs.length vc, .slice na nx.length nc, .slice ma mt.length mc, .int .i64 cm, .int .i64 el, .int .i64 wt, .bool up] 42) = w0 at *
  refine (unhide HN w0 (unhide B0)).mono ?_
  rintro e w1 ⟨rfl, hb⟩
  have K1 := hide ((unhide B0).trans (hb.mono (unhide B0).size))
  have X1 := hide ((unhide X0).below hb)
  clear hb X0 B0 HN
  cases ok
  · have HO := hide (unhide HOB (by first | trivial | rfl))
    go_wp2_with fail
    go_ret2
    exact ⟨by rw [unhide HO]; rfl, unhide K1⟩
  go_wp2_with fail
  refine (unhide HF w1 (unhide K1)).mono ?_
  rintro e w2 ⟨rfl, n2, hn⟩
  have hb : Below w1.heap.size w1 w2 := by rw [hn]; exact below_drewN (Below.refl _ _) n2
  have K2 := hide ((unhide K1).trans (hb.mono (unhide K1).size))
  have XX := (unhide X1).below hb
  have x0 := XX.cell 0 rfl
  have x1 := XX.cell 1 rfl
  have x2 := XX.cell 2 rfl
  have x3 := XX.cell 3 rfl
  have x4 := XX.cell 4 rfl
  have x5 := XX.cell 5 rfl
  have x6 := XX.cell 6 rfl
  have x7 := XX.cell 7 rfl
  have x8 := XX.cell 8 rfl
  have x9 := XX.cell 9 rfl
  have x10 := XX.cell 10 rfl
  have x11 := XX.cell 11 rfl
  have x12 := XX.cell 12 rfl
  clear hb hn XX X1 HF K1
  generalize idsB ms = ib at *
  cases ib
  case false =>
    have HO := hide (unhide HOB (by rw [unhide HIF]; rfl))
    clear HOB HOK HQ HIF
    go_wp2_with fail
    go_ret2
    exact ⟨by rw [unhide HO]; rfl, unhide K2⟩
  by_cases h0 : ms.length = 0
  · have HO := hide (unhide HOB (by rw [unhide HIF]; simp [h0]))
    have hb0 : ((ms.length : Int) == 0) = true := by rw [h0]; rfl
    have hb0n : (ms.length == 0) = true := by rw [h0]; rfl
    clear HOB HOK HQ HIF h0
    go_wp2_with fail
    go_ret2
    exact ⟨by rw [unhide HO]; rfl, unhide K2⟩
  have hm : mFault ms = 0 := by
    have := unhide HIF
    simp [h0] at this
    exact this
  have hb0 : ((ms.length : Int) == 0) = false := by rw [beq_eq_false_iff_ne]; omega
  have HO := hide (unhide HOK (by first | trivial | rfl) hm)
  obtain ⟨hcm0, hcm1⟩ := unhide HCM (by first | trivial | rfl)
  obtain ⟨cn, hcn⟩ : ∃ cn : Nat, cm = (cn : Int) := ⟨cm.toNat, by omega⟩
  have HC := hide (unhide HQ w2 (unhide K2) (by first | trivial | rfl) cn hcn hm hlen2)
  subst hcn
  clear HOB HOK HQ HIF HCM hm h0
  go_wp2_with fail
  refine (unhide HC).mono ?_
  rintro e w3 ⟨rfl, hb⟩
  have K3 := hide ((unhide K2).trans (hb.mono (unhide K2).size))
  clear hb HC K2 x0 x1 x2 x3 x4 x5 x6 x7 x8 x9 x10 x11 x12
  go_wp2_with fail
  go_ret2
  exact ⟨by rw [unhide HO]; rfl, unhide K3⟩
end Go.Proofs.Ytafbdjcoimopfaa
