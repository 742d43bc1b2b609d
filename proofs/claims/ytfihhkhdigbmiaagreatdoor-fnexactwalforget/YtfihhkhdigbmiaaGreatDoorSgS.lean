/- (*segmentLog).read, walked. -/
import Derived.Test.YtfihhkhdigbmiaaGreatDoorSgT
import Derived.ScopeJumps
import Derived.WalkMore
import Derived.Deep.DeepCutAuto
namespace Go.Proofs.YtfihhkhdigbmiaaGreatDoor
open Go.ChangeShapes Go.WideShapes Go.ChangeAt Go.RowKit
set_option linter.unusedVariables false
set_option linter.unusedSimpArgs false

theorem frame_q {a : Act} {F : (Nat → Value) → Act} (h : a = F (fun i => a.tmps.getD i undef)) : ∃ q, a = F q := ⟨_, h⟩
set_option maxRecDepth 100000 in
set_option maxHeartbeats 2000000 in
theorem read_any (lb B : Nat) (gv : Value) (xs : List (Fl × Value)) (w : World) (hG : OwnG B w gv xs) (hL : Blk w lb [.int .i64 0, .slice none 0 0, .slice none 0 0, .int .i64 0, gv]) (hlb : lb < w.heap.size) (hl : xs.length ≤ 8) (hsz : ∀ x ∈ xs, x.1.n.size ≤ 1048576 ∧ x.1.d.size ≤ 3000)
    (hg : ∀ k, gv.ownBlock = some k → k ≠ lb) (hx : ∀ x ∈ xs, ∀ k, x.2.ownBlock = some k → k ≠ lb) :
    Calls Tryz.prog 53 #[.pointer (some ⟨lb, 0, none⟩)] w fun e w' => e = .returned (.int .i64 (lgRun (xs.map Prod.fst) 0).2) ∧ ((lgRun (xs.map Prod.fst) 0).2 = 0 → ∃ rv nv, LgS w lb gv w' (lgRun (xs.map Prod.fst) 0).1 rv nv) ∧ Touch (fun k => k = lb) w w' := by
  have HG := hide hG
  have HX := hide hx
  have HGG := hide hg
  have HSZ := hide hsz
  obtain ⟨ga, gc, rfl, hgc, hgm, hcell⟩ := hG.form
  have HCELL := hide hcell
  have L0 : Hid (LgS w lb (.slice ga xs.length gc) w lg0 (.slice none 0 0) (.slice none 0 0)) := hide ⟨hL, OwnS.nil _ _, OwnS.nil _ _, fun k hk => (by cases hk), Touch.refl _ _⟩
  have z4 := hL.cell 4 rfl
  obtain ⟨sg, hsg⟩ : ∃ sg, sg = xs.map Prod.fst := ⟨_, rfl⟩
  have hsl : sg.length = xs.length := by rw [hsg, List.length_map]
  have HSG := hide hsg
  have HSL := hide hsl
  rw [← hsg]
  clear hG hx hg hsz hcell hL hsg hsl
  have mlast : IntKind.i64.wrap ((xs.length : Int) - 1) = (xs.length : Int) - 1 := wrapSg _ (by omega) (by omega)
  go_enter Tryz.func53, Tryz.ntmps53
  go_wp2_with fail
  clear z4
  go_loopw [17] (fun i wr => ∃ (k : Nat) (rv nv : Value), k ≤ xs.length ∧ i = .int .i64 k ∧ lgGood sg k ∧ LgS w lb (.slice ga xs.length gc) wr (lgAt sg k) rv nv ∧ 0 ≤ (lgAt sg k).first ∧ (lgAt sg k).first < 4294967296) (fun i _ => xs.length - (intOf i).toNat)
  case atStart => exact ⟨0, _, _, Nat.zero_le _, rfl, lgGood.zero sg, unhide L0, by show (0 : Int) ≤ 0; omega, by show (0 : Int) < 4294967296; omega⟩
  case round =>
    obtain ⟨k, rv, nv, hk, rfl, hgood, hS, hBF⟩ := hrel
    have HBF := hide hBF
    clear hBF
    have HGO := hide hgood
    have HS := hide hS
    clear hgood hS L0
    by_cases hlt : k < xs.length
    · have G1 := hide ((unhide HG).kept (unhide HS).2.2.2.2 (fun j hj e => unhide HGG j hj e) (fun x hxx j hj e => unhide HX x hxx j hj e))
      obtain ⟨g, rfl, hgo, hgl, hcw⟩ := unhide HCELL k hlt
      have hgne := unhide HGG g hgo
      have hmem : xs.getD k default ∈ xs := by rw [List.getD_eq_getElem?_getD, List.getElem?_eq_getElem hlt]; exact List.getElem_mem _
      obtain ⟨hns, hds⟩ := unhide HSZ _ hmem
      have OF := hide ((unhide G1).2 _ hmem)
      have HXN := hide (fun j hj => unhide HX _ hmem j hj)
      have hfx : sg.getD k default = (xs.getD k default).1 := by
        rw [unhide HSG, List.getD_eq_getElem?_getD, List.getElem?_map, List.getD_eq_getElem?_getD, List.getElem?_eq_getElem hlt]; rfl
      have HFX := hide hfx
      have hct := fun j u hu => ((unhide HS).2.2.2.2.cell (p := ⟨g, k * 5 + j, none⟩) hgl hgne).trans (hcw j u hu)
      clear hcw hmem hfx
      generalize hxx : xs.getD k default = x at *
      obtain ⟨⟨fn, fd, fs⟩, fv⟩ := x
      have HXK := hide hxx
      clear hxx
      dsimp only at hns hds OF HFX HXN
      obtain ⟨fa, fl, fc, rfl⟩ : ∃ fa fl fc, fv = .slice fa fl fc := by
        rcases own_shape (unhide OF) with ⟨h, _⟩ | ⟨g, c, h, _⟩
        · exact ⟨_, _, _, h⟩
        · exact ⟨_, _, _, h⟩
      have c0 := hct 0 _ rfl
      have c1 := hct 1 _ rfl
      have c2 := hct 2 _ rfl
      have c3 := hct 3 _ rfl
      have c4 := hct 4 _ rfl
      clear hct
      obtain ⟨wh, hwh⟩ : ∃ wh : Nat, wh = (frF ⟨fn, fd, fs⟩).2.1 := ⟨_, rfl⟩
      obtain ⟨bh, hbh⟩ : ∃ bh : Int, bh = (frF ⟨fn, fd, fs⟩).2.2 := ⟨_, rfl⟩
      dsimp only at c0 c1 c2 c3 c4
      rw [← hwh] at c3
      rw [← hbh] at c4
      rw [Nat.add_zero] at c0
      have HWB := hide (And.intro hwh hbh)
      clear hwh hbh
      have hk0 : (0 : Int) ≤ (k : Int) := by omega
      have hk1 : (k : Int) < (xs.length : Int) := by omega
      have BA := (Below.refl wr.heap.size wr).alloc (Nat.le_refl _) (.cells #[.string fn, .int .i64 (fd.size : Int), .slice fa fl fc, .int .i64 (wh : Int), .int .i64 bh] 50)
      have S1 := hide ((unhide HS).below BA)
      have X1 := hide (Blk.new wr #[.string fn, .int .i64 (fd.size : Int), .slice fa fl fc, .int .i64 (wh : Int), .int .i64 bh] 50 wr.heap.size rfl)
      have F1 := hide ((unhide OF).below BA)
      clear BA OF G1
      go_wp2_with fail
      clear c0 c1 c2 c3 c4
      have hwr := (unhide HS).2.2.2.2.size
      have HNB : Hid (∀ j, nv.ownBlock = some j → j < wr.heap.size) := hide (fun j hj => ((unhide HS).2.2.1.lt j hj).2)
      have HRB : Hid (∀ j, rv.ownBlock = some j → j < wr.heap.size) := hide (fun j hj => ((unhide HS).2.1.lt j hj).2)
      clear HS
      generalize wr.alloc (.cells #[.string fn, .int .i64 (fd.size : Int), .slice fa fl fc, .int .i64 (wh : Int), .int .i64 bh] 50) = w1 at *
      generalize wr.heap.size = sb at *
      have hsz1 := frF_pos ⟨fn, fd, fs⟩
      rw [← (unhide HWB).1] at hsz1
      have hnl : (lgAt sg k).names.length = k := lgAt_names sg k
      have hw12 : IntKind.i64.wrap ((fd.size : Int) - (wh : Int)) = (fd.size : Int) - (wh : Int) := wrapSg _ (by dsimp only at hsz1; omega) (by omega)
      have HNL := hide hnl
      have HS1 := hide hsz1
      clear hnl hsz1
      refine wp_scope_jumps 0 (fun a' w' => (∃ q : Nat → Value, a' = { tmps := #[Value.pointer (some ⟨lb, 0, none⟩), undef, q 2, Value.int IntKind.i64 ((xs.length : Int) - 1), Value.int IntKind.i64 (k : Int), Value.pointer (some ⟨sb, 0, none⟩), Value.pointer (some ⟨lb, 0, none⟩), Value.pointer (some ⟨lb, 0, none⟩), Value.pointer (some ⟨lb, 4, none⟩), Value.slice (some ⟨g, 0, none⟩) xs.length gc, Value.int IntKind.i64 (xs.length : Int), Value.int IntKind.i64 ((xs.length : Int) - 1), Value.pointer (some ⟨lb, 0, none⟩), Value.pointer (some ⟨lb, 0, none⟩), Value.pointer (some ⟨lb, 4, none⟩), Value.slice (some ⟨g, 0, none⟩) xs.length gc, Value.int IntKind.i64 (xs.length : Int), Value.int IntKind.i64 (k : Int), q 18, q 19, q 20, q 21, q 22, q 23, q 24, q 25, q 26, q 27, q 28, q 29, q 30, q 31, q 32, q 33, q 34, q 35, q 36, q 37, q 38, q 39, q 40, q 41, q 42, q 43, q 44, q 45, q 46, q 47, q 48, q 49, q 50, q 51, q 52, q 53, q 54, q 55, q 56, q 57, q 58, q 59, q 60, q 61, q 62, q 63, q 64, q 65, q 66, q 67, q 68, q 69, q 70, q 71, q 72, q 73, q 74, q 75, q 76, q 77, q 78, q 79, q 80, q 81, q 82, q 83, q 84, q 85, q 86, q 87, q 88, q 89, q 90, q 91, q 92, q 93, q 94, q 95, q 96, q 97, q 98, q 99, q 100, q 101, q 102, q 103, q 104, q 105, q 106, q 107, q 108, q 109, q 110, q 111, q 112, q 113, q 114, q 115], defers := [] }) ∧ Tl w lb sb (.slice (some ⟨g, 0, none⟩) xs.length gc) (lgAt sg k) rv nv fn fd wh w' ∧ lgCode sg k (lgAt sg k) = 0 ∧ (frF ⟨fn, fd, fs⟩).1 = []) (fun _ _ => 0) rfl ?_ ?_
      · have X1c4 := (unhide X1).cell 4 rfl
        go_upto_region 5 with fail
        go_cut [34] (fun s wx => s = .bool (decide (bh = 8 ∨ (bh = 16 ∧ k + 1 < xs.length))) ∧ wx = w1)
        case first =>
          rcases (show bh = 8 ∨ (bh = 16 ∧ k + 1 < xs.length) ∨ (bh ≠ 8 ∧ bh ≠ 16) ∨ (bh = 16 ∧ k + 1 = xs.length) by omega) with hb8 | ⟨hb16, hk2⟩ | ⟨hn8, hn16⟩ | ⟨hb16, hk2⟩
          · have HD := hide (show decide (bh = 8 ∨ (bh = 16 ∧ k + 1 < xs.length)) = true by rw [decide_eq_true_eq]; exact .inl hb8)
            have e8 : (bh == 8) = true := by rw [beq_iff_eq]; exact hb8
            clear hb8
            go_wp2_with fail
            go_meet
            exact ⟨congrArg Value.bool (unhide HD).symm, rfl⟩
          · have HD := hide (show decide (bh = 8 ∨ (bh = 16 ∧ k + 1 < xs.length)) = true by rw [decide_eq_true_eq]; exact .inr ⟨hb16, hk2⟩)
            have e8 : (bh == 8) = false := by rw [beq_eq_false_iff_ne]; omega
            have e16 : (bh == 16) = true := by rw [beq_iff_eq]; exact hb16
            have e3 : decide ((k : Int) < (xs.length : Int) - 1) = true := by rw [decide_eq_true_eq]; omega
            clear hb16 hk2
            go_wp2_with fail
            go_meet
            exact ⟨congrArg Value.bool (unhide HD).symm, rfl⟩
          · have HD := hide (show decide (bh = 8 ∨ (bh = 16 ∧ k + 1 < xs.length)) = false by rw [decide_eq_false_iff_not]; omega)
            have e8 : (bh == 8) = false := by rw [beq_eq_false_iff_ne]; exact hn8
            have e16 : (bh == 16) = false := by rw [beq_eq_false_iff_ne]; exact hn16
            clear hn8 hn16
            go_wp2_with fail
            go_meet
            exact ⟨congrArg Value.bool (unhide HD).symm, rfl⟩
          · have HD := hide (show decide (bh = 8 ∨ (bh = 16 ∧ k + 1 < xs.length)) = false by rw [decide_eq_false_iff_not]; omega)
            have e8 : (bh == 8) = false := by rw [beq_eq_false_iff_ne]; omega
            have e16 : (bh == 16) = true := by rw [beq_iff_eq]; exact hb16
            have e3 : decide ((k : Int) < (xs.length : Int) - 1) = false := by rw [decide_eq_false_iff_not]; omega
            clear hb16 hk2
            go_wp2_with fail
            go_meet
            exact ⟨congrArg Value.bool (unhide HD).symm, rfl⟩
        case rest =>
          obtain ⟨rfl, hwc⟩ := hcut
          have hwc2 := hwc.symm
          clear hwc X1c4
          subst hwc2
          cases hd5 : decide (bh = 8 ∨ (bh = 16 ∧ k + 1 < xs.length))
          case true =>
            have hc : lgCode sg k (lgAt sg k) = 8 := by
              unfold lgCode
              rw [unhide HFX, unhide HSL, ← (unhide HWB).2, if_pos (of_decide_eq_true hd5)]
            have HD := hide ((unhide HGO).bad (by rw [unhide HSL]; exact hlt) (by rw [hc]; decide))
            rw [hc] at HD
            have T1 := hide (unhide S1).2.2.2.2
            clear hc hd5
            go_wp2_with fail
            simp only [Exit.jump]
            go_wp2_with fail
            go_ret
            rw [unhide HD]
            exact ⟨rfl, fun h => absurd h (by decide), unhide T1⟩
          have HA : Hid (¬ ((frF (sg.getD k default)).2.2 = 8 ∨ ((frF (sg.getD k default)).2.2 = 16 ∧ k + 1 < sg.length))) := by
            rw [unhide HFX, ← (unhide HWB).2, unhide HSL]
            exact hide (of_decide_eq_false hd5)
          clear hd5
          go_wp2_with fail
          go_cut [53] (fun s wx => s = .bool (decide (0 < k ∧ plcP fn ≠ plcP (sg.getD (k - 1) default).n + 1)) ∧ ∃ n, wx = w1.drewN n)
          case first =>
            rcases Nat.eq_zero_or_pos k with hk00 | hkp
            · have HD := hide (show decide (0 < k ∧ plcP fn ≠ plcP (sg.getD (k - 1) default).n + 1) = false by rw [decide_eq_false_iff_not]; omega)
              have p0d : decide (0 < k) = false := by rw [decide_eq_false_iff_not]; omega
              clear hk00
              go_quiet (fail)
              go_wp2_with fail
              go_meet
              exact ⟨congrArg Value.bool (unhide HD).symm, nq, rfl⟩
            · obtain ⟨kp, hkp1⟩ : ∃ kp : Nat, kp + 1 = k := ⟨k - 1, by omega⟩
              have HKP := hide hkp1
              have hki : (k : Int) - 1 = (kp : Int) := by omega
              have mk : IntKind.i64.wrap (kp : Int) = (kp : Int) := wrapSg _ (by omega) (by omega)
              have hkpl : kp < xs.length := by omega
              have hkpi : (kp : Int) < (xs.length : Int) := by omega
              have hkpz : (0 : Int) ≤ (kp : Int) := by omega
              have hkpd : decide (0 < k) = true := by simpa using hkp
              have x0 := (unhide X1).cell 0 rfl
              have l4 := (unhide S1).1.cell 4 rfl
              obtain ⟨g', hg1, _, _, hcp⟩ := unhide HCELL kp hkpl
              cases hg1
              have p0 : w1.cell? ⟨g, kp * 5, none⟩ = some (.string (xs.getD kp default).1.n) := ((unhide S1).2.2.2.2.cell (p := ⟨g, kp * 5, none⟩) hgl hgne).trans (by have := hcp 0 _ rfl; rwa [Nat.add_zero] at this)
              have hpn := (unhide HSZ _ (show xs.getD kp default ∈ xs by rw [List.getD_eq_getElem?_getD, List.getElem?_eq_getElem hkpl]; exact List.getElem_mem _)).1
              have HPX : Hid (sg.getD kp default = (xs.getD kp default).1) := by
                rw [unhide HSG, List.getD_eq_getElem?_getD, List.getElem?_map, List.getD_eq_getElem?_getD, List.getElem?_eq_getElem hkpl]; exact hide rfl
              have HEQ : Hid (decide (0 < k ∧ plcP fn ≠ plcP (sg.getD (k - 1) default).n + 1) = (plcP fn != plcP (xs.getD kp default).1.n + 1)) := by
                rw [show k - 1 = kp by omega, unhide HPX]
                exact hide (by rw [Bool.eq_iff_iff]; simp [hkp])
              clear hcp hkp1 HKP
              generalize (xs.getD kp default).1 = pf at *
              obtain ⟨pn, pd, ps⟩ := pf
              dsimp only at p0 hpn HEQ
              have r1 := plc_range fn
              have r2 := plc_range pn
              have m2 := wrapSg (plcP pn + 1) (by omega) (by omega)
              have C1 := hide (fun wx => segmentPlace_any fn wx hns)
              have C2 := hide (fun wx => segmentPlace_any pn wx hpn)
              generalize plcP fn = pl1 at *
              generalize plcP pn = pl2 at *
              go_quiet (first | (go_at_call_of 41 (Value.string fn); exact Calls.quiet_of (unhide C1 _)) | (go_at_call 41; exact Calls.quiet_of (unhide C2 _)))
              go_wp2_with fail
              go_meet
              exact ⟨congrArg Value.bool (unhide HEQ).symm, nq, rfl⟩
          case rest =>
            obtain ⟨rfl, n2, rfl⟩ := hcut
            have S2 := hide ((unhide S1).below (below_drewN (Below.refl _ w1) n2))
            have X2 := hide ((unhide X1).drewN n2)
            have F2 := hide ((unhide F1).drewN n2)
            clear S1 X1 F1
            generalize w1.drewN n2 = w2 at *
            cases hd7 : decide (0 < k ∧ plcP fn ≠ plcP (sg.getD (k - 1) default).n + 1)
            case true =>
              have hc : lgCode sg k (lgAt sg k) = 3 := by
                unfold lgCode
                rw [if_neg (unhide HA), unhide HFX, if_pos (of_decide_eq_true hd7)]
              have HD := hide ((unhide HGO).bad (by rw [unhide HSL]; exact hlt) (by rw [hc]; decide))
              rw [hc] at HD
              have T1 := hide (unhide S2).2.2.2.2
              clear hc hd7
              go_wp2_with fail
              simp only [Exit.jump]
              go_wp2_with fail
              go_ret
              rw [unhide HD]
              exact ⟨rfl, fun h => absurd h (by decide), unhide T1⟩
            have HB7 : Hid (¬ (0 < k ∧ plcP (sg.getD k default).n ≠ plcP (sg.getD (k - 1) default).n + 1)) := by
              rw [unhide HFX]; exact hide (of_decide_eq_false hd7)
            clear hd7
            have HTL : Hid (Tl w lb sb (.slice (some ⟨g, 0, none⟩) xs.length gc) (lgAt sg k) rv nv fn fd wh w2) := hide ⟨unhide S2, (unhide X2).cell 0 rfl, (unhide X2).cell 1 rfl, (unhide X2).cell 3 rfl, (unhide X2).1, by omega, hlb, fun j hj e => by have := unhide HNB j hj; omega⟩
            have hfl : fl = (frF ⟨fn, fd, fs⟩).1.length := by
              have := (unhide F2).1
              rcases own_shape (unhide F2) with ⟨h1, h2⟩ | ⟨g1, c1, h1, _⟩
              · cases h1; simpa using h2.symm
              · cases h1; simp
            have HFL := hide hfl
            clear hfl
            have x2 := (unhide X2).cell 2 rfl
            rcases Nat.eq_zero_or_pos fl with hf0 | hfp
            · have HEMP : Hid ((frF ⟨fn, fd, fs⟩).1 = []) := hide (List.eq_nil_of_length_eq_zero (by rw [← unhide HFL]; exact hf0))
              have e0 : ((fl : Int) == 0) = true := by rw [beq_iff_eq]; omega
              by_cases hlast : k + 1 = xs.length
              · have e1 : ((k : Int) == (xs.length : Int) - 1) = true := by rw [beq_iff_eq]; omega
                have hc : lgCode sg k (lgAt sg k) = 0 := by
                  unfold lgCode
                  rw [if_neg (unhide HA), if_neg (unhide HB7), unhide HFX, if_pos (unhide HEMP), if_pos (by rw [unhide HSL]; exact hlast)]
                have HC := hide hc
                clear hc hf0 hlast
                go_wp2_with fail
                go_step3
                exact ⟨rfl, frame_q rfl, unhide HTL, unhide HC, unhide HEMP⟩
              · have e1 : ((k : Int) == (xs.length : Int) - 1) = false := by rw [beq_eq_false_iff_ne]; omega
                have hc : lgCode sg k (lgAt sg k) = 3 := by
                  unfold lgCode
                  rw [if_neg (unhide HA), if_neg (unhide HB7), unhide HFX, if_pos (unhide HEMP), if_neg (by rw [unhide HSL]; exact hlast)]
                have HD := hide ((unhide HGO).bad (by rw [unhide HSL]; exact hlt) (by rw [hc]; decide))
                rw [hc] at HD
                have x0 := (unhide X2).cell 0 rfl
                have x1 := (unhide X2).cell 1 rfl
                have x3 := (unhide X2).cell 3 rfl
                have x4 := (unhide X2).cell 4 rfl
                have HH := hide (headed_any fn (fd.size : Int) (.slice fa fl fc) (wh : Int) bh _ B w2 (unhide F2) (by rw [List.length_map, unhide HEMP]; simp) (by rw [unhide HEMP]; simp))
                have T1 := hide (unhide S2).2.2.2.2
                have hq : hdB ((frF ⟨fn, fd, fs⟩).1.map strOfNums) = false := by rw [unhide HEMP]; simp [hdB]
                rw [hq] at HH
                clear hc hf0 hlast hq
                go_wp2_with fail
                refine (unhide HH).mono ?_
                rintro e w3 ⟨rfl, hb3⟩
                have T3 := hide ((unhide T1).trans (T' := fun _ => False) (Touch.ofBelow hb3) (fun _ _ h => h.elim))
                clear hb3 x0 x1 x2 x3 x4
                go_wp2_with fail
                simp only [Exit.jump]
                go_wp2_with fail
                go_ret
                rw [unhide HD]
                exact ⟨rfl, fun h => absurd h (by decide), unhide T3⟩
            · have e0 : ((fl : Int) == 0) = false := by rw [beq_eq_false_iff_ne]; omega
              have HNE : Hid (¬ (frF ⟨fn, fd, fs⟩).1 = []) := hide (fun h => by have := unhide HFL; rw [h] at this; simp at this; omega)
              have x0 := (unhide X2).cell 0 rfl
              have x1 := (unhide X2).cell 1 rfl
              have x3 := (unhide X2).cell 3 rfl
              have x4 := (unhide X2).cell 4 rfl
              have hlen : (frF ⟨fn, fd, fs⟩).1.length ≤ 3000 := Nat.le_trans (frF_len ⟨fn, fd, fs⟩) hds
              have hlen2 : ((frF ⟨fn, fd, fs⟩).1.map strOfNums).length ≤ 1048576 := by rw [List.length_map]; omega
              have hget0 : ((frF ⟨fn, fd, fs⟩).1.map strOfNums).getD 0 ByteArray.empty = strOfNums ((frF ⟨fn, fd, fs⟩).1.getD 0 []) := by
                have hp0 : 0 < (frF ⟨fn, fd, fs⟩).1.length := by rw [← unhide HFL]; exact hfp
                rw [List.getD_eq_getElem?_getD, List.getElem?_map, List.getD_eq_getElem?_getD, List.getElem?_eq_getElem hp0]; rfl
              have hs0 := frF_each ⟨fn, fd, fs⟩ 0
              have hr0 := frF_range ⟨fn, fd, fs⟩ 0
              have HH := hide (headed_any fn (fd.size : Int) (.slice fa fl fc) (wh : Int) bh _ B w2 (unhide F2) hlen2 (by rw [hget0, strOfNums_size]; omega))
              have HNUM := hide (fun wx (h : OwnS B wx (.slice fa fl fc) ((frF ⟨fn, fd, fs⟩).1.map strOfNums)) => number_seg fn (fd.size : Int) (.slice fa fl fc) (wh : Int) bh _ B wx h (by rw [List.length_map, ← unhide HFL]; exact hfp) (by rw [hget0, strOfNums_size]; omega) hlen2)
              have HREC := hide (fun wx (h : OwnS B wx (.slice fa fl fc) ((frF ⟨fn, fd, fs⟩).1.map strOfNums)) => records_any fn (fd.size : Int) (.slice fa fl fc) (wh : Int) bh _ B wx h (by rw [List.length_map, ← unhide HFL]; exact hfp) hlen2)
              have hhd : hdB ((frF ⟨fn, fd, fs⟩).1.map strOfNums) = decide (((frF ⟨fn, fd, fs⟩).1.getD 0 []).length = 4) := by
                unfold hdB
                rw [hget0, strOfNums_size, List.length_map, ← unhide HFL, decide_eq_true hfp]; rfl
              have T1 := hide (unhide S2).2.2.2.2
              have HLN := hide (And.intro hlen (And.intro hget0 (And.intro hs0 hr0)))
              rw [hhd] at HH
              clear hlen hlen2 hget0 hs0 hr0 hhd
              go_wp2_with fail
              refine (unhide HH).mono ?_
              rintro e w3 ⟨rfl, hb3⟩
              have S3 := hide ((unhide S2).below hb3)
              have X3 := hide ((unhide X2).below hb3)
              have F3 := hide ((unhide F2).below hb3)
              clear hb3 x0 x1 x2 x3 x4 S2 X2 F2 T1 HTL HH
              have T3 := hide (unhide S3).2.2.2.2
              cases h4 : decide (((frF ⟨fn, fd, fs⟩).1.getD 0 []).length = 4)
              case false =>
                have hc : lgCode sg k (lgAt sg k) = 3 := by
                  unfold lgCode
                  rw [if_neg (unhide HA), if_neg (unhide HB7), unhide HFX, if_neg (unhide HNE), if_pos (of_decide_eq_false h4)]
                have HD := hide ((unhide HGO).bad (by rw [unhide HSL]; exact hlt) (by rw [hc]; decide))
                rw [hc] at HD
                clear hc h4
                go_wp2_with fail
                simp only [Exit.jump]
                go_wp2_with fail
                go_ret
                rw [unhide HD]
                exact ⟨rfl, fun h => absurd h (by decide), unhide T3⟩
              obtain ⟨hn1, hn2, hn3⟩ := head_num (unhide HLN).2.2.2 (of_decide_eq_true h4)
              rw [(unhide HLN).2.1] at HNUM
              rw [hn1] at HNUM
              have HH4 := hide (of_decide_eq_true h4)
              clear h4 hn1
              obtain ⟨num, hnum⟩ : ∃ num, num = dec ((frF ⟨fn, fd, fs⟩).1.getD 0 []) := ⟨_, rfl⟩
              rw [← hnum] at HNUM hn2 hn3
              have HNM := hide hnum
              clear hnum
              go_upto_if 67 with fail
              go_cut [67] (fun s wx => LgS w lb (.slice (some ⟨g, 0, none⟩) xs.length gc) wx ⟨if k = 0 then num else (lgAt sg k).first, (lgAt sg k).recs, (lgAt sg k).names, (lgAt sg k).torn⟩ rv nv ∧ Blk wx sb [.string fn, .int .i64 (fd.size : Int), .slice fa fl fc, .int .i64 (wh : Int), .int .i64 bh] ∧ OwnS B wx (.slice fa fl fc) ((frF ⟨fn, fd, fs⟩).1.map strOfNums))
              case first =>
                rcases Nat.eq_zero_or_pos k with hk00 | hkp
                · have e1 : ((k : Int) == 0) = true := by rw [beq_iff_eq]; omega
                  have HIF := hide (show (if k = 0 then num else (lgAt sg k).first) = num from if_pos hk00)
                  have x0 := (unhide X3).cell 0 rfl
                  have x1 := (unhide X3).cell 1 rfl
                  have x2 := (unhide X3).cell 2 rfl
                  have x3 := (unhide X3).cell 3 rfl
                  have x4 := (unhide X3).cell 4 rfl
                  clear hk00
                  go_wp2_with fail
                  refine (unhide HNUM w3 (unhide F3)).mono ?_
                  rintro e w4 ⟨rfl, hb4⟩
                  have S4 := hide ((unhide S3).below hb4)
                  have X4 := hide ((unhide X3).below hb4)
                  have F4 := hide ((unhide F3).below hb4)
                  have y0 := (unhide S4).1.cell 0 rfl
                  have f0 := (unhide S4).1.fro 0
                  have ht := (Touch.refl (fun k => k = lb) w4).setCell ⟨lb, 0, none⟩ (.int .i64 num) (fun _ => rfl)
                  have S5 := hide ((unhide S4).setFirst hlb num)
                  have X5 := hide ((unhide X4).kept ht (fun e => by omega))
                  have F5 := hide ((unhide F4).kept ht (fun j hj e => unhide HXN j hj e))
                  clear hb4 x0 x1 x2 x3 x4 S4 X4 F4 ht
                  go_wp2_with fail
                  go_meet
                  rw [unhide HIF]
                  exact ⟨unhide S5, unhide X5, unhide F5⟩
                · have e1 : ((k : Int) == 0) = false := by rw [beq_eq_false_iff_ne]; omega
                  have HIF := hide (show (if k = 0 then num else (lgAt sg k).first) = (lgAt sg k).first from if_neg (by omega))
                  clear hkp
                  go_wp2_with fail
                  go_meet
                  rw [unhide HIF]
                  exact ⟨unhide S3, unhide X3, unhide F3⟩
              case rest =>
                obtain ⟨hS4, hX4, hF4⟩ := hcut
                have S4 := hide hS4
                have X4 := hide hX4
                have F4 := hide hF4
                clear hS4 hX4 hF4 S3 X3 F3 T3
                generalize wc = w4 at *
                have hf1 : 0 ≤ (if k = 0 then num else (lgAt sg k).first) ∧ (if k = 0 then num else (lgAt sg k).first) < 4294967296 := by
                  split
                  · exact ⟨hn2, hn3⟩
                  · exact unhide HBF
                have HF1 : Hid (k = 0 → (if k = 0 then num else (lgAt sg k).first) = num) := hide (fun h => if_pos h)
                have HF2 : Hid (0 < k → (if k = 0 then num else (lgAt sg k).first) = (lgAt sg k).first) := hide (fun h => if_neg (by omega))
                have HF3 : Hid ((if (frF ⟨fn, fd, fs⟩).1 = [] then (lgAt sg k).first else if k = 0 then dec ((frF ⟨fn, fd, fs⟩).1.getD 0 []) else (lgAt sg k).first) = (if k = 0 then num else (lgAt sg k).first)) := hide (by rw [if_neg (unhide HNE), unhide HNM])
                generalize (if k = 0 then num else (lgAt sg k).first) = f1 at *
                have hrl := lgAt_recs sg (fun f hf => by
                  rw [unhide HSG] at hf
                  obtain ⟨x, hx1, rfl⟩ := List.mem_map.1 hf
                  exact (unhide HSZ x hx1).2) k (by rw [unhide HSL]; omega)
                have hrl2 : (lgAt sg k).recs.length ≤ 24000 := by omega
                have HR0 : Hid (k = 0 → (lgAt sg k).recs.length = 0) := hide (fun h => by subst h; rfl)
                clear hrl
                obtain ⟨ra, rc, rfl⟩ : ∃ ra rc, rv = .slice ra (lgAt sg k).recs.length rc := by
                  rcases own_shape (unhide S4).2.1 with ⟨h, h0⟩ | ⟨g, c, h, _⟩
                  · exact ⟨none, 0, by rw [h]; exact congrArg (fun n => Value.slice none n 0) h0.symm⟩
                  · exact ⟨_, _, h⟩
                obtain ⟨na, nn, nc, rfl⟩ : ∃ na nn nc, nv = .slice na nn nc := by
                  rcases own_shape (unhide S4).2.2.1 with ⟨h, _⟩ | ⟨g, c, h, _⟩
                  · exact ⟨_, _, _, h⟩
                  · exact ⟨_, _, _, h⟩
                generalize hL : lgAt sg k = L at *
                have HL := hide hL
                clear hL
                have HNEX := hide (fun wx => next_log f1 ra L.recs.length rc (.slice na nn nc) (.slice (some ⟨g, 0, none⟩) xs.length gc) L.torn wx hf1.1 hf1.2 (by omega) ⟨_, _, _, rfl⟩ ⟨_, _, _, rfl⟩)
                go_wp2_with fail
                go_cut [80] (fun s wx => s = .bool (num != f1 + (L.recs.length : Int)) ∧ Below w4.heap.size w4 wx)
                case first =>
                  have zl := (unhide S4).1.1
                  have zs := (unhide X4).1
                  have r0 := Wb.cell ((unhide S4).1.cell 0 rfl) zl
                  have r1 := Wb.cell ((unhide S4).1.cell 1 rfl) zl
                  have r2 := Wb.cell ((unhide S4).1.cell 2 rfl) zl
                  have r3 := Wb.cell ((unhide S4).1.cell 3 rfl) zl
                  have r4 := Wb.cell ((unhide S4).1.cell 4 rfl) zl
                  have s0 := Wb.cell ((unhide X4).cell 0 rfl) zs
                  have s1 := Wb.cell ((unhide X4).cell 1 rfl) zs
                  have s2 := Wb.cell ((unhide X4).cell 2 rfl) zs
                  have s3 := Wb.cell ((unhide X4).cell 3 rfl) zs
                  have s4 := Wb.cell ((unhide X4).cell 4 rfl) zs
                  have HN4 := hide (fun (p : Wb w4) => unhide HNUM p.at_ ((unhide F4).below p.below))
                  refine wp_region_wb (by kernel_rfl) (by kernel_rfl) ?_
                  repeat (go_big_quiet_step (first | (go_at_call 55; exact wb_of (unhide HN4 _)) | (go_at_call 75; exact wb_of (unhide HNEX _))))
                  refine wpQuiet_nil ?_
                  intro _ hw'
                  obtain ⟨⟨wz, hbz⟩, rfl⟩ := hw'
                  go_wp2_with fail
                  go_meet
                  exact ⟨rfl, hbz⟩
                case rest =>
                  obtain ⟨rfl, hb5⟩ := hcut
                  have S5 := hide ((unhide S4).below hb5)
                  have X5 := hide ((unhide X4).below hb5)
                  have F5 := hide ((unhide F4).below hb5)
                  clear hb5 S4 X4 F4
                  generalize wc = w5 at *
                  cases hne : (num != f1 + (L.recs.length : Int))
                  case true =>
                    have hne2 : num ≠ f1 + (L.recs.length : Int) := by simpa using hne
                    have hkp : 0 < k := by
                      rcases Nat.eq_zero_or_pos k with h | h
                      · have h1 := unhide HF1 h
                        have h2 := unhide HR0 h
                        omega
                      · exact h
                    have hc : lgCode sg k L = 3 := by
                      unfold lgCode
                      rw [if_neg (unhide HA), if_neg (unhide HB7), unhide HFX, if_neg (unhide HNE), if_neg (fun h => h (unhide HH4)), if_pos ⟨hkp, by rw [← unhide HNM, ← unhide HF2 hkp]; exact hne2⟩]
                    have HD := hide ((unhide HGO).bad (by rw [unhide HSL]; exact hlt) (by rw [unhide HL, hc]; decide))
                    rw [unhide HL, hc] at HD
                    have T5 := hide (unhide S5).2.2.2.2
                    clear hc hne2 hkp hne
                    go_wp2_with fail
                    simp only [Exit.jump]
                    go_wp2_with fail
                    go_ret
                    rw [unhide HD]
                    exact ⟨rfl, fun h => absurd h (by decide), unhide T5⟩
                  have HEQ : Hid (num = f1 + (L.recs.length : Int)) := hide (by simpa using hne)
                  clear hne
                  have HNX : Hid (lgGood sg (k + 1) ∧ lgAt sg (k + 1) = ⟨f1, L.recs ++ ((frF ⟨fn, fd, fs⟩).1.drop 1).map strOfNums, L.names ++ [fn], (fd.size : Int) - (wh : Int)⟩ ∧ 0 ≤ (lgAt sg (k + 1)).first ∧ (lgAt sg (k + 1)).first < 4294967296) := by
                    have hc : lgCode sg k L = 0 := by
                      unfold lgCode
                      rw [if_neg (unhide HA), if_neg (unhide HB7), unhide HFX, if_neg (unhide HNE), if_neg (fun h => h (unhide HH4)), if_neg (fun h => h.2 (by rw [← unhide HNM, ← unhide HF2 h.1]; exact unhide HEQ))]
                    have hq : lgAt sg (k + 1) = ⟨f1, L.recs ++ ((frF ⟨fn, fd, fs⟩).1.drop 1).map strOfNums, L.names ++ [fn], (fd.size : Int) - (wh : Int)⟩ := by
                      show lgNext sg k (lgAt sg k) = _
                      unfold lgNext
                      rw [unhide HL, unhide HFX, unhide HF3, (unhide HWB).1]
                    rw [hq]
                    exact hide ⟨(unhide HGO).next (by rw [unhide HSL]; exact hlt) (by rw [unhide HL]; exact hc), rfl, hf1⟩
                  have hml : ((frF ⟨fn, fd, fs⟩).1.map strOfNums).drop 1 = ((frF ⟨fn, fd, fs⟩).1.drop 1).map strOfNums := by rw [List.map_drop]
                  have htl : (((frF ⟨fn, fd, fs⟩).1.drop 1).map strOfNums).length ≤ 3000 := by rw [List.length_map, List.length_drop]; have := (unhide HLN).1; omega
                  rw [hml] at HREC
                  clear hml
                  generalize ((frF ⟨fn, fd, fs⟩).1.drop 1).map strOfNums = ts at *
                  go_wp2_with fail
                  go_cut [89] (fun s wx => ∃ ra' rn' rc', LgS w lb (.slice (some ⟨g, 0, none⟩) xs.length gc) wx ⟨f1, L.recs ++ ts, L.names, L.torn⟩ (.slice ra' rn' rc') (.slice na nn nc) ∧ Blk wx sb [.string fn, .int .i64 (fd.size : Int), .slice fa fl fc, .int .i64 (wh : Int), .int .i64 bh])
                  case first =>
                    have l1 := (unhide S5).1.cell 1 rfl
                    have x0 := (unhide X5).cell 0 rfl
                    have x1 := (unhide X5).cell 1 rfl
                    have x2 := (unhide X5).cell 2 rfl
                    have x3 := (unhide X5).cell 3 rfl
                    have x4 := (unhide X5).cell 4 rfl
                    have hb0 := below_drewN (Below.refl w5.heap.size w5) 1
                    have S5d := hide ((unhide S5).below hb0)
                    have X5d := hide ((unhide X5).below hb0)
                    have HC5 := hide (unhide HREC w5.drew ((unhide F5).below hb0))
                    obtain ⟨i0, hi, hz0, hz1, hz2⟩ := info_parts info9
                    clear hb0
                    go_region_law (first
                      | (refine step_append_row (by rfl) _ _ _ (by rfl) w.heap.size 9 i0 _ 1 16 Tryz.underlying43 hi hz0 hz1 hz2 rfl (by omega) (.slice ra L.recs.length rc) L.recs.length (L.recs.map Value.string) (by rfl) hS6.2.1 rvv ts.length (ts.map Value.string) (by rfl) hStr.rw (by simp) (by simp [Value.oneCell']) (by unfold maxLen; omega) (by omega) hS6.2.2.2.2.size ?_; intro a7 c7 w7 hown7 hgrow7 hat7; have P7 := rec_done hS6 hlb hX6 hown7 hgrow7 hat7 (by omega) (unhide HRB); have hc7 := P7.1; have hf7 := P7.2.1)
                      | (go_simp; go_at_call 76; refine (unhide HC5).mono ?_; rintro e w6 ⟨rvv, rfl, hStr, hb6⟩; have hS6 := (unhide S5d).below hb6; have hX6 := (unhide X5d).below hb6; have l1b := hS6.1.cell 1 rfl; go_simp))
                    all_goals
                      go_wp2_with fail
                      go_meet
                      exact ⟨_, _, _, P7.2.2⟩
                  case rest =>
                    obtain ⟨ra', rn', rc', hS6, hX6⟩ := hcut
                    obtain ⟨M, hM⟩ : ∃ M : Lg, M = ⟨f1, L.recs ++ ts, L.names, L.torn⟩ := ⟨_, rfl⟩
                    rw [← hM] at hS6
                    have hTl : Tl w lb sb (.slice (some ⟨g, 0, none⟩) xs.length gc) M (.slice ra' rn' rc') (.slice na nn nc) fn fd wh wc := ⟨hS6, hX6.cell 0 rfl, hX6.cell 1 rfl, hX6.cell 3 rfl, hX6.1, by omega, hlb, fun j hj e => by have := unhide HNB j hj; omega⟩
                    have HNX2 : Hid (lgGood sg (k + 1) ∧ lgAt sg (k + 1) = ⟨M.first, M.recs, M.names ++ [fn], (fd.size : Int) - (wh : Int)⟩ ∧ 0 ≤ (lgAt sg (k + 1)).first ∧ (lgAt sg (k + 1)).first < 4294967296) := by
                      rw [hM]; exact unhide HNX
                    have hnl : M.names.length ≤ 8 := by rw [hM]; show L.names.length ≤ 8; rw [unhide HNL]; omega
                    clear hS6 hX6 hM HNX S5 X5 F5
                    have HNX := HNX2
                    clear HNX2
                    generalize wc = wz at *
                    go_wp2_with fail
                    go_step3
                    have HT := hide hTl
                    have c2 := hTl.S.1.cell 2 rfl
                    have x0 := hTl.x0
                    have hlt2 := hTl.S.1.1
                    have hOd := hide (World.ownsRow.drew (hTl.S.2.2.1.alloc (.cells #[.string fn] 9)))
                    have c2a : (wz.alloc (.cells #[.string fn] 9)).cell? ⟨lb, 2, none⟩ = some (.slice na nn nc) := (((Touch.refl (fun _ => False) wz).alloc _).cell (p := ⟨lb, 2, none⟩) (by simp; omega) (fun h => h)).trans c2
                    obtain ⟨i0, hi, hz0, hz1, hz2⟩ := info_parts info9
                    clear hTl
                    go_wp2_with fail
                    go_region_law (refine step_append_lies _ (by rfl) _ _ _ (by rfl) w.heap.size 9 i0 _ 1 16 Tryz.underlying43 hi hz0 hz1 hz2 rfl (by omega) (.slice na nn nc) (M).names.length ((M).names.map Value.string) (by rfl) (unhide hOd) ⟨wz.heap.size, 0, none⟩ 1 1 [_] (by rfl) (by rfl) (World.news_of_block (cs := #[_]) (t := 9) (fr := (0, 0)) (heap_alloc_new wz _)) (by simp [Value.oneCell']) (by omega) (by unfold maxLen; omega) (by omega) (by have := (unhide HT).S.2.2.2.2.size; simp; omega) (wz.heap.size + 1) (by simp) ?_; intro gg capg w5 hown5 hgrow5 hat5 hlt5; have P5 := (unhide HT).named hown5 hgrow5 hat5; have hc5 := P5.1; have hf5 := P5.2.1)
                    all_goals
                      have HT5 := hide P5.2.2
                      clear P5 hc5 hf5 hown5 hgrow5 hat5 hlt5 hOd c2a c2 x0 HT
                      generalize w5.setCell ⟨lb, 2, none⟩ (.slice (some ⟨gg, 0, none⟩) ((M).names.length + 1) capg) = w6 at *
                      have y1 := (unhide HT5).x1
                      have y3 := (unhide HT5).x3
                      have z3 := (unhide HT5).S.1.cell 3 rfl
                      have f3 := (unhide HT5).S.1.fro 3
                      have HF := hide ((unhide HT5).S.setTorn (unhide HT5).llt ((fd.size : Int) - (wh : Int)))
                      clear HT5
                      go_wp2_with fail
                      try simp only [Exit.jump]
                      go_wp2_with fail
                      refine ⟨⟨k + 1, (.slice ra' rn' rc'), .slice (some ⟨gg, 0, none⟩) ((M).names.length + 1) capg, by omega, by go_num, (unhide HNX).1, ?_, (unhide HNX).2.2⟩, ?_⟩
                      · rw [(unhide HNX).2.1]; exact unhide HF
                      · simp [intOf]; omega
      · rintro a' wz ⟨⟨q, rfl⟩, hTl, hcode, hemp⟩
        have HNX : Hid (lgGood sg (k + 1) ∧ lgAt sg (k + 1) = ⟨(lgAt sg k).first, (lgAt sg k).recs, (lgAt sg k).names ++ [fn], (fd.size : Int) - (wh : Int)⟩ ∧ 0 ≤ (lgAt sg (k + 1)).first ∧ (lgAt sg (k + 1)).first < 4294967296) := by
          have hq : lgAt sg (k + 1) = ⟨(lgAt sg k).first, (lgAt sg k).recs, (lgAt sg k).names ++ [fn], (fd.size : Int) - (wh : Int)⟩ := by
            show lgNext sg k (lgAt sg k) = _
            unfold lgNext
            rw [unhide HFX, hemp, (unhide HWB).1]; simp
          rw [hq]
          exact hide ⟨(unhide HGO).next (by rw [unhide HSL]; exact hlt) hcode, rfl, unhide HBF⟩
        have hnl : (lgAt sg k).names.length ≤ 8 := by rw [unhide HNL]; omega
        clear hcode hemp
        generalize lgAt sg k = L at *
        have HT := hide hTl
        have c2 := hTl.S.1.cell 2 rfl
        have x0 := hTl.x0
        have hlt2 := hTl.S.1.1
        have hOd := hide (World.ownsRow.drew (hTl.S.2.2.1.alloc (.cells #[.string fn] 9)))
        have c2a : (wz.alloc (.cells #[.string fn] 9)).cell? ⟨lb, 2, none⟩ = some nv := (((Touch.refl (fun _ => False) wz).alloc _).cell (p := ⟨lb, 2, none⟩) (by simp; omega) (fun h => h)).trans c2
        obtain ⟨i0, hi, hz0, hz1, hz2⟩ := info_parts info9
        clear hTl
        go_wp2_with fail
        go_region_law (refine step_append_lies _ (by rfl) _ _ _ (by rfl) w.heap.size 9 i0 _ 1 16 Tryz.underlying43 hi hz0 hz1 hz2 rfl (by omega) nv (L).names.length ((L).names.map Value.string) (by rfl) (unhide hOd) ⟨wz.heap.size, 0, none⟩ 1 1 [_] (by rfl) (by rfl) (World.news_of_block (cs := #[_]) (t := 9) (fr := (0, 0)) (heap_alloc_new wz _)) (by simp [Value.oneCell']) (by omega) (by unfold maxLen; omega) (by omega) (by have := (unhide HT).S.2.2.2.2.size; simp; omega) (wz.heap.size + 1) (by simp) ?_; intro gg capg w5 hown5 hgrow5 hat5 hlt5; have P5 := (unhide HT).named hown5 hgrow5 hat5; have hc5 := P5.1; have hf5 := P5.2.1)
        all_goals
          have HT5 := hide P5.2.2
          clear P5 hc5 hf5 hown5 hgrow5 hat5 hlt5 hOd c2a c2 x0 HT
          generalize w5.setCell ⟨lb, 2, none⟩ (.slice (some ⟨gg, 0, none⟩) ((L).names.length + 1) capg) = w6 at *
          have y1 := (unhide HT5).x1
          have y3 := (unhide HT5).x3
          have z3 := (unhide HT5).S.1.cell 3 rfl
          have f3 := (unhide HT5).S.1.fro 3
          have HF := hide ((unhide HT5).S.setTorn (unhide HT5).llt ((fd.size : Int) - (wh : Int)))
          clear HT5
          go_wp2_with fail
          try simp only [Exit.jump]
          go_wp2_with fail
          refine ⟨⟨k + 1, rv, .slice (some ⟨gg, 0, none⟩) ((L).names.length + 1) capg, by omega, by go_num, (unhide HNX).1, ?_, (unhide HNX).2.2⟩, ?_⟩
          · rw [(unhide HNX).2.1]; exact unhide HF
          · simp [intOf]; omega
    · obtain rfl : k = xs.length := by omega
      have HD := hide ((unhide HGO).done (by rw [unhide HSL]; omega))
      go_wp2_with fail
      go_ret
      rw [unhide HD]
      exact ⟨rfl, fun _ => ⟨rv, nv, unhide HS⟩, (unhide HS).2.2.2.2⟩
end Go.Proofs.YtfihhkhdigbmiaaGreatDoor
