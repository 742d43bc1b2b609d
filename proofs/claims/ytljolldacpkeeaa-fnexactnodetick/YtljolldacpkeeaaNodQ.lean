/- impl.NodeOK, walked. (Written by py/nodq.py.) -/
import Derived.Test.YtljolldacpkeeaaHab
namespace Go.Proofs.Ytljolldacpkeeaa
open Go.ChangeShapes Go.WideShapes Go.ChangeAt Go.RowKit Go.Deep
set_option linter.unusedVariables false
set_option maxRecDepth 100000 in
set_option maxHeartbeats 4000000 in
theorem implNodeOK_any (id tm vo ro cm el wt : Int) (up : Bool) (lg : List En) (st vs nx mt : List Int) (la : Option Addr) (lc : Nat) (sa : Option Addr) (sc : Nat) (va : Option Addr) (vc : Nat) (na : Option Addr) (nc : Nat) (ma : Option Addr) (mc : Nat) (w : World) (h : NoR w (.slice la lg.length lc) (.slice sa st.length sc) (.slice va vs.length vc) (.slice na nx.length nc) (.slice ma mt.length mc) lg st vs nx mt) (hs : NoS lg st vs nx mt) :
    Calls Try.prog 25 #[.agg #[.int .i64 id, .int .i64 tm, .int .i64 vo, .slice la lg.length lc, .slice sa st.length sc, .int .i64 ro, .slice va vs.length vc, .slice na nx.length nc, .slice ma mt.length mc, .int .i64 cm, .int .i64 el, .int .i64 wt, .bool up]] w fun e w' => e = .returned (.bool (nodeB id tm vo ro cm el wt up lg st vs nx mt)) ∧ Below w.heap.size w w' := by
  have B0 := hide ((Below.refl w.heap.size w).alloc (Nat.le_refl _) (.cells #[.int .i64 id, .int .i64 tm, .int .i64 vo, .slice la lg.length lc, .slice sa st.length sc, .int .i64 ro, .slice va vs.length vc, .slice na nx.length nc, .slice ma mt.length mc, .int .i64 cm, .int .i64 el, .int .i64 wt, .bool up] 29))
  have X0 := hide (Blk.new w #[.int .i64 id, .int .i64 tm, .int .i64 vo, .slice la lg.length lc, .slice sa st.length sc, .int .i64 ro, .slice va vs.length vc, .slice na nx.length nc, .slice ma mt.length mc, .int .i64 cm, .int .i64 el, .int .i64 wt, .bool up] 29 w.heap.size rfl)
  have HSt := hide (fun wx (hx : Below w.heap.size w wx) => implStateOK_any tm vo _ lg wx (h.lg.below hx) hs.dt)
  have HMe := hide (fun wx (hx : Below w.heap.size w wx) => membersFault_any _ st wx (h.st.below hx) hs.l1)
  have HRi := hide (fun wx (hx : Below w.heap.size w wx) => risingNumbers_any _ vs wx (h.vs.below hx) hs.l2)
  have HTo := hide (fun wx (hx : Below w.heap.size w wx) => toldOK_any _ _ nx mt lg.length wx (h.nx.below hx) (h.mt.below hx) hs.l3 hs.l4 hs.l0)
  have HN : Hid (nodeB id tm vo ro cm el wt up lg st vs nx mt = (inB id 0 6 && (stateB tm vo lg && (decide (mFault st = 0) && (inB ro 0 2 && (risB vs && (toldB nx mt lg.length && (inB cm 0 lg.length && (inB el 0 1000 && (inB wt 5 100 && (up || decide (ro = 0)))))))))))) := hide rfl
  generalize nodeB id tm vo ro cm el wt up lg st vs nx mt = R at *
  generalize stateB tm vo lg = b1 at *
  generalize mFault st = m2 at *
  generalize risB vs = b4 at *
  generalize toldB nx mt lg.length = b5 at *
  clear h hs
  go_enter Try.func25, Try.ntmps25
  dsimp only [List.append]
  go_wp2_with fail
  generalize w.alloc (.cells #[.int .i64 id, .int .i64 tm, .int .i64 vo, .slice la lg.length lc, .slice sa st.length sc, .int .i64 ro, .slice va vs.length vc, .slice na nx.length nc, .slice ma mt.length mc, .int .i64 cm, .int .i64 el, .int .i64 wt, .bool up] 29) = w0 at *
  have x1 := (unhide X0).cell 1 rfl
  have x2 := (unhide X0).cell 2 rfl
  have x3 := (unhide X0).cell 3 rfl
  have x5 := (unhide X0).cell 5 rfl
  have x12 := (unhide X0).cell 12 rfl
  refine (within_any _ _ _ _).mono ?_
  rintro e w' ⟨rfl, hw'⟩
  have hw2 := hw'.symm
  clear hw'
  subst hw2
  generalize inB id 0 6 = bb at *
  cases bb
  case false =>
    have E : Hid (R = false) := hide (by rw [unhide HN]; simp)
    go_wp2_with fail
    all_goals
      go_ret
      exact ⟨ret_bool (unhide E).symm, unhide B0⟩
  replace HN := hide ((unhide HN).trans (Bool.true_and _))
  go_wp2_with fail
  refine (unhide HSt w0 (unhide B0)).mono ?_
  rintro e w1 ⟨rfl, hb⟩
  have K1 := hide ((unhide B0).trans (hb.mono (unhide B0).size))
  have XX := (unhide X0).below hb
  clear x1 x2 x3 x5 x12
  have x4 := XX.cell 4 rfl
  have x5 := XX.cell 5 rfl
  have x12 := XX.cell 12 rfl
  have X1 := hide XX
  clear hb XX X0 B0
  clear HSt
  cases b1
  case false =>
    have E : Hid (R = false) := hide (by rw [unhide HN]; simp)
    go_wp2_with fail
    all_goals
      go_ret
      exact ⟨ret_bool (unhide E).symm, unhide K1⟩
  replace HN := hide ((unhide HN).trans (Bool.true_and _))
  go_wp2_with fail
  refine (unhide HMe w1 (unhide K1)).mono ?_
  rintro e w2 ⟨rfl, n2, hn⟩
  have hb : Below w1.heap.size w1 w2 := by rw [hn]; exact below_drewN (Below.refl _ _) n2
  clear hn HMe
  have K2 := hide ((unhide K1).trans (hb.mono (unhide K1).size))
  have XX := (unhide X1).below hb
  clear x4 x5 x12
  have x5 := XX.cell 5 rfl
  have x12 := XX.cell 12 rfl
  have x6 := XX.cell 6 rfl
  have X2 := hide XX
  clear hb XX X1 K1
  by_cases hm : m2 = 0
  case neg =>
    have hm2 : (m2 == 0) = false := by rw [beq_eq_false_iff_ne]; exact hm
    have E : Hid (R = false) := hide (by rw [unhide HN]; simp [hm])
    go_wp2_with fail
    all_goals
      go_ret
      exact ⟨ret_bool (unhide E).symm, unhide K2⟩
  subst hm
  replace HN := hide ((unhide HN).trans (by simp : _ = (inB ro 0 2 && (b4 && (b5 && (inB cm 0 lg.length && (inB el 0 1000 && (inB wt 5 100 && (up || decide (ro = 0)))))))) ))
  go_wp2_with fail
  refine (within_any _ _ _ _).mono ?_
  rintro e w' ⟨rfl, hw'⟩
  have hw2 := hw'.symm
  clear hw'
  subst hw2
  generalize inB ro 0 2 = bb at *
  cases bb
  case false =>
    have E : Hid (R = false) := hide (by rw [unhide HN]; simp)
    go_wp2_with fail
    all_goals
      go_ret
      exact ⟨ret_bool (unhide E).symm, unhide K2⟩
  replace HN := hide ((unhide HN).trans (Bool.true_and _))
  go_wp2_with fail
  refine (unhide HRi w2 (unhide K2)).mono ?_
  rintro e w3 ⟨rfl, n3, hn⟩
  have hb : Below w2.heap.size w2 w3 := by rw [hn]; exact below_drewN (Below.refl _ _) n3
  clear hn HRi
  have K3 := hide ((unhide K2).trans (hb.mono (unhide K2).size))
  have XX := (unhide X2).below hb
  clear x5 x6 x12
  have x7 := XX.cell 7 rfl
  have x8 := XX.cell 8 rfl
  have x3 := XX.cell 3 rfl
  have x5 := XX.cell 5 rfl
  have x12 := XX.cell 12 rfl
  have X3 := hide XX
  clear hb XX X2 K2
  cases b4
  case false =>
    have E : Hid (R = false) := hide (by rw [unhide HN]; simp)
    go_wp2_with fail
    all_goals
      go_ret
      exact ⟨ret_bool (unhide E).symm, unhide K3⟩
  replace HN := hide ((unhide HN).trans (Bool.true_and _))
  go_wp2_with fail
  refine (unhide HTo w3 (unhide K3)).mono ?_
  rintro e w4 ⟨rfl, n4, hn⟩
  have hb : Below w3.heap.size w3 w4 := by rw [hn]; exact below_drewN (Below.refl _ _) n4
  clear hn HTo
  have K4 := hide ((unhide K3).trans (hb.mono (unhide K3).size))
  have XX := (unhide X3).below hb
  clear x7 x8 x3 x5 x12
  have x3 := XX.cell 3 rfl
  have x5 := XX.cell 5 rfl
  have x9 := XX.cell 9 rfl
  have x10 := XX.cell 10 rfl
  have x11 := XX.cell 11 rfl
  have x12 := XX.cell 12 rfl
  have X4 := hide XX
  clear hb XX X3 K3
  cases b5
  case false =>
    have E : Hid (R = false) := hide (by rw [unhide HN]; simp)
    go_wp2_with fail
    all_goals
      go_ret
      exact ⟨ret_bool (unhide E).symm, unhide K4⟩
  replace HN := hide ((unhide HN).trans (Bool.true_and _))
  go_wp2_with fail
  refine (within_any _ _ _ _).mono ?_
  rintro e w' ⟨rfl, hw'⟩
  have hw2 := hw'.symm
  clear hw'
  subst hw2
  generalize inB cm 0 ↑lg.length = bb at *
  cases bb
  case false =>
    have E : Hid (R = false) := hide (by rw [unhide HN]; simp)
    go_wp2_with fail
    all_goals
      go_ret
      exact ⟨ret_bool (unhide E).symm, unhide K4⟩
  replace HN := hide ((unhide HN).trans (Bool.true_and _))
  go_wp2_with fail
  refine (within_any _ _ _ _).mono ?_
  rintro e w' ⟨rfl, hw'⟩
  have hw2 := hw'.symm
  clear hw'
  subst hw2
  generalize inB el 0 1000 = bb at *
  cases bb
  case false =>
    have E : Hid (R = false) := hide (by rw [unhide HN]; simp)
    go_wp2_with fail
    all_goals
      go_ret
      exact ⟨ret_bool (unhide E).symm, unhide K4⟩
  replace HN := hide ((unhide HN).trans (Bool.true_and _))
  go_wp2_with fail
  refine (within_any _ _ _ _).mono ?_
  rintro e w' ⟨rfl, hw'⟩
  have hw2 := hw'.symm
  clear hw'
  subst hw2
  generalize inB wt 5 100 = bb at *
  cases bb
  case false =>
    have E : Hid (R = false) := hide (by rw [unhide HN]; simp)
    go_wp2_with fail
    all_goals
      go_ret
      exact ⟨ret_bool (unhide E).symm, unhide K4⟩
  replace HN := hide ((unhide HN).trans (Bool.true_and _))
  cases up
  case true =>
    have E : Hid (R = true) := hide (by rw [unhide HN]; rfl)
    go_wp2_with fail
    go_ret
    exact ⟨ret_bool (unhide E).symm, unhide K4⟩
  have E : Hid (R = (ro == 0)) := hide (by rw [unhide HN, Bool.eq_iff_iff]; simp)
  go_wp2_with fail
  go_ret
  exact ⟨ret_bool (unhide E).symm, unhide K4⟩
end Go.Proofs.Ytljolldacpkeeaa
