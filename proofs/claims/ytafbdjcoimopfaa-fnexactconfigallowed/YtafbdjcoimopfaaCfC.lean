/- Both ConfigAllowed, walked. (Written by py/cfc.py.) -/
import Derived.Test.YtafbdjcoimopfaaCfB
namespace Go.Proofs.Ytafbdjcoimopfaa
open Go.ChangeShapes Go.WideShapes Go.ChangeAt Go.RowKit Go.Deep
set_option linter.unusedVariables false

/-- What ConfigAllowed tells. -/
def caOut (ok : Bool) (ro cm tm : Int) (lg : List En) (st ms : List Int) : Bool × Int := if 4096 < ms.length then (false, 2) else if ok && decide (mFault ms = 0) then (mayB ro cm tm lg st ms, 0) else (false, 1)
theorem caOut_long {ok : Bool} {ro cm tm : Int} {lg : List En} {st ms : List Int} (h : 4096 < ms.length) : caOut ok ro cm tm lg st ms = (false, 2) := if_pos h
theorem caOut_bad {ok : Bool} {ro cm tm : Int} {lg : List En} {st ms : List Int} (h : ¬ 4096 < ms.length) (h2 : (ok && decide (mFault ms = 0)) = false) : caOut ok ro cm tm lg st ms = (false, 1) := by unfold caOut; rw [if_neg h, h2]; rfl
theorem caOut_ok {ok : Bool} {ro cm tm : Int} {lg : List En} {st ms : List Int} (h : ¬ 4096 < ms.length) (h1 : ok = true) (h2 : mFault ms = 0) : caOut ok ro cm tm lg st ms = (mayB ro cm tm lg st ms, 0) := by unfold caOut; rw [if_neg h, h1, h2]; rfl
theorem node_commit {id tm vo ro cm el wt : Int} {up : Bool} {lg : List En} {st vs nx mt : List Int} (h : nodeB id tm vo ro cm el wt up lg st vs nx mt = true) : 0 ≤ cm ∧ cm ≤ (lg.length : Int) := by
  unfold nodeB at h
  simp only [Bool.and_eq_true, decide_eq_true_eq] at h
  exact inB_iff.1 h.2.2.2.2.2.2.1
set_option maxRecDepth 100000 in
set_option maxHeartbeats 2000000 in
theorem implConfigAllowed_any (id tm vo ro cm el wt : Int) (up : Bool) (lg : List En) (st vs nx mt : List Int) (la : Option Addr) (lc : Nat) (sa : Option Addr) (sc : Nat) (va : Option Addr) (vc : Nat) (na : Option Addr) (nc : Nat) (ma : Option Addr) (mc : Nat) (ms : List Int) (aa : Option Addr) (ac : Nat) (w : World) (h : NoR w (.slice la lg.length lc) (.slice sa st.length sc) (.slice va vs.length vc) (.slice na nx.length nc) (.slice ma mt.length mc) lg st vs nx mt) (hs : NoS lg st vs nx mt) (hM : Ints w (.slice aa ms.length ac) ms) (hms : ms.length ≤ 1048576) :
    Calls Try.prog 17 #[.agg #[.int .i64 id, .int .i64 tm, .int .i64 vo, .slice la lg.length lc, .slice sa st.length sc, .int .i64 ro, .slice va vs.length vc, .slice na nx.length nc, .slice ma mt.length mc, .int .i64 cm, .int .i64 el, .int .i64 wt, .bool up], .slice aa ms.length ac] w fun e w' => e = .returned (.tuple #[.bool (caOut (nodeB id tm vo ro cm el wt up lg st vs nx mt) ro cm tm lg st ms).1, .int .i64 (caOut (nodeB id tm vo ro cm el wt up lg st vs nx mt) ro cm tm lg st ms).2]) ∧ Below w.heap.size w w' := by
  have B0 := hide ((Below.refl w.heap.size w).alloc (Nat.le_refl _) (.cells #[.int .i64 id, .int .i64 tm, .int .i64 vo, .slice la lg.length lc, .slice sa st.length sc, .int .i64 ro, .slice va vs.length vc, .slice na nx.length nc, .slice ma mt.length mc, .int .i64 cm, .int .i64 el, .int .i64 wt, .bool up] 42))
  have X0 := hide (Blk.new w #[.int .i64 id, .int .i64 tm, .int .i64 vo, .slice la lg.length lc, .slice sa st.length sc, .int .i64 ro, .slice va vs.length vc, .slice na nx.length nc, .slice ma mt.length mc, .int .i64 cm, .int .i64 el, .int .i64 wt, .bool up] 42 w.heap.size rfl)
  have HN := hide (fun wx (hx : Below w.heap.size w wx) => implNodeOK_any id tm vo ro cm el wt up lg st vs nx mt la lc sa sc va vc na nc ma mc wx (h.below hx) hs)
  have HF := hide (fun wx (hx : Below w.heap.size w wx) => membersFault_any _ ms wx (hM.below hx) hms)
  have HMs := hide (fun wx (hx : Below w.heap.size w wx) => hM.below hx)
  have HQ := hide (fun wx (hx : Below w.heap.size w wx) (hh : nodeB id tm vo ro cm el wt up lg st vs nx mt = true) => newActor_any id tm vo ro cm el wt up lg st vs nx mt la lc sa sc va vc na nc ma mc wx (h.below hx) (by have := node_small hh; omega) (by have := node_small hh; omega) (by have := node_small hh; omega) (by have := node_small hh; omega) (by have := node_small hh; omega))
  have HG := hide (fun hh : nodeB id tm vo ro cm el wt up lg st vs nx mt = true => cfg_of_node hh)
  have HCM := hide (fun hh : nodeB id tm vo ro cm el wt up lg st vs nx mt = true => node_commit hh)
  have HLn := hide (fun hh : nodeB id tm vo ro cm el wt up lg st vs nx mt = true => mbAt_len lg st (cfg_of_node hh) (by have := node_small hh; omega) lg.length (Nat.le_refl _))
  have HL := hide hs.l0
  have HDT := hide (fun i => Nat.le_trans (hs.dt i) (by unfold maxLen; omega : (1048576 : Nat) ≤ maxLen))
  clear h hs hM
  generalize nodeB id tm vo ro cm el wt up lg st vs nx mt = ok at *
  by_cases hlen : 4096 < ms.length
  · have HO := hide (caOut_long (ok := ok) (ro := ro) (cm := cm) (tm := tm) (lg := lg) (st := st) hlen)
    have q1 : (4096 : Int) < (ms.length : Int) := by omega
    generalize caOut ok ro cm tm lg st ms = R at *
    go_enter Try.func17, Try.ntmps17
    go_wp2_with fail
    go_ret2
    exact ⟨by rw [unhide HO]; rfl, unhide B0⟩
  have q1 : ¬ (4096 : Int) < (ms.length : Int) := by omega
  have HOB := hide (fun h2 => caOut_bad (ok := ok) (ro := ro) (cm := cm) (tm := tm) (lg := lg) (st := st) hlen h2)
  have HOK := hide (fun h1 h2 => caOut_ok (ok := ok) (ro := ro) (cm := cm) (tm := tm) (lg := lg) (st := st) hlen h1 h2)
  have hlen2 : ms.length ≤ 4096 := by omega
  clear hlen
  generalize caOut ok ro cm tm lg st ms = R at *
  go_enter Try.func17, Try.ntmps17
  go_wp2_with fail
  generalize w.alloc (.cells #[.int .i64 id, .int .i64 tm, .int .i64 vo, .slice la lg.length lc, .slice sa st.length sc, .int .i64 ro, .slice va vs.length vc, .slice na nx.length nc, .slice ma mt.length mc, .int .i64 cm, .int .i64 el, .int .i64 wt, .bool up] 42) = w0 at *
  refine (unhide HN w0 (unhide B0)).mono ?_
  rintro e w1 ⟨rfl, hb⟩
  have K1 := hide ((unhide B0).trans (hb.mono (unhide B0).size))
  have X1 := hide ((unhide X0).below hb)
  clear hb X0 B0 HN
  cases ok
  · have HO := hide (unhide HOB (by first | trivial | rfl))
    go_wp2_with fail
    go_ret2
    exact ⟨by rw [unhide HO]; rfl, unhide K1⟩
  go_wp2_with fail
  refine (unhide HF w1 (unhide K1)).mono ?_
  rintro e w2 ⟨rfl, n2, hn⟩
  have hb : Below w1.heap.size w1 w2 := by rw [hn]; exact below_drewN (Below.refl _ _) n2
  have K2 := hide ((unhide K1).trans (hb.mono (unhide K1).size))
  have XX := (unhide X1).below hb
  have x0 := XX.cell 0 rfl
  have x1 := XX.cell 1 rfl
  have x2 := XX.cell 2 rfl
  have x3 := XX.cell 3 rfl
  have x4 := XX.cell 4 rfl
  have x5 := XX.cell 5 rfl
  have x6 := XX.cell 6 rfl
  have x7 := XX.cell 7 rfl
  have x8 := XX.cell 8 rfl
  have x9 := XX.cell 9 rfl
  have x10 := XX.cell 10 rfl
  have x11 := XX.cell 11 rfl
  have x12 := XX.cell 12 rfl
  clear hb hn XX X1 HF K1
  by_cases hm : mFault ms = 0
  case neg =>
    have hm2 : (mFault ms == 0) = false := by rw [beq_eq_false_iff_ne]; exact hm
    have HO := hide (unhide HOB (by simp [hm]))
    clear hm HOB HOK
    generalize mFault ms = mf at *
    go_wp2_with fail
    go_ret2
    exact ⟨by rw [unhide HO]; rfl, unhide K2⟩
  have hm2 : (mFault ms == 0) = true := by rw [hm]; rfl
  have HO := hide (unhide HOK (by first | trivial | rfl) hm)
  clear hm HOB HOK
  generalize mFault ms = mf at *
  go_wp2_with fail
  refine (unhide HQ w2 (unhide K2) (by first | trivial | rfl)).mono ?_
  rintro e w3 ⟨b, la', lc', sa', sc', va', vc', na', nc', ma', mc', rfl, hA, hb⟩
  have hk2 := (unhide K2).size
  have K3 := hide ((unhide K2).trans (hb.mono hk2))
  have hk3 := (unhide K3).size
  obtain ⟨hcm0, hcm1⟩ := unhide HCM (by first | trivial | rfl)
  obtain ⟨cn, rfl⟩ : ∃ cn : Nat, cm = (cn : Int) := ⟨cm.toNat, by omega⟩
  have HF := hide (mayChange_any w.heap.size b la' lc' sa' sc' aa ac ro tm cn lg st ms (unhide HDT) (unhide HL) (unhide HG (by first | trivial | rfl)) w3 hA.bk.1 (hA.bk.cell 1 rfl) (hA.bk.cell 3 rfl) (hA.bk.cell 4 rfl) (hA.bk.cell 5 rfl) (hA.bk.cell 9 rfl) hA.no.lg.ens (hA.no.st.mono hk2) hk3 (unhide HMs w3 (unhide K3)) hlen2 (by omega) (unhide HLn (by first | trivial | rfl)))
  clear hb hA HQ x0 x1 x2 x3 x4 x5 x6 x7 x8 x9 x10 x11 x12 HG HLn HDT HL HCM HMs K2
  go_wp2_with fail
  refine (unhide HF).mono ?_
  rintro e w4 ⟨rfl, hb⟩
  have K4 := hide ((unhide K3).trans (hb.mono hk3))
  clear hb HF K3
  go_wp2_with fail
  go_ret2
  exact ⟨by rw [unhide HO]; rfl, unhide K4⟩
end Go.Proofs.Ytafbdjcoimopfaa
