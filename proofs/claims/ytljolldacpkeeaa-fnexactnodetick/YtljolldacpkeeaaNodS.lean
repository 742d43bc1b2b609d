/- Nodes: laws.szNode. (Written by py/nod.py.) -/
import Derived.Test.YtljolldacpkeeaaHaa
namespace Go.Proofs.Ytljolldacpkeeaa
open Go.ChangeShapes Go.WideShapes Go.ChangeAt Go.RowKit Go.Deep
set_option linter.unusedVariables false
set_option maxRecDepth 100000 in
set_option maxHeartbeats 4000000 in
theorem szNode_any (id tm vo ro cm el wt : Int) (up : Bool) (lg : List En) (st vs nx mt : List Int) (la : Option Addr) (lc : Nat) (sa : Option Addr) (sc : Nat) (va : Option Addr) (vc : Nat) (na : Option Addr) (nc : Nat) (ma : Option Addr) (mc : Nat) (L : Int) (w : World) (h : NoR w (.slice la lg.length lc) (.slice sa st.length sc) (.slice va vs.length vc) (.slice na nx.length nc) (.slice ma mt.length mc) lg st vs nx mt) (hL0 : 0 ≤ L) (hL1 : L ≤ 1048576) (hz : ∀ i, i < lg.length → (lg.getD i default).d.size ≤ maxLen) :
    Calls Try.prog 5 #[.agg #[.int .i64 id, .int .i64 tm, .int .i64 vo, .slice la lg.length lc, .slice sa st.length sc, .int .i64 ro, .slice va vs.length vc, .slice na nx.length nc, .slice ma mt.length mc, .int .i64 cm, .int .i64 el, .int .i64 wt, .bool up], .int .i64 L] w fun e w' => e = .returned (.int .i64 (noszR L lg st.length vs.length nx.length mt.length)) ∧ Below w.heap.size w w' := by
  have B0 := hide ((Below.refl w.heap.size w).alloc (Nat.le_refl _) (.cells #[.int .i64 id, .int .i64 tm, .int .i64 vo, .slice la lg.length lc, .slice sa st.length sc, .int .i64 ro, .slice va vs.length vc, .slice na nx.length nc, .slice ma mt.length mc, .int .i64 cm, .int .i64 el, .int .i64 wt, .bool up] 25))
  have X0 := hide (Blk.new w #[.int .i64 id, .int .i64 tm, .int .i64 vo, .slice la lg.length lc, .slice sa st.length sc, .int .i64 ro, .slice va vs.length vc, .slice na nx.length nc, .slice ma mt.length mc, .int .i64 cm, .int .i64 el, .int .i64 wt, .bool up] 25 w.heap.size rfl)
  have HE := hide (fun wx (hx : Below w.heap.size w wx) => szEntryS_any L hL0 hL1 _ lg wx (h.lg.below hx) hz)
  have Mst : st.length ≤ maxLen := by obtain ⟨a, c, h1, h2, _⟩ := h.st; exact h2
  have Hst := hide (fun (x : Int) (hx0 : 0 ≤ x) (hx1 : x ≤ 1048576) wx => szIntS_any x hx0 hx1 sa st.length sc wx Mst)
  have Mvs : vs.length ≤ maxLen := by obtain ⟨a, c, h1, h2, _⟩ := h.vs; exact h2
  have Hvs := hide (fun (x : Int) (hx0 : 0 ≤ x) (hx1 : x ≤ 1048576) wx => szIntS_any x hx0 hx1 va vs.length vc wx Mvs)
  have Mnx : nx.length ≤ maxLen := by obtain ⟨a, c, h1, h2, _⟩ := h.nx; exact h2
  have Hnx := hide (fun (x : Int) (hx0 : 0 ≤ x) (hx1 : x ≤ 1048576) wx => szIntS_any x hx0 hx1 na nx.length nc wx Mnx)
  have Mmt : mt.length ≤ maxLen := by obtain ⟨a, c, h1, h2, _⟩ := h.mt; exact h2
  have Hmt := hide (fun (x : Int) (hx0 : 0 ≤ x) (hx1 : x ≤ 1048576) wx => szIntS_any x hx0 hx1 ma mt.length mc wx Mmt)
  have HC0 := hide (eszR_cases L lg)
  have HR : Hid (noszR L lg st.length vs.length nx.length mt.length = if eszR L lg < 0 then -1 else if iszR (eszR L lg) st.length < 0 then -1 else if iszR (iszR (eszR L lg) st.length) vs.length < 0 then -1 else if iszR (iszR (iszR (eszR L lg) st.length) vs.length) nx.length < 0 then -1 else iszR (iszR (iszR (iszR (eszR L lg) st.length) vs.length) nx.length) mt.length) := rfl
  generalize noszR L lg st.length vs.length nx.length mt.length = R at *
  generalize eszR L lg = r0 at *
  clear h hz Mst Mvs Mnx Mmt
  go_enter Try.func5, Try.ntmps5
  go_wp2_with fail
  generalize w.alloc (.cells #[.int .i64 id, .int .i64 tm, .int .i64 vo, .slice la lg.length lc, .slice sa st.length sc, .int .i64 ro, .slice va vs.length vc, .slice na nx.length nc, .slice ma mt.length mc, .int .i64 cm, .int .i64 el, .int .i64 wt, .bool up] 25) = w0 at *
  refine (unhide HE w0 (unhide B0)).mono ?_
  rintro e w1 ⟨rfl, hb1⟩
  have K1 := hide ((unhide B0).trans (hb1.mono (unhide B0).size))
  have X1 := (unhide X0).below hb1
  have x4 := X1.cell 4 rfl
  have x6 := X1.cell 6 rfl
  have x7 := X1.cell 7 rfl
  have x8 := X1.cell 8 rfl
  clear hb1 B0 X0 X1 HE
  rcases unhide HC0 with hr | ⟨hr, hrl⟩
  · subst hr
    have E : Hid (R = -1) := hide (by rw [unhide HR]; rfl)
    go_wp2_with fail
    go_ret
    exact ⟨ret_int (unhide E).symm, unhide K1⟩
  have hn0 : ¬ r0 < 0 := by omega
  replace HR := hide ((unhide HR).trans (if_neg hn0))
  have C0 := hide (Hst r0 (by omega) (by omega))
  clear Hst
  have D0 := hide (iszR_cases r0 st.length)
  generalize iszR r0 st.length = r1 at *
  go_wp2_with fail
  refine (unhide C0 w1).mono ?_
  rintro e w' ⟨rfl, hw'⟩
  have hw2 := hw'.symm
  clear hw' C0
  subst hw2
  rcases unhide D0 with hr | ⟨hr0, hre0⟩
  · subst hr
    have E : Hid (R = -1) := hide ((unhide HR).trans (if_pos (by decide)))
    go_wp2_with fail
    go_ret
    exact ⟨ret_int (unhide E).symm, unhide K1⟩
  have hn1 : ¬ r1 < 0 := by omega
  have hle0 : r1 ≤ r0 := by omega
  clear hre0
  replace HR := hide ((unhide HR).trans (if_neg hn1))
  clear D0
  have C1 := hide (Hvs r1 (by omega) (by omega))
  clear Hvs
  have D1 := hide (iszR_cases r1 vs.length)
  generalize iszR r1 vs.length = r2 at *
  go_wp2_with fail
  refine (unhide C1 w1).mono ?_
  rintro e w' ⟨rfl, hw'⟩
  have hw2 := hw'.symm
  clear hw' C1
  subst hw2
  rcases unhide D1 with hr | ⟨hr1, hre1⟩
  · subst hr
    have E : Hid (R = -1) := hide ((unhide HR).trans (if_pos (by decide)))
    go_wp2_with fail
    go_ret
    exact ⟨ret_int (unhide E).symm, unhide K1⟩
  have hn2 : ¬ r2 < 0 := by omega
  have hle1 : r2 ≤ r1 := by omega
  clear hre1
  replace HR := hide ((unhide HR).trans (if_neg hn2))
  clear D1
  have C2 := hide (Hnx r2 (by omega) (by omega))
  clear Hnx
  have D2 := hide (iszR_cases r2 nx.length)
  generalize iszR r2 nx.length = r3 at *
  go_wp2_with fail
  refine (unhide C2 w1).mono ?_
  rintro e w' ⟨rfl, hw'⟩
  have hw2 := hw'.symm
  clear hw' C2
  subst hw2
  rcases unhide D2 with hr | ⟨hr2, hre2⟩
  · subst hr
    have E : Hid (R = -1) := hide ((unhide HR).trans (if_pos (by decide)))
    go_wp2_with fail
    go_ret
    exact ⟨ret_int (unhide E).symm, unhide K1⟩
  have hn3 : ¬ r3 < 0 := by omega
  have hle2 : r3 ≤ r2 := by omega
  clear hre2
  replace HR := hide ((unhide HR).trans (if_neg hn3))
  clear D2
  have C3 := hide (Hmt r3 (by omega) (by omega))
  clear Hmt
  have D3 := hide (iszR_cases r3 mt.length)
  generalize iszR r3 mt.length = r4 at *
  go_wp2_with fail
  refine (unhide C3 w1).mono ?_
  rintro e w' ⟨rfl, hw'⟩
  have hw2 := hw'.symm
  clear hw' C3
  subst hw2
  rcases unhide D3 with hr | ⟨hr3, hre3⟩
  · subst hr
    have E : Hid (R = -1) := HR
    go_wp2_with fail
    go_ret
    exact ⟨ret_int (unhide E).symm, unhide K1⟩
  have hn4 : ¬ r4 < 0 := by omega
  have hle3 : r4 ≤ r3 := by omega
  clear hre3
  go_wp2_with fail
  go_ret
  exact ⟨ret_int (unhide HR).symm, unhide K1⟩
end Go.Proofs.Ytljolldacpkeeaa
