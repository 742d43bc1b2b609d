/- For every node and every list of numbers that can be read, laws.FnExactConfigAllowed returns true, and both read as they did. No condition. (Written by py/lca.py.) -/
import Derived.Test.YtafbdjcoimopfaaCfD
import Derived.Test.YtafbdjcoimopfaaNodS
import Derived.Test.YtafbdjcoimopfaaNodT
import Derived.Test.YtafbdjcoimopfaaNodE
namespace Go.Proofs.Ytafbdjcoimopfaa.fnExactConfigAllowed
open Go.ChangeShapes Go.WideShapes Go.ChangeAt Go.RowKit
open Go.ChangeMaps (open_string shut_string)
set_option linter.unusedVariables false

set_option maxRecDepth 100000 in
set_option maxHeartbeats 4000000 in
theorem walk (id tm vo ro cm el wt : Int) (up : Bool) (lv sv vv nv mv : Value) (lg : List En) (st vs nx mt : List Int) (aa : Option Addr) (len ac : Nat) (zs : List Int) (w : World) (hf : NoR w lv sv vv nv mv lg st vs nx mt) (hz : ∀ i, i < lg.length → (lg.getD i default).d.size ≤ maxLen) (hr : IsRow .i64 w aa len ac zs) :
    Calls Try.prog 4 #[.agg #[.int .i64 id, .int .i64 tm, .int .i64 vo, lv, sv, .int .i64 ro, vv, nv, mv, .int .i64 cm, .int .i64 el, .int .i64 wt, .bool up], .slice aa len ac] w fun e w' => e = .returned (.bool true) ∧ Below w.heap.size w w' := by
  obtain ⟨la, lc, rfl⟩ := hf.lg.shape
  obtain ⟨sa, sc, rfl⟩ := hf.st.shape
  obtain ⟨va, vc, rfl⟩ := hf.vs.shape
  obtain ⟨na, nc, rfl⟩ := hf.nx.shape
  obtain ⟨ma, mc, rfl⟩ := hf.mt.shape
  have hI := ints_of_row hr
  have hlm : (zs.take len).length = len := by obtain ⟨_, _, e, _⟩ := hI; simp only [Value.slice.injEq] at e; exact e.2.1.symm
  have hmx : len ≤ maxLen := by obtain ⟨_, _, e, h2, _⟩ := hI; rw [hlm] at h2; exact h2
  generalize zs.take len = ms at *
  subst hlm
  have HF := hide hf
  have HZ := hide hz
  have HI := hide hI
  clear hf hz hr hI
  unfold maxLen at hmx
  have B0 := hide ((Below.refl w.heap.size w).alloc (Nat.le_refl _) (.cells #[.int .i64 id, .int .i64 tm, .int .i64 vo, .slice la lg.length lc, .slice sa st.length sc, .int .i64 ro, .slice va vs.length vc, .slice na nx.length nc, .slice ma mt.length mc, .int .i64 cm, .int .i64 el, .int .i64 wt, .bool up] 36))
  have X0 := hide (Blk.new w #[.int .i64 id, .int .i64 tm, .int .i64 vo, .slice la lg.length lc, .slice sa st.length sc, .int .i64 ro, .slice va vs.length vc, .slice na nx.length nc, .slice ma mt.length mc, .int .i64 cm, .int .i64 el, .int .i64 wt, .bool up] 36 w.heap.size rfl)
  by_cases hl : ms.length ≤ 1048576
  case neg =>
    have hl2 : (1048576 : Int) < (ms.length : Int) := by omega
    go_enter Try.func4, Try.ntmps4
    go_wp2_with fail
    go_ret
    exact ⟨rfl, unhide B0⟩
  have hl2 : ¬ (1048576 : Int) < (ms.length : Int) := by omega
  go_enter Try.func4, Try.ntmps4
  go_wp2_with fail
  generalize w.alloc (.cells #[.int .i64 id, .int .i64 tm, .int .i64 vo, .slice la lg.length lc, .slice sa st.length sc, .int .i64 ro, .slice va vs.length vc, .slice na nx.length nc, .slice ma mt.length mc, .int .i64 cm, .int .i64 el, .int .i64 wt, .bool up] 36) = w0 at *
  refine (szNode_any id tm vo ro cm el wt up lg st vs nx mt la lc sa sc va vc na nc ma mc 1048576 w0 ((unhide HF).below (unhide B0)) (by omega) (by omega) (unhide HZ)).mono ?_
  rintro e w1 ⟨rfl, hb1⟩
  have K1 := hide ((unhide B0).trans (hb1.mono (unhide B0).size))
  have A1 := hide ((unhide HF).below (unhide K1))
  have XX := (unhide X0).below hb1
  have x10 := XX.cell 0 rfl
  have x11 := XX.cell 1 rfl
  have x12 := XX.cell 2 rfl
  have x13 := XX.cell 3 rfl
  have x14 := XX.cell 4 rfl
  have x15 := XX.cell 5 rfl
  have x16 := XX.cell 6 rfl
  have x17 := XX.cell 7 rfl
  have x18 := XX.cell 8 rfl
  have x19 := XX.cell 9 rfl
  have x110 := XX.cell 10 rfl
  have x111 := XX.cell 11 rfl
  have x112 := XX.cell 12 rfl
  have X1 := hide XX
  clear hb1 B0 X0 XX
  rcases noszR_cases 1048576 (by omega) lg st vs nx mt with hr | ⟨hr, hrl, hsm⟩
  · rw [hr]
    go_wp2_with fail
    go_ret
    exact ⟨rfl, unhide K1⟩
  have HSM := hide hsm
  clear hsm
  generalize noszR 1048576 lg st.length vs.length nx.length mt.length = r at *
  go_wp2_with fail
  refine (toNode_any id tm vo ro cm el wt up lg st vs nx mt la lc sa sc va vc na nc ma mc w1 (unhide A1) (unhide HSM)).mono ?_
  rintro e w2 ⟨l2, s2, v2, n2, m2, rfl, hO, hb⟩
  have K2 := hide ((unhide K1).trans (hb.mono (unhide K1).size))
  have A2 := hide ((unhide A1).below hb)
  have XX := (unhide X1).below hb
  clear x10 x11 x12 x13 x14 x15 x16 x17 x18 x19 x110 x111 x112
  have x20 := XX.cell 0 rfl
  have x21 := XX.cell 1 rfl
  have x22 := XX.cell 2 rfl
  have x23 := XX.cell 3 rfl
  have x24 := XX.cell 4 rfl
  have x25 := XX.cell 5 rfl
  have x26 := XX.cell 6 rfl
  have x27 := XX.cell 7 rfl
  have x28 := XX.cell 8 rfl
  have x29 := XX.cell 9 rfl
  have x210 := XX.cell 10 rfl
  have x211 := XX.cell 11 rfl
  have x212 := XX.cell 12 rfl
  have X2 := hide XX
  clear XX K1 A1 X1
  have V2 := hide hO
  clear hb hO
  go_wp2_with fail
  refine (toIntS_at _ ms w2 ((unhide HI).below (unhide K2)) hl).mono ?_
  rintro e w3 ⟨rfl, hO, hb⟩
  have V3 := hide ((unhide V2).below hb)
  have I3 := hide hO.ints
  have K3 := hide ((unhide K2).trans (hb.mono (unhide K2).size))
  have A3 := hide ((unhide A2).below hb)
  have XX := (unhide X2).below hb
  clear x20 x21 x22 x23 x24 x25 x26 x27 x28 x29 x210 x211 x212
  have x30 := XX.cell 0 rfl
  have x31 := XX.cell 1 rfl
  have x32 := XX.cell 2 rfl
  have x33 := XX.cell 3 rfl
  have x34 := XX.cell 4 rfl
  have x35 := XX.cell 5 rfl
  have x36 := XX.cell 6 rfl
  have x37 := XX.cell 7 rfl
  have x38 := XX.cell 8 rfl
  have x39 := XX.cell 9 rfl
  have x310 := XX.cell 10 rfl
  have x311 := XX.cell 11 rfl
  have x312 := XX.cell 12 rfl
  have X3 := hide XX
  clear XX K2 A2 X2
  clear hb hO V2
  generalize (some (⟨w2.heap.size, 0, none⟩ : Addr)) = ia at *
  go_wp2_with fail
  refine (specConfigAllowed_any id tm vo ro cm el wt up lg st vs nx mt _ _ _ _ _ _ _ _ _ _ ms _ _ w3 (unhide V3).read (unhide HSM) (unhide I3) hl).mono ?_
  rintro e w30 ⟨rfl, hb⟩
  have K30 := hide ((unhide K3).trans (hb.mono (unhide K3).size))
  have A30 := hide ((unhide A3).below hb)
  have XX := (unhide X3).below hb
  clear x30 x31 x32 x33 x34 x35 x36 x37 x38 x39 x310 x311 x312
  have x300 := XX.cell 0 rfl
  have x301 := XX.cell 1 rfl
  have x302 := XX.cell 2 rfl
  have x303 := XX.cell 3 rfl
  have x304 := XX.cell 4 rfl
  have x305 := XX.cell 5 rfl
  have x306 := XX.cell 6 rfl
  have x307 := XX.cell 7 rfl
  have x308 := XX.cell 8 rfl
  have x309 := XX.cell 9 rfl
  have x3010 := XX.cell 10 rfl
  have x3011 := XX.cell 11 rfl
  have x3012 := XX.cell 12 rfl
  have X30 := hide XX
  clear XX K3 A3 X3 hb V3 I3
  go_wp2_with fail
  refine (toNode_any id tm vo ro cm el wt up lg st vs nx mt la lc sa sc va vc na nc ma mc w30 (unhide A30) (unhide HSM)).mono ?_
  rintro e w4 ⟨l4, s4, v4, n4, m4, rfl, hO, hb⟩
  have K4 := hide ((unhide K30).trans (hb.mono (unhide K30).size))
  have A4 := hide ((unhide A30).below hb)
  have XX := (unhide X30).below hb
  clear x300 x301 x302 x303 x304 x305 x306 x307 x308 x309 x3010 x3011 x3012
  have x40 := XX.cell 0 rfl
  have x41 := XX.cell 1 rfl
  have x42 := XX.cell 2 rfl
  have x43 := XX.cell 3 rfl
  have x44 := XX.cell 4 rfl
  have x45 := XX.cell 5 rfl
  have x46 := XX.cell 6 rfl
  have x47 := XX.cell 7 rfl
  have x48 := XX.cell 8 rfl
  have x49 := XX.cell 9 rfl
  have x410 := XX.cell 10 rfl
  have x411 := XX.cell 11 rfl
  have x412 := XX.cell 12 rfl
  have X4 := hide XX
  clear XX K30 A30 X30
  have BB := (Below.refl w4.heap.size w4).alloc (Nat.le_refl _) (.cells #[.int .i64 id, .int .i64 tm, .int .i64 vo, .slice (some ⟨l4, 0, none⟩) lg.length lg.length, .slice (some ⟨s4, 0, none⟩) st.length st.length, .int .i64 ro, .slice (some ⟨v4, 0, none⟩) vs.length vs.length, .slice (some ⟨n4, 0, none⟩) nx.length nx.length, .slice (some ⟨m4, 0, none⟩) mt.length mt.length, .int .i64 cm, .int .i64 el, .int .i64 wt, .bool up] 42)
  have V5 := hide (hO.below BB)
  have Y5 := hide (Blk.new w4 #[.int .i64 id, .int .i64 tm, .int .i64 vo, .slice (some ⟨l4, 0, none⟩) lg.length lg.length, .slice (some ⟨s4, 0, none⟩) st.length st.length, .int .i64 ro, .slice (some ⟨v4, 0, none⟩) vs.length vs.length, .slice (some ⟨n4, 0, none⟩) nx.length nx.length, .slice (some ⟨m4, 0, none⟩) mt.length mt.length, .int .i64 cm, .int .i64 el, .int .i64 wt, .bool up] 42 w4.heap.size rfl)
  have K5 := hide ((unhide K4).trans (BB.mono (unhide K4).size))
  have A5 := hide ((unhide A4).below BB)
  have X5 := hide ((unhide X4).below BB)
  have hyz := (unhide K4).size
  clear hb hO BB K4 A4 X4
  clear x40 x41 x42 x43 x44 x45 x46 x47 x48 x49 x410 x411 x412
  go_wp2_with fail
  generalize w4.alloc (.cells #[.int .i64 id, .int .i64 tm, .int .i64 vo, .slice (some ⟨l4, 0, none⟩) lg.length lg.length, .slice (some ⟨s4, 0, none⟩) st.length st.length, .int .i64 ro, .slice (some ⟨v4, 0, none⟩) vs.length vs.length, .slice (some ⟨n4, 0, none⟩) nx.length nx.length, .slice (some ⟨m4, 0, none⟩) mt.length mt.length, .int .i64 cm, .int .i64 el, .int .i64 wt, .bool up] 42) = w5 at *
  generalize w4.heap.size = yb at *
  refine (toIntS_at _ ms w5 ((unhide HI).below (unhide K5)) hl).mono ?_
  rintro e w50 ⟨rfl, hO, hb⟩
  have K50 := hide ((unhide K5).trans (hb.mono (unhide K5).size))
  have A50 := hide ((unhide A5).below hb)
  have V50 := hide ((unhide V5).below hb)
  have X50 := hide ((unhide X5).below hb)
  have YY := (unhide Y5).below hb
  have I50 := hide hO.ints
  clear hb hO K5 A5 V5 X5 Y5
  have y50 := YY.cell 0 rfl
  have y51 := YY.cell 1 rfl
  have y52 := YY.cell 2 rfl
  have y53 := YY.cell 3 rfl
  have y54 := YY.cell 4 rfl
  have y55 := YY.cell 5 rfl
  have y56 := YY.cell 6 rfl
  have y57 := YY.cell 7 rfl
  have y58 := YY.cell 8 rfl
  have y59 := YY.cell 9 rfl
  have y510 := YY.cell 10 rfl
  have y511 := YY.cell 11 rfl
  have y512 := YY.cell 12 rfl
  have Y50 := hide YY
  clear YY
  generalize (some (⟨w5.heap.size, 0, none⟩ : Addr)) = ib at *
  go_wp2_with fail
  refine (implConfigAllowed_any id tm vo ro cm el wt up lg st vs nx mt _ _ _ _ _ _ _ _ _ _ ms _ _ w50 (unhide V50).read (unhide HSM) (unhide I50) hl).mono ?_
  rintro e w6 ⟨rfl, hb⟩
  have K6 := hide ((unhide K50).trans (hb.mono (unhide K50).size))
  have A6 := hide ((unhide A50).below hb)
  have V6 := hide ((unhide V50).below hb)
  have I6 := hide ((unhide I50).below hb)
  have XX := (unhide X50).below hb
  have YY := (unhide Y50).below hb
  clear y50 y51 y52 y53 y54 y55 y56 y57 y58 y59 y510 y511 y512
  have x60 := XX.cell 0 rfl
  have y60 := YY.cell 0 rfl
  have x61 := XX.cell 1 rfl
  have y61 := YY.cell 1 rfl
  have x62 := XX.cell 2 rfl
  have y62 := YY.cell 2 rfl
  have x63 := XX.cell 3 rfl
  have y63 := YY.cell 3 rfl
  have x64 := XX.cell 4 rfl
  have y64 := YY.cell 4 rfl
  have x65 := XX.cell 5 rfl
  have y65 := YY.cell 5 rfl
  have x66 := XX.cell 6 rfl
  have y66 := YY.cell 6 rfl
  have x67 := XX.cell 7 rfl
  have y67 := YY.cell 7 rfl
  have x68 := XX.cell 8 rfl
  have y68 := YY.cell 8 rfl
  have x69 := XX.cell 9 rfl
  have y69 := YY.cell 9 rfl
  have x610 := XX.cell 10 rfl
  have y610 := YY.cell 10 rfl
  have x611 := XX.cell 11 rfl
  have y611 := YY.cell 11 rfl
  have x612 := XX.cell 12 rfl
  have y612 := YY.cell 12 rfl
  have X6 := hide XX
  have Y6 := hide YY
  clear hb XX YY X50 Y50 K50 A50 V50 I50
  generalize caOut (nodeB id tm vo ro cm el wt up lg st vs nx mt) ro cm tm lg st ms = ok at *
  obtain ⟨ok, cd⟩ := ok
  dsimp only
  have hcd : (cd == cd) = true := by simp
  cases ok
  all_goals
    go_wp2_with fail
    have V6d := hide ((unhide V6).drewN 1)
    have A6d := hide ((unhide A6).below (below_drewN (Below.refl _ w6) 1))
    have K6d := hide (below_drewN (unhide K6) 1)
    have hzy := (unhide Y6).1
    have hzx := (unhide X6).1
    go_region_held3 (fun wx => wx.cell? ⟨yb, 0, none⟩ = some (.int .i64 id) ∧ wx.cell? ⟨yb, 1, none⟩ = some (.int .i64 tm) ∧ wx.cell? ⟨yb, 2, none⟩ = some (.int .i64 vo) ∧ wx.cell? ⟨yb, 3, none⟩ = some (.slice (some ⟨l4, 0, none⟩) lg.length lg.length) ∧ wx.cell? ⟨yb, 4, none⟩ = some (.slice (some ⟨s4, 0, none⟩) st.length st.length) ∧ wx.cell? ⟨yb, 5, none⟩ = some (.int .i64 ro) ∧ wx.cell? ⟨yb, 6, none⟩ = some (.slice (some ⟨v4, 0, none⟩) vs.length vs.length) ∧ wx.cell? ⟨yb, 7, none⟩ = some (.slice (some ⟨n4, 0, none⟩) nx.length nx.length) ∧ wx.cell? ⟨yb, 8, none⟩ = some (.slice (some ⟨m4, 0, none⟩) mt.length mt.length) ∧ wx.cell? ⟨yb, 9, none⟩ = some (.int .i64 cm) ∧ wx.cell? ⟨yb, 10, none⟩ = some (.int .i64 el) ∧ wx.cell? ⟨yb, 11, none⟩ = some (.int .i64 wt) ∧ wx.cell? ⟨yb, 12, none⟩ = some (.bool up) ∧ wx.cell? ⟨w.heap.size, 0, none⟩ = some (.int .i64 id) ∧ wx.cell? ⟨w.heap.size, 1, none⟩ = some (.int .i64 tm) ∧ wx.cell? ⟨w.heap.size, 2, none⟩ = some (.int .i64 vo) ∧ wx.cell? ⟨w.heap.size, 3, none⟩ = some (.slice la lg.length lc) ∧ wx.cell? ⟨w.heap.size, 4, none⟩ = some (.slice sa st.length sc) ∧ wx.cell? ⟨w.heap.size, 5, none⟩ = some (.int .i64 ro) ∧ wx.cell? ⟨w.heap.size, 6, none⟩ = some (.slice va vs.length vc) ∧ wx.cell? ⟨w.heap.size, 7, none⟩ = some (.slice na nx.length nc) ∧ wx.cell? ⟨w.heap.size, 8, none⟩ = some (.slice ma mt.length mc) ∧ wx.cell? ⟨w.heap.size, 9, none⟩ = some (.int .i64 cm) ∧ wx.cell? ⟨w.heap.size, 10, none⟩ = some (.int .i64 el) ∧ wx.cell? ⟨w.heap.size, 11, none⟩ = some (.int .i64 wt) ∧ wx.cell? ⟨w.heap.size, 12, none⟩ = some (.bool up))
      (first
        | go_keep
        | exact ⟨(hb8.cell (p := ⟨yb, 0, none⟩) hq7).trans k0, (hb8.cell (p := ⟨yb, 1, none⟩) hq7).trans k1, (hb8.cell (p := ⟨yb, 2, none⟩) hq7).trans k2, (hb8.cell (p := ⟨yb, 3, none⟩) hq7).trans k3, (hb8.cell (p := ⟨yb, 4, none⟩) hq7).trans k4, (hb8.cell (p := ⟨yb, 5, none⟩) hq7).trans k5, (hb8.cell (p := ⟨yb, 6, none⟩) hq7).trans k6, (hb8.cell (p := ⟨yb, 7, none⟩) hq7).trans k7, (hb8.cell (p := ⟨yb, 8, none⟩) hq7).trans k8, (hb8.cell (p := ⟨yb, 9, none⟩) hq7).trans k9, (hb8.cell (p := ⟨yb, 10, none⟩) hq7).trans k10, (hb8.cell (p := ⟨yb, 11, none⟩) hq7).trans k11, (hb8.cell (p := ⟨yb, 12, none⟩) hq7).trans k12, (hb8.cell (p := ⟨w.heap.size, 0, none⟩) hp7).trans k13, (hb8.cell (p := ⟨w.heap.size, 1, none⟩) hp7).trans k14, (hb8.cell (p := ⟨w.heap.size, 2, none⟩) hp7).trans k15, (hb8.cell (p := ⟨w.heap.size, 3, none⟩) hp7).trans k16, (hb8.cell (p := ⟨w.heap.size, 4, none⟩) hp7).trans k17, (hb8.cell (p := ⟨w.heap.size, 5, none⟩) hp7).trans k18, (hb8.cell (p := ⟨w.heap.size, 6, none⟩) hp7).trans k19, (hb8.cell (p := ⟨w.heap.size, 7, none⟩) hp7).trans k20, (hb8.cell (p := ⟨w.heap.size, 8, none⟩) hp7).trans k21, (hb8.cell (p := ⟨w.heap.size, 9, none⟩) hp7).trans k22, (hb8.cell (p := ⟨w.heap.size, 10, none⟩) hp7).trans k23, (hb8.cell (p := ⟨w.heap.size, 11, none⟩) hp7).trans k24, (hb8.cell (p := ⟨w.heap.size, 12, none⟩) hp7).trans k25⟩
        | exact ⟨k0, k1, k2, k3, k4, k5, k6, k7, k8, k9, k10, k11, k12, k13, k14, k15, k16, k17, k18, k19, k20, k21, k22, k23, k24, k25⟩)
      (first
        | (go_at_call 18; refine (eqNode_any id tm vo ro cm el wt up lg st vs nx mt _ _ _ _ _ _ _ _ _ _ _ _ _ _ _ _ _ _ _ _ w7 ((unhide V6d).below hb7).read hO7.read (unhide HSM)).mono ?_; rintro e w8 ⟨rfl, hb8⟩)
        | (go_at_call 15; refine (toNode_any id tm vo ro cm el wt up lg st vs nx mt la lc sa sc va vc na nc ma mc _ (unhide A6d) (unhide HSM)).mono ?_; rintro e w7 ⟨l7, s7, v7, n7, m7, rfl, hO7, hb7⟩; have hq7 : yb < w7.heap.size := Nat.lt_of_lt_of_le hzy hb7.size; have hp7 : w.heap.size < w7.heap.size := Nat.lt_of_lt_of_le hzx hb7.size; have k0 := (hb7.cell (p := ⟨yb, 0, none⟩) hzy).trans y60; have k1 := (hb7.cell (p := ⟨yb, 1, none⟩) hzy).trans y61; have k2 := (hb7.cell (p := ⟨yb, 2, none⟩) hzy).trans y62; have k3 := (hb7.cell (p := ⟨yb, 3, none⟩) hzy).trans y63; have k4 := (hb7.cell (p := ⟨yb, 4, none⟩) hzy).trans y64; have k5 := (hb7.cell (p := ⟨yb, 5, none⟩) hzy).trans y65; have k6 := (hb7.cell (p := ⟨yb, 6, none⟩) hzy).trans y66; have k7 := (hb7.cell (p := ⟨yb, 7, none⟩) hzy).trans y67; have k8 := (hb7.cell (p := ⟨yb, 8, none⟩) hzy).trans y68; have k9 := (hb7.cell (p := ⟨yb, 9, none⟩) hzy).trans y69; have k10 := (hb7.cell (p := ⟨yb, 10, none⟩) hzy).trans y610; have k11 := (hb7.cell (p := ⟨yb, 11, none⟩) hzy).trans y611; have k12 := (hb7.cell (p := ⟨yb, 12, none⟩) hzy).trans y612; have k13 := (hb7.cell (p := ⟨w.heap.size, 0, none⟩) hzx).trans x60; have k14 := (hb7.cell (p := ⟨w.heap.size, 1, none⟩) hzx).trans x61; have k15 := (hb7.cell (p := ⟨w.heap.size, 2, none⟩) hzx).trans x62; have k16 := (hb7.cell (p := ⟨w.heap.size, 3, none⟩) hzx).trans x63; have k17 := (hb7.cell (p := ⟨w.heap.size, 4, none⟩) hzx).trans x64; have k18 := (hb7.cell (p := ⟨w.heap.size, 5, none⟩) hzx).trans x65; have k19 := (hb7.cell (p := ⟨w.heap.size, 6, none⟩) hzx).trans x66; have k20 := (hb7.cell (p := ⟨w.heap.size, 7, none⟩) hzx).trans x67; have k21 := (hb7.cell (p := ⟨w.heap.size, 8, none⟩) hzx).trans x68; have k22 := (hb7.cell (p := ⟨w.heap.size, 9, none⟩) hzx).trans x69; have k23 := (hb7.cell (p := ⟨w.heap.size, 10, none⟩) hzx).trans x610; have k24 := (hb7.cell (p := ⟨w.heap.size, 11, none⟩) hzx).trans x611; have k25 := (hb7.cell (p := ⟨w.heap.size, 12, none⟩) hzx).trans x612))
    all_goals
      have K8 := hide ((unhide K6d).trans ((hb7.mono (unhide K6d).size).trans (hb8.mono (Nat.le_trans (unhide K6d).size hb7.size))))
      have I8 := hide ((((unhide I6).below (below_drewN (Below.refl _ w6) 1)).below hb7).below hb8)
      clear hb7 hb8 hO7
      go_wp2_with fail
      refine (toIntS_at _ ms w8 ((unhide HI).below (unhide K8)) hl).mono ?_
      rintro e w9 ⟨rfl, hO9, hb9⟩
      have K9 := hide ((unhide K8).trans (hb9.mono (unhide K8).size))
      have HC := hide (eqIntS_any _ _ ms w9 ((unhide I8).below hb9) hO9.ints hl)
      clear hO9 hb9
      go_wp2_with fail
      refine (unhide HC).mono ?_
      rintro e w10 ⟨rfl, n10, hn⟩
      have K10 := hide (show Below w.heap.size w w10 by rw [hn]; exact below_drewN (unhide K9) n10)
      clear hn HC
      go_wp2_with fail
      go_ret
      exact ⟨rfl, unhide K10⟩

theorem own : ownKnob Try.prog.godebug = none := by kernel_rfl
theorem laidOut : laidOutB Try.prog = true := by kernel_rfl
set_option maxRecDepth 100000 in
theorem lifted (os : Os) (started : os.Started) (H : Type) (enc : TypeId × Value → H) :
    ReturnsInHanded {} Try.checked os 4 .any (Rows.fnExactConfigAllowedSpec.pre6 enc Try.prog Try.f4 Rows.fnExactConfigAllowedRow.domain false) (Rows.fnExactConfigAllowedSpec.post enc Try.prog Try.f4 false true false false) := by
  refine returnsInHanded_of_change (C := Try.checked) own started (by kernel_rfl) Try.func4
    (ChangeSpec.witness6 (enc := enc) (C := Try.checked) false ⟨#[], #[.agg #[.int .i64 0, .int .i64 0, .int .i64 0, .slice none 0 0, .slice none 0 0, .int .i64 0, .slice none 0 0, .slice none 0 0, .slice none 0 0, .int .i64 0, .int .i64 0, .int .i64 0, .bool false], .slice none 0 0], []⟩ 8 (by kernel_rfl) (by kernel_rfl) (by kernel_rfl) (by kernel_rfl)) ?_
  intro W base args ds gs before hval0 hW hcnd _
  have hval : ∀ (j : Nat) t v, Try.f4.params[j]? = some t → args[j]? = some v → Value.okWide Try.prog W .any base t v := hval0
  have hW' := hW
  obtain ⟨p, q, hA0, hV, rfl, hfz, hnd⟩ := hW
  have hA : DataW.TrodAll enc Try.prog W 0 (fun _ => true) true Try.f4.params.toList args.toList ds p := hA0
  rw [Try.params4] at hA hval
  obtain ⟨v0, vs0, d0, ds0, p0, q0, hargs, rfl, rfl, h0, r0⟩ := trodAll_cons hA
  obtain ⟨v1, vs1, d1, ds1, p1, q1, rfl, rfl, rfl, h1, r1⟩ := trodAll_cons r0
  obtain ⟨rfl, rfl, rfl⟩ := trodAll_nil r1
  obtain rfl : args = #[v0, v1] := by cases args; simp_all
  obtain ⟨rfl, rfl⟩ := trodVars_none hV
  have k0 := h0
  have lt0 : ∀ x ∈ p0, x.block < W.heap.size := by obtain ⟨m, hm⟩ := k0; exact DataW.trod_lt m _ _ _ hm
  obtain ⟨id0, tm0, vo0, ro0, cm0, el0, wt0, up0, lv0, sv0, vv0, nv0, mv0, lg0, st0, vt0, nx0, mt0, rfl, hf0, hz0⟩ := open_node (hval 0 36 v0 rfl rfl) h0
  have k1 := h1
  have lt1 : ∀ x ∈ p1, x.block < W.heap.size := by obtain ⟨m, hm⟩ := k1; exact DataW.trod_lt m _ _ _ hm
  obtain ⟨a1, len1, cap1, rfl⟩ := okWide_slice Try.underlying34 (hval 1 34 v1 rfl rfl)
  obtain ⟨z1, w1⟩ : ∃ zs, IsRow .i64 W a1 len1 cap1 zs := by
    obtain ⟨fuel, hf⟩ := h1
    rcases open_ints Try.underlying34 Try.underlying3 (by kernel_rfl) hf with ⟨hcs, _⟩ | ⟨x, l, c, zs, hcs, _, hl, hm, hz, _, hcell, hwz⟩
    · simp [Value.cells] at hcs
      obtain ⟨rfl, rfl, rfl⟩ := hcs
      exact ⟨[], .inl ⟨rfl, rfl, rfl, rfl⟩⟩
    · simp [Value.cells] at hcs
      obtain ⟨rfl, rfl, rfl⟩ := hcs
      exact ⟨zs, .inr ⟨_, rfl, hl, hm, by simpa using hz, hcell, hwz⟩⟩
  clear hA0 hval0
  refine (walk id0 tm0 vo0 ro0 cm0 el0 wt0 up0 lv0 sv0 vv0 nv0 mv0 lg0 st0 vt0 nx0 mt0 a1 len1 cap1 z1 W hf0 hz0 w1).mono fun e W' ⟨he, bel⟩ => ?_
  subst he
  exact ⟨_, rfl, _, _, _, [], _, [], hW', trodAll_mk1 (shut_bool Try.underlying4 _), (trodAll_cons_mk (Below.trod laidOut (by kernel_rfl) (of_decide_eq_true (by kernel_rfl)) k0 bel lt0) (trodAll_cons_mk (Below.trod laidOut (by kernel_rfl) (of_decide_eq_true (by kernel_rfl)) k1 bel lt1) trodAll_mk0)), rfl, bel.frame _, fun h => by cases h⟩

theorem over : Rows.fnExactConfigAllowedRow.holds Try.pinned (OpenSpec.ofChange Rows.fnExactConfigAllowedSpec) :=
  OpenClaim.holds_of_wide 4 Try.f4 rfl rfl rfl rfl rfl rfl rfl ⟨rfl, rfl, rfl, rfl, rfl⟩ rfl rfl rfl rfl rfl (by kernel_rfl) Try.func4 (by kernel_rfl)
    (of_decide_eq_true (by kernel_rfl)) (by unfold Func.isWrapper; first | (rw [if_pos (by decide +kernel)]; kernel_rfl) | (rw [if_neg (by decide +kernel)]; exact ⟨rfl, rfl⟩))
    (fun os started H enc _ => lifted os started H enc)

end Go.Proofs.Ytafbdjcoimopfaa.fnExactConfigAllowed
namespace Go.Proofs.Ytafbdjcoimopfaa
theorem fnExactConfigAllowed_holds : Rows.FnExactConfigAllowedSaid := fnExactConfigAllowed.over
#print axioms fnExactConfigAllowed_holds
end Go.Proofs.Ytafbdjcoimopfaa
