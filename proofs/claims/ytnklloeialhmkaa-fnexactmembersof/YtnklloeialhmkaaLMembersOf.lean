/- For every node that can be read, laws.FnExactMembersOf returns true, and the node reads as it did. No condition. (Written by py/lmo.py.) -/
import Derived.Test.YtnklloeialhmkaaNodV
import Derived.Test.YtnklloeialhmkaaNodS
import Derived.Test.YtnklloeialhmkaaNodT
import Derived.Test.YtnklloeialhmkaaNodE
import Derived.Test.YtnklloeialhmkaaNodK
import Derived.Deep.DeepCutAuto
namespace Go.Proofs.Ytnklloeialhmkaa.fnExactMembersOf
open Go.ChangeShapes Go.WideShapes Go.ChangeAt Go.RowKit
open Go.ChangeMaps (open_string shut_string)
set_option linter.unusedVariables false

set_option maxRecDepth 100000 in
set_option maxHeartbeats 8000000 in
theorem walk (id tm vo ro cm el wt : Int) (up : Bool) (lv sv vv nv mv : Value) (lg : List En) (st vs nx mt : List Int) (w : World) (hf : NoR w lv sv vv nv mv lg st vs nx mt) (hz : ∀ i, i < lg.length → (lg.getD i default).d.size ≤ maxLen) :
    Calls Try.prog 5 #[.agg #[.int .i64 id, .int .i64 tm, .int .i64 vo, lv, sv, .int .i64 ro, vv, nv, mv, .int .i64 cm, .int .i64 el, .int .i64 wt, .bool up]] w fun e w' => e = .returned (.bool true) ∧ Below w.heap.size w w' := by
  obtain ⟨la, lc, rfl⟩ := hf.lg.shape
  obtain ⟨sa, sc, rfl⟩ := hf.st.shape
  obtain ⟨va, vc, rfl⟩ := hf.vs.shape
  obtain ⟨na, nc, rfl⟩ := hf.nx.shape
  obtain ⟨ma, mc, rfl⟩ := hf.mt.shape
  have HF := hide hf
  have HZ := hide hz
  clear hf hz
  have B0 := hide ((Below.refl w.heap.size w).alloc (Nat.le_refl _) (.cells #[.int .i64 id, .int .i64 tm, .int .i64 vo, .slice la lg.length lc, .slice sa st.length sc, .int .i64 ro, .slice va vs.length vc, .slice na nx.length nc, .slice ma mt.length mc, .int .i64 cm, .int .i64 el, .int .i64 wt, .bool up] 36))
  have X0 := hide (Blk.new w #[.int .i64 id, .int .i64 tm, .int .i64 vo, .slice la lg.length lc, .slice sa st.length sc, .int .i64 ro, .slice va vs.length vc, .slice na nx.length nc, .slice ma mt.length mc, .int .i64 cm, .int .i64 el, .int .i64 wt, .bool up] 36 w.heap.size rfl)
  go_enter Try.func5, Try.ntmps5
  go_wp2_with fail
  generalize w.alloc (.cells #[.int .i64 id, .int .i64 tm, .int .i64 vo, .slice la lg.length lc, .slice sa st.length sc, .int .i64 ro, .slice va vs.length vc, .slice na nx.length nc, .slice ma mt.length mc, .int .i64 cm, .int .i64 el, .int .i64 wt, .bool up] 36) = w0 at *
  refine (szNode_any id tm vo ro cm el wt up lg st vs nx mt la lc sa sc va vc na nc ma mc 1048576 w0 ((unhide HF).below (unhide B0)) (by omega) (by omega) (unhide HZ)).mono ?_
  rintro e w1 ⟨rfl, hb1⟩
  have K1 := hide ((unhide B0).trans (hb1.mono (unhide B0).size))
  have A1 := hide ((unhide HF).below (unhide K1))
  have XX := (unhide X0).below hb1
  have x10 := XX.cell 0 rfl
  have x11 := XX.cell 1 rfl
  have x12 := XX.cell 2 rfl
  have x13 := XX.cell 3 rfl
  have x14 := XX.cell 4 rfl
  have x15 := XX.cell 5 rfl
  have x16 := XX.cell 6 rfl
  have x17 := XX.cell 7 rfl
  have x18 := XX.cell 8 rfl
  have x19 := XX.cell 9 rfl
  have x110 := XX.cell 10 rfl
  have x111 := XX.cell 11 rfl
  have x112 := XX.cell 12 rfl
  have X1 := hide XX
  clear hb1 B0 X0 XX
  rcases noszR_cases 1048576 (by omega) lg st vs nx mt with hr | ⟨hr, hrl, hsm⟩
  · rw [hr]
    go_wp2_with fail
    go_ret
    exact ⟨rfl, unhide K1⟩
  have HSM := hide hsm
  clear hsm
  generalize noszR 1048576 lg st.length vs.length nx.length mt.length = r at *
  go_wp2_with fail
  refine (toNode_any id tm vo ro cm el wt up lg st vs nx mt la lc sa sc va vc na nc ma mc w1 (unhide A1) (unhide HSM)).mono ?_
  rintro e w2 ⟨l2, s2, v2, n2, m2, rfl, hO, hb⟩
  have K2 := hide ((unhide K1).trans (hb.mono (unhide K1).size))
  have A2 := hide ((unhide A1).below hb)
  have XX := (unhide X1).below hb
  clear x10 x11 x12 x13 x14 x15 x16 x17 x18 x19 x110 x111 x112
  have x20 := XX.cell 0 rfl
  have x21 := XX.cell 1 rfl
  have x22 := XX.cell 2 rfl
  have x23 := XX.cell 3 rfl
  have x24 := XX.cell 4 rfl
  have x25 := XX.cell 5 rfl
  have x26 := XX.cell 6 rfl
  have x27 := XX.cell 7 rfl
  have x28 := XX.cell 8 rfl
  have x29 := XX.cell 9 rfl
  have x210 := XX.cell 10 rfl
  have x211 := XX.cell 11 rfl
  have x212 := XX.cell 12 rfl
  have X2 := hide XX
  clear XX K1 A1 X1 
  have V2 := hide hO
  clear hb hO
  go_wp2_with fail
  refine (specMembersOf_any id tm vo ro cm el wt up lg st vs nx mt _ _ _ _ _ _ _ _ _ _ w2 (unhide V2).read (unhide HSM)).mono ?_
  rintro e w3 ⟨vw, rfl, hOw, hb⟩
  have K3 := hide ((unhide K2).trans (hb.mono (unhide K2).size))
  have A3 := hide ((unhide A2).below hb)
  have XX := (unhide X2).below hb
  clear x20 x21 x22 x23 x24 x25 x26 x27 x28 x29 x210 x211 x212
  have x30 := XX.cell 0 rfl
  have x31 := XX.cell 1 rfl
  have x32 := XX.cell 2 rfl
  have x33 := XX.cell 3 rfl
  have x34 := XX.cell 4 rfl
  have x35 := XX.cell 5 rfl
  have x36 := XX.cell 6 rfl
  have x37 := XX.cell 7 rfl
  have x38 := XX.cell 8 rfl
  have x39 := XX.cell 9 rfl
  have x310 := XX.cell 10 rfl
  have x311 := XX.cell 11 rfl
  have x312 := XX.cell 12 rfl
  have X3 := hide XX
  clear XX K2 A2 X2 
  have S3 := hide hOw
  have W3 := hide (show w.heap.size < w3.heap.size ∧ True from ⟨(unhide X3).1, trivial⟩)
  have SL := hide (fun r hr => (hOw.lt r hr))
  clear hb V2 hOw
  go_wp2_with fail
  refine (toNode_any id tm vo ro cm el wt up lg st vs nx mt la lc sa sc va vc na nc ma mc w3 (unhide A3) (unhide HSM)).mono ?_
  rintro e w4 ⟨l4, s4, v4, n4, m4, rfl, hO, hb⟩
  have K4 := hide ((unhide K3).trans (hb.mono (unhide K3).size))
  have A4 := hide ((unhide A3).below hb)
  have XX := (unhide X3).below hb
  have S4 := hide ((unhide S3).below hb)
  clear x30 x31 x32 x33 x34 x35 x36 x37 x38 x39 x310 x311 x312
  have x40 := XX.cell 0 rfl
  have x41 := XX.cell 1 rfl
  have x42 := XX.cell 2 rfl
  have x43 := XX.cell 3 rfl
  have x44 := XX.cell 4 rfl
  have x45 := XX.cell 5 rfl
  have x46 := XX.cell 6 rfl
  have x47 := XX.cell 7 rfl
  have x48 := XX.cell 8 rfl
  have x49 := XX.cell 9 rfl
  have x410 := XX.cell 10 rfl
  have x411 := XX.cell 11 rfl
  have x412 := XX.cell 12 rfl
  have X4 := hide XX
  clear XX K3 A3 X3 S3
  have BB := (Below.refl w4.heap.size w4).alloc (Nat.le_refl _) (.cells #[.int .i64 id, .int .i64 tm, .int .i64 vo, .slice (some ⟨l4, 0, none⟩) lg.length lg.length, .slice (some ⟨s4, 0, none⟩) st.length st.length, .int .i64 ro, .slice (some ⟨v4, 0, none⟩) vs.length vs.length, .slice (some ⟨n4, 0, none⟩) nx.length nx.length, .slice (some ⟨m4, 0, none⟩) mt.length mt.length, .int .i64 cm, .int .i64 el, .int .i64 wt, .bool up] 25)
  have V5 := hide (hO.below BB)
  have VL := hide (And.intro (World.ownsRow.lt hO.lg) (And.intro hO.st.lt (And.intro hO.vs.lt (And.intro hO.nx.lt hO.mt.lt))))
  have Y5 := hide (Blk.new w4 #[.int .i64 id, .int .i64 tm, .int .i64 vo, .slice (some ⟨l4, 0, none⟩) lg.length lg.length, .slice (some ⟨s4, 0, none⟩) st.length st.length, .int .i64 ro, .slice (some ⟨v4, 0, none⟩) vs.length vs.length, .slice (some ⟨n4, 0, none⟩) nx.length nx.length, .slice (some ⟨m4, 0, none⟩) mt.length mt.length, .int .i64 cm, .int .i64 el, .int .i64 wt, .bool up] 25 w4.heap.size rfl)
  have K5 := hide ((unhide K4).trans (BB.mono (unhide K4).size))
  have A5 := hide ((unhide A4).below BB)
  have S5 := hide ((unhide S4).below BB)
  have X5 := hide ((unhide X4).below BB)
  have HY := hide (And.intro (unhide K4).size hb.size)
  have hz5 : (w4.alloc (.cells #[.int .i64 id, .int .i64 tm, .int .i64 vo, .slice (some ⟨l4, 0, none⟩) lg.length lg.length, .slice (some ⟨s4, 0, none⟩) st.length st.length, .int .i64 ro, .slice (some ⟨v4, 0, none⟩) vs.length vs.length, .slice (some ⟨n4, 0, none⟩) nx.length nx.length, .slice (some ⟨m4, 0, none⟩) mt.length mt.length, .int .i64 cm, .int .i64 el, .int .i64 wt, .bool up] 25)).heap.size = w4.heap.size + 1 := by simp
  have HZ5 := hide hz5
  clear hb hO BB K4 A4 S4 X4 hz5
  go_wp2_with fail
  generalize w4.alloc (.cells #[.int .i64 id, .int .i64 tm, .int .i64 vo, .slice (some ⟨l4, 0, none⟩) lg.length lg.length, .slice (some ⟨s4, 0, none⟩) st.length st.length, .int .i64 ro, .slice (some ⟨v4, 0, none⟩) vs.length vs.length, .slice (some ⟨n4, 0, none⟩) nx.length nx.length, .slice (some ⟨m4, 0, none⟩) mt.length mt.length, .int .i64 cm, .int .i64 el, .int .i64 wt, .bool up] 25) = w5 at *
  generalize w4.heap.size = yb at *
  refine (implMembersOf_any id tm vo ro cm el wt up lg st vs nx mt _ _ _ _ _ _ _ _ _ _ w5 (unhide V5).read (unhide HSM)).mono ?_
  rintro e w6 ⟨vg, rfl, hOg, hb⟩
  have K6 := hide ((unhide K5).trans (hb.mono (unhide K5).size))
  have A6 := hide ((unhide A5).below hb)
  have V6 := hide ((unhide V5).below hb)
  have S6 := hide ((unhide S5).below hb)
  have G6 := hide hOg
  have GL := hide (fun r hr => (hOg.lt r hr))
  have X6 := hide ((unhide X5).below hb)
  have Y6 := hide ((unhide Y5).below hb)
  clear x40 x41 x42 x43 x44 x45 x46 x47 x48 x49 x410 x411 x412
  clear hb X5 Y5 K5 A5 V5 S5 hOg
  have hwl : (mbOut (nodeB id tm vo ro cm el wt up lg st vs nx mt) lg st).1.length ≤ 1048576 := by
    rcases Bool.eq_false_or_eq_true (nodeB id tm vo ro cm el wt up lg st vs nx mt) with hok | hok
    · have := mbAt_len lg st (cfg_of_node hok) (by have := node_small hok; omega) lg.length (Nat.le_refl _)
      rw [hok]; show (mbAt lg st lg.length).length ≤ 1048576; omega
    · rw [hok]; simp [mbOut]
  have HOUT : Hid (mbOut (nodeB id tm vo ro cm el wt up lg st vs nx mt) lg st = mbOut (nodeB id tm vo ro cm el wt up lg st vs nx mt) lg st) := hide rfl
  obtain ⟨out, hout⟩ : ∃ out, out = mbOut (nodeB id tm vo ro cm el wt up lg st vs nx mt) lg st := ⟨_, rfl⟩
  rw [← hout] at hwl S6 G6 ⊢
  have HO := hide hout
  clear hout HOUT
  obtain ⟨ws, cd⟩ := out
  dsimp only at hwl S6 G6 ⊢
  have hcd : (cd == cd) = true := by simp
  go_wp2_with fail
  refine (eqIntS_any vg vw ws _ (unhide G6).ints (unhide S6).ints hwl).mono ?_
  rintro e w7 ⟨rfl, n7, hn7⟩
  have hb : Below w6.heap.size w6 w7 := by rw [hn7]; exact below_drewN (Below.refl _ _) n7
  have K7 := hide ((unhide K6).trans (hb.mono (unhide K6).size))
  have A7 := hide ((unhide A6).below hb)
  have V7 := hide ((unhide V6).below hb)
  have S7 := hide ((unhide S6).below hb)
  have G7 := hide ((unhide G6).below hb)
  have X7 := hide ((unhide X6).below hb)
  have Y7 := hide ((unhide Y6).below hb)
  have HB67 := hide hb.size
  clear hb hn7 K6 A6 V6 S6 G6 X6 Y6
  go_wp2_with fail
  go_cut [45] (fun s wx => s = .bool false ∧ Below w7.heap.size w7 wx)
  case first =>
    have hb0 := below_drewN (Below.refl w7.heap.size w7) 1
    have V7d := hide ((unhide V7).below hb0)
    have A7d := hide ((unhide A7).below hb0)
    have XX := unhide X7
    have YY := unhide Y7
    have hzy := YY.1
    have hzx := XX.1
    have x70 := XX.cell 0 rfl
    have y70 := YY.cell 0 rfl
    have x71 := XX.cell 1 rfl
    have y71 := YY.cell 1 rfl
    have x72 := XX.cell 2 rfl
    have y72 := YY.cell 2 rfl
    have x73 := XX.cell 3 rfl
    have y73 := YY.cell 3 rfl
    have x74 := XX.cell 4 rfl
    have y74 := YY.cell 4 rfl
    have x75 := XX.cell 5 rfl
    have y75 := YY.cell 5 rfl
    have x76 := XX.cell 6 rfl
    have y76 := YY.cell 6 rfl
    have x77 := XX.cell 7 rfl
    have y77 := YY.cell 7 rfl
    have x78 := XX.cell 8 rfl
    have y78 := YY.cell 8 rfl
    have x79 := XX.cell 9 rfl
    have y79 := YY.cell 9 rfl
    have x710 := XX.cell 10 rfl
    have y710 := YY.cell 10 rfl
    have x711 := XX.cell 11 rfl
    have y711 := YY.cell 11 rfl
    have x712 := XX.cell 12 rfl
    have y712 := YY.cell 12 rfl
    clear XX YY K7 S7 G7 X7 Y7 A7 V7
    go_region_held3 (fun wx => wx.cell? ⟨yb, 0, none⟩ = some (.int .i64 id) ∧ wx.cell? ⟨yb, 1, none⟩ = some (.int .i64 tm) ∧ wx.cell? ⟨yb, 2, none⟩ = some (.int .i64 vo) ∧ wx.cell? ⟨yb, 3, none⟩ = some (.slice (some ⟨l4, 0, none⟩) lg.length lg.length) ∧ wx.cell? ⟨yb, 4, none⟩ = some (.slice (some ⟨s4, 0, none⟩) st.length st.length) ∧ wx.cell? ⟨yb, 5, none⟩ = some (.int .i64 ro) ∧ wx.cell? ⟨yb, 6, none⟩ = some (.slice (some ⟨v4, 0, none⟩) vs.length vs.length) ∧ wx.cell? ⟨yb, 7, none⟩ = some (.slice (some ⟨n4, 0, none⟩) nx.length nx.length) ∧ wx.cell? ⟨yb, 8, none⟩ = some (.slice (some ⟨m4, 0, none⟩) mt.length mt.length) ∧ wx.cell? ⟨yb, 9, none⟩ = some (.int .i64 cm) ∧ wx.cell? ⟨yb, 10, none⟩ = some (.int .i64 el) ∧ wx.cell? ⟨yb, 11, none⟩ = some (.int .i64 wt) ∧ wx.cell? ⟨yb, 12, none⟩ = some (.bool up) ∧ wx.cell? ⟨w.heap.size, 0, none⟩ = some (.int .i64 id) ∧ wx.cell? ⟨w.heap.size, 1, none⟩ = some (.int .i64 tm) ∧ wx.cell? ⟨w.heap.size, 2, none⟩ = some (.int .i64 vo) ∧ wx.cell? ⟨w.heap.size, 3, none⟩ = some (.slice la lg.length lc) ∧ wx.cell? ⟨w.heap.size, 4, none⟩ = some (.slice sa st.length sc) ∧ wx.cell? ⟨w.heap.size, 5, none⟩ = some (.int .i64 ro) ∧ wx.cell? ⟨w.heap.size, 6, none⟩ = some (.slice va vs.length vc) ∧ wx.cell? ⟨w.heap.size, 7, none⟩ = some (.slice na nx.length nc) ∧ wx.cell? ⟨w.heap.size, 8, none⟩ = some (.slice ma mt.length mc) ∧ wx.cell? ⟨w.heap.size, 9, none⟩ = some (.int .i64 cm) ∧ wx.cell? ⟨w.heap.size, 10, none⟩ = some (.int .i64 el) ∧ wx.cell? ⟨w.heap.size, 11, none⟩ = some (.int .i64 wt) ∧ wx.cell? ⟨w.heap.size, 12, none⟩ = some (.bool up))
      (first
        | go_keep
        | exact ⟨(hb8.cell (p := ⟨yb, 0, none⟩) hq7).trans k0, (hb8.cell (p := ⟨yb, 1, none⟩) hq7).trans k1, (hb8.cell (p := ⟨yb, 2, none⟩) hq7).trans k2, (hb8.cell (p := ⟨yb, 3, none⟩) hq7).trans k3, (hb8.cell (p := ⟨yb, 4, none⟩) hq7).trans k4, (hb8.cell (p := ⟨yb, 5, none⟩) hq7).trans k5, (hb8.cell (p := ⟨yb, 6, none⟩) hq7).trans k6, (hb8.cell (p := ⟨yb, 7, none⟩) hq7).trans k7, (hb8.cell (p := ⟨yb, 8, none⟩) hq7).trans k8, (hb8.cell (p := ⟨yb, 9, none⟩) hq7).trans k9, (hb8.cell (p := ⟨yb, 10, none⟩) hq7).trans k10, (hb8.cell (p := ⟨yb, 11, none⟩) hq7).trans k11, (hb8.cell (p := ⟨yb, 12, none⟩) hq7).trans k12, (hb8.cell (p := ⟨w.heap.size, 0, none⟩) hp7).trans k13, (hb8.cell (p := ⟨w.heap.size, 1, none⟩) hp7).trans k14, (hb8.cell (p := ⟨w.heap.size, 2, none⟩) hp7).trans k15, (hb8.cell (p := ⟨w.heap.size, 3, none⟩) hp7).trans k16, (hb8.cell (p := ⟨w.heap.size, 4, none⟩) hp7).trans k17, (hb8.cell (p := ⟨w.heap.size, 5, none⟩) hp7).trans k18, (hb8.cell (p := ⟨w.heap.size, 6, none⟩) hp7).trans k19, (hb8.cell (p := ⟨w.heap.size, 7, none⟩) hp7).trans k20, (hb8.cell (p := ⟨w.heap.size, 8, none⟩) hp7).trans k21, (hb8.cell (p := ⟨w.heap.size, 9, none⟩) hp7).trans k22, (hb8.cell (p := ⟨w.heap.size, 10, none⟩) hp7).trans k23, (hb8.cell (p := ⟨w.heap.size, 11, none⟩) hp7).trans k24, (hb8.cell (p := ⟨w.heap.size, 12, none⟩) hp7).trans k25⟩
        | exact ⟨k0, k1, k2, k3, k4, k5, k6, k7, k8, k9, k10, k11, k12, k13, k14, k15, k16, k17, k18, k19, k20, k21, k22, k23, k24, k25⟩)
      (first
        | (go_at_call 13; refine (eqNode_any id tm vo ro cm el wt up lg st vs nx mt _ _ _ _ _ _ _ _ _ _ _ _ _ _ _ _ _ _ _ _ wA ((unhide V7d).below hb7).read hO7.read (unhide HSM)).mono ?_; rintro e wB ⟨rfl, hb8⟩)
        | (go_at_call 20; refine (toNode_any id tm vo ro cm el wt up lg st vs nx mt la lc sa sc va vc na nc ma mc _ (unhide A7d) (unhide HSM)).mono ?_; rintro e wA ⟨l7, s7, v7, n7, m7, rfl, hO7, hb7⟩; have hq7 : yb < wA.heap.size := Nat.lt_of_lt_of_le hzy hb7.size; have hp7 : w.heap.size < wA.heap.size := Nat.lt_of_lt_of_le hzx hb7.size; have k0 := (hb7.cell (p := ⟨yb, 0, none⟩) hzy).trans y70; have k1 := (hb7.cell (p := ⟨yb, 1, none⟩) hzy).trans y71; have k2 := (hb7.cell (p := ⟨yb, 2, none⟩) hzy).trans y72; have k3 := (hb7.cell (p := ⟨yb, 3, none⟩) hzy).trans y73; have k4 := (hb7.cell (p := ⟨yb, 4, none⟩) hzy).trans y74; have k5 := (hb7.cell (p := ⟨yb, 5, none⟩) hzy).trans y75; have k6 := (hb7.cell (p := ⟨yb, 6, none⟩) hzy).trans y76; have k7 := (hb7.cell (p := ⟨yb, 7, none⟩) hzy).trans y77; have k8 := (hb7.cell (p := ⟨yb, 8, none⟩) hzy).trans y78; have k9 := (hb7.cell (p := ⟨yb, 9, none⟩) hzy).trans y79; have k10 := (hb7.cell (p := ⟨yb, 10, none⟩) hzy).trans y710; have k11 := (hb7.cell (p := ⟨yb, 11, none⟩) hzy).trans y711; have k12 := (hb7.cell (p := ⟨yb, 12, none⟩) hzy).trans y712; have k13 := (hb7.cell (p := ⟨w.heap.size, 0, none⟩) hzx).trans x70; have k14 := (hb7.cell (p := ⟨w.heap.size, 1, none⟩) hzx).trans x71; have k15 := (hb7.cell (p := ⟨w.heap.size, 2, none⟩) hzx).trans x72; have k16 := (hb7.cell (p := ⟨w.heap.size, 3, none⟩) hzx).trans x73; have k17 := (hb7.cell (p := ⟨w.heap.size, 4, none⟩) hzx).trans x74; have k18 := (hb7.cell (p := ⟨w.heap.size, 5, none⟩) hzx).trans x75; have k19 := (hb7.cell (p := ⟨w.heap.size, 6, none⟩) hzx).trans x76; have k20 := (hb7.cell (p := ⟨w.heap.size, 7, none⟩) hzx).trans x77; have k21 := (hb7.cell (p := ⟨w.heap.size, 8, none⟩) hzx).trans x78; have k22 := (hb7.cell (p := ⟨w.heap.size, 9, none⟩) hzx).trans x79; have k23 := (hb7.cell (p := ⟨w.heap.size, 10, none⟩) hzx).trans x710; have k24 := (hb7.cell (p := ⟨w.heap.size, 11, none⟩) hzx).trans x711; have k25 := (hb7.cell (p := ⟨w.heap.size, 12, none⟩) hzx).trans x712))
    all_goals
      have K8 := hide (hb0.trans ((hb7.mono hb0.size).trans (hb8.mono (Nat.le_trans hb0.size hb7.size))))
      clear hb7 hb8 hO7 hb0
      go_wp2_with fail
      go_meet
      exact ⟨rfl, unhide K8⟩
  case rest =>
    obtain ⟨rfl, hb⟩ := hcut
    have K8 := hide ((unhide K7).trans (hb.mono (unhide K7).size))
    have A8 := hide ((unhide A7).below hb)
    have V8 := hide ((unhide V7).below hb)
    have S8 := hide ((unhide S7).below hb)
    have G8 := hide ((unhide G7).below hb)
    have X8 := hide ((unhide X7).below hb)
    have YY := (unhide Y7).below hb
    have HB78 := hide hb.size
    clear hb K7 A7 V7 S7 G7 X7 Y7
    generalize wc = w8 at *
    have y80 := YY.cell 0 rfl
    have y81 := YY.cell 1 rfl
    have y82 := YY.cell 2 rfl
    have y83 := YY.cell 3 rfl
    have y84 := YY.cell 4 rfl
    have y85 := YY.cell 5 rfl
    have y86 := YY.cell 6 rfl
    have y87 := YY.cell 7 rfl
    have y88 := YY.cell 8 rfl
    have y89 := YY.cell 9 rfl
    have y810 := YY.cell 10 rfl
    have y811 := YY.cell 11 rfl
    have y812 := YY.cell 12 rfl
    have hy8 := YY.1
    clear YY
    have hk8 := (unhide K8).size
    have HC := hide (markNode_any id tm vo ro cm el wt up lg st vs nx mt (some ⟨l4, 0, none⟩) lg.length (some ⟨s4, 0, none⟩) st.length (some ⟨v4, 0, none⟩) vs.length (some ⟨n4, 0, none⟩) nx.length (some ⟨m4, 0, none⟩) mt.length lg.length st.length vs.length nx.length mt.length rfl rfl rfl rfl rfl w3.heap.size w8 (unhide V8) (by have := (unhide HY).2; omega) (unhide HSM))
    go_wp2_with fail
    refine (unhide HC).mono ?_
    rintro e w9 ⟨rfl, hO9, hT⟩
    have vl := unhide VL
    have hy := unhide HY
    have tb : ∀ q, NoT [.slice (some ⟨l4, 0, none⟩) lg.length lg.length, .slice (some ⟨s4, 0, none⟩) st.length st.length, .slice (some ⟨v4, 0, none⟩) vs.length vs.length, .slice (some ⟨n4, 0, none⟩) nx.length nx.length, .slice (some ⟨m4, 0, none⟩) mt.length mt.length] q → w3.heap.size ≤ q ∧ q < yb := fun q hq => by
      obtain ⟨v, hv, hq⟩ := hq
      simp only [List.mem_cons, List.not_mem_nil, or_false] at hv
      rcases hv with rfl | rfl | rfl | rfl | rfl
      · exact vl.1 q hq
      · exact vl.2.1 q hq
      · exact vl.2.2.1 q hq
      · exact vl.2.2.2.1 q hq
      · exact vl.2.2.2.2 q hq
    have hw3 := (unhide W3).1
    have K9 := hide ((unhide K8).trans (hT.below hk8 (fun k hk e => by have := tb k e; omega)))
    have S9 := hide ((unhide S8).kept hT (fun k hk e => by have := tb k e; have := (unhide SL k hk).2; omega))
    have G9 := hide ((unhide G8).kept hT (fun k hk e => by have := tb k e; have := (unhide GL k hk).1; have := unhide HZ5; omega))
    have X9 := hide ((unhide X8).kept hT (fun e => by have := tb _ e; omega))
    have A9 := hide ((unhide HF).below (unhide K9))
    clear hO9 hT K8 S8 G8 X8 A8 V8 HC tb vl hy hw3 y80 y81 y82 y83 y84 y85 y86 y87 y88 y89 y810 y811 y812
    have hkm : ¬ ((((1 + 3 * lg.length + st.length + vs.length + nx.length + mt.length : Nat)) : Int) < 0) := by omega
    generalize (1 + 3 * lg.length + st.length + vs.length + nx.length + mt.length) = mk at *
    go_wp2_with fail
    refine (eqIntS_any vg vw ws _ (unhide G9).ints (unhide S9).ints hwl).mono ?_
    rintro e w10 ⟨rfl, n10, hn⟩
    have hb : Below w9.heap.size w9 w10 := by rw [hn]; exact below_drewN (Below.refl _ _) n10
    have K10 := hide ((unhide K9).trans (hb.mono (unhide K9).size))
    have S10 := hide ((unhide S9).below hb)
    have G10 := hide ((unhide G9).below hb)
    have X10 := hide ((unhide X9).below hb)
    clear hb hn K9 S9 G9 X9 A9
    go_wp2_with fail
    refine (markIntS_any _ vg ws w10 (unhide G10) hwl).mono ?_
    rintro e w11 ⟨rfl, hM, hT⟩
    have hy := unhide HY
    have hw3 := (unhide W3)
    have gl : ∀ k, vg.ownBlock = some k → w5.heap.size ≤ k := fun k hk => (unhide GL k hk).1
    have z5 := unhide HZ5
    have K11 := hide ((unhide K10).trans (hT.below (unhide K10).size (fun k hk e => by have := gl k e; omega)))
    have S11 := hide ((unhide S10).kept hT (fun k hk e => by have := gl k e; have := (unhide SL k hk).2; omega))
    have XX := (unhide X10).kept hT (fun e => by have := gl _ e; omega)
    have x110 := XX.cell 0 rfl
    have x111 := XX.cell 1 rfl
    have x112 := XX.cell 2 rfl
    have x113 := XX.cell 3 rfl
    have x114 := XX.cell 4 rfl
    have x115 := XX.cell 5 rfl
    have x116 := XX.cell 6 rfl
    have x117 := XX.cell 7 rfl
    have x118 := XX.cell 8 rfl
    have x119 := XX.cell 9 rfl
    have x1110 := XX.cell 10 rfl
    have x1111 := XX.cell 11 rfl
    have x1112 := XX.cell 12 rfl
    have M11 := hide hM
    have X11 := hide XX
    have A11 := hide ((unhide HF).below (unhide K11))
    clear XX hM hT K10 S10 G10 X10 hy hw3 gl z5
    go_wp2_with fail
    refine (heldIntS_any _ vg ws.length w11 (unhide M11) hwl).mono ?_
    rintro e w' ⟨rfl, hw'⟩
    have hw2 := hw'.symm
    clear hw'
    subst hw2
    have hne : ¬ ((1 : Int) + (ws.length : Int) < 0) := by omega
    have heq : ((1 : Int) + (ws.length : Int) == 1 + (ws.length : Int)) = true := by simp
    go_wp2_with fail
    refine (toNode_any id tm vo ro cm el wt up lg st vs nx mt la lc sa sc va vc na nc ma mc w11 (unhide A11) (unhide HSM)).mono ?_
    rintro e w12 ⟨l12, s12, v12, n12, m12, rfl, hO, hb⟩
    have K12 := hide ((unhide K11).trans (hb.mono (unhide K11).size))
    have S12 := hide ((unhide S11).below hb)
    have M12 := hide ((unhide M11).below hb)
    have V12 := hide hO
    clear hb hO K11 S11 M11 X11 A11 x110 x111 x112 x113 x114 x115 x116 x117 x118 x119 x1110 x1111 x1112
    go_wp2_with fail
    refine (implMembersOf_any id tm vo ro cm el wt up lg st vs nx mt _ _ _ _ _ _ _ _ _ _ w12 (unhide V12).read (unhide HSM)).mono ?_
    rintro e w13 ⟨vh, rfl, hOh, hb⟩
    rw [← unhide HO] at hOh ⊢
    dsimp only at hOh ⊢
    have K13 := hide ((unhide K12).trans (hb.mono (unhide K12).size))
    have S13 := hide ((unhide S12).below hb)
    have M13 := hide ((unhide M12).below hb)
    have H13 := hide hOh
    clear hb hOh K12 S12 M12 V12
    go_wp2_with fail
    refine (eqIntS_any vh vw ws _ (unhide H13).ints (unhide S13).ints hwl).mono ?_
    rintro e w14 ⟨rfl, n14, hn⟩
    have hb : Below w13.heap.size w13 w14 := by rw [hn]; exact below_drewN (Below.refl _ _) n14
    have K14 := hide ((unhide K13).trans (hb.mono (unhide K13).size))
    have M14 := hide ((unhide M13).below hb)
    clear hb hn K13 S13 M13 H13
    go_wp2_with fail
    refine (heldIntS_any _ vg ws.length w14 (unhide M14) hwl).mono ?_
    rintro e w' ⟨rfl, hw'⟩
    have hw2 := hw'.symm
    clear hw'
    subst hw2
    go_wp2_with fail
    go_ret
    exact ⟨rfl, unhide K14⟩

theorem own : ownKnob Try.prog.godebug = none := by kernel_rfl
theorem laidOut : laidOutB Try.prog = true := by kernel_rfl
set_option maxRecDepth 100000 in
theorem lifted (os : Os) (started : os.Started) (H : Type) (enc : TypeId × Value → H) :
    ReturnsInHanded {} Try.checked os 5 .any (Rows.fnExactMembersOfSpec.pre6 enc Try.prog Try.f5 Rows.fnExactMembersOfRow.domain false) (Rows.fnExactMembersOfSpec.post enc Try.prog Try.f5 false true false false) := by
  refine returnsInHanded_of_change (C := Try.checked) own started (by kernel_rfl) Try.func5
    (ChangeSpec.witness6 (enc := enc) (C := Try.checked) false ⟨#[], #[.agg #[.int .i64 0, .int .i64 0, .int .i64 0, .slice none 0 0, .slice none 0 0, .int .i64 0, .slice none 0 0, .slice none 0 0, .slice none 0 0, .int .i64 0, .int .i64 0, .int .i64 0, .bool false]], []⟩ 8 (by kernel_rfl) (by kernel_rfl) (by kernel_rfl) (by kernel_rfl)) ?_
  intro W base args ds gs before hval0 hW hcnd _
  have hval : ∀ (j : Nat) t v, Try.f5.params[j]? = some t → args[j]? = some v → Value.okWide Try.prog W .any base t v := hval0
  have hW' := hW
  obtain ⟨p, q, hA0, hV, rfl, hfz, hnd⟩ := hW
  have hA : DataW.TrodAll enc Try.prog W 0 (fun _ => true) true Try.f5.params.toList args.toList ds p := hA0
  rw [Try.params5] at hA hval
  obtain ⟨v0, vs0, d0, ds0, p0, q0, hargs, rfl, rfl, h0, r0⟩ := trodAll_cons hA
  obtain ⟨rfl, rfl, rfl⟩ := trodAll_nil r0
  obtain rfl : args = #[v0] := by cases args; simp_all
  obtain ⟨rfl, rfl⟩ := trodVars_none hV
  have k0 := h0
  have lt0 : ∀ x ∈ p0, x.block < W.heap.size := by obtain ⟨m, hm⟩ := k0; exact DataW.trod_lt m _ _ _ hm
  obtain ⟨id0, tm0, vo0, ro0, cm0, el0, wt0, up0, lv0, sv0, vv0, nv0, mv0, lg0, st0, vt0, nx0, mt0, rfl, hf0, hz0⟩ := open_node (hval 0 36 v0 rfl rfl) h0
  clear hA0 hval0
  refine (walk id0 tm0 vo0 ro0 cm0 el0 wt0 up0 lv0 sv0 vv0 nv0 mv0 lg0 st0 vt0 nx0 mt0 W hf0 hz0).mono fun e W' ⟨he, bel⟩ => ?_
  subst he
  exact ⟨_, rfl, _, _, _, [], _, [], hW', trodAll_mk1 (shut_bool Try.underlying4 _), (trodAll_cons_mk (Below.trod laidOut (by kernel_rfl) (of_decide_eq_true (by kernel_rfl)) k0 bel lt0) trodAll_mk0), rfl, bel.frame _, fun h => by cases h⟩

theorem over : Rows.fnExactMembersOfRow.holds Try.pinned (OpenSpec.ofChange Rows.fnExactMembersOfSpec) :=
  OpenClaim.holds_of_wide 5 Try.f5 rfl rfl rfl rfl rfl rfl rfl ⟨rfl, rfl, rfl, rfl, rfl⟩ rfl rfl rfl rfl rfl (by kernel_rfl) Try.func5 (by kernel_rfl)
    (of_decide_eq_true (by kernel_rfl)) (by unfold Func.isWrapper; first | (rw [if_pos (by decide +kernel)]; kernel_rfl) | (rw [if_neg (by decide +kernel)]; exact ⟨rfl, rfl⟩))
    (fun os started H enc _ => lifted os started H enc)

end Go.Proofs.Ytnklloeialhmkaa.fnExactMembersOf
namespace Go.Proofs.Ytnklloeialhmkaa
theorem fnExactMembersOf_holds : Rows.FnExactMembersOfSaid := fnExactMembersOf.over
#print axioms fnExactMembersOf_holds
end Go.Proofs.Ytnklloeialhmkaa
