/- For every node that can be read, laws.FnExactNodeCrash returns true, and the node reads as it did. No condition. (Written by py/lnc.py.) -/
import Derived.Test.YtnklloeialhmkaaNodYt
import Derived.Test.YtnklloeialhmkaaNodS
import Derived.Test.YtnklloeialhmkaaNodT
import Derived.Test.YtnklloeialhmkaaNodE
import Derived.Test.YtnklloeialhmkaaNodK
import Derived.Deep.DeepCutAuto
namespace Go.Proofs.Ytnklloeialhmkaa.fnExactNodeCrash
open Go.ChangeShapes Go.WideShapes Go.ChangeAt Go.RowKit
open Go.ChangeMaps (open_string shut_string)
set_option linter.unusedVariables false

theorem blk {B : Nat} {w : World} {lv sv vv nv mv : Value} {lg : List En} {st vs nx mt : List Int} (h : NoO B w lv sv vv nv mv lg st vs nx mt) (k : Nat) (hk : NoT [lv, sv, vv, nv, mv] k) : B ≤ k ∧ k < w.heap.size := by
  obtain ⟨v, hv, hq⟩ := hk
  simp only [List.mem_cons, List.not_mem_nil, or_false] at hv
  rcases hv with rfl | rfl | rfl | rfl | rfl
  · exact World.ownsRow.lt h.lg k hq
  · exact h.st.lt k hq
  · exact h.vs.lt k hq
  · exact h.nx.lt k hq
  · exact h.mt.lt k hq
theorem keep {T : Nat → Prop} {B : Nat} {w w' : World} {lv sv vv nv mv : Value} {lg : List En} {st vs nx mt : List Int} (h : NoO B w lv sv vv nv mv lg st vs nx mt) (ht : Touch T w w') (hn : ∀ k, NoT [lv, sv, vv, nv, mv] k → ¬ T k) : NoO B w' lv sv vv nv mv lg st vs nx mt :=
  ⟨OwnE.kept h.lg ht (fun k hk => hn k ⟨_, by simp, hk⟩), h.st.kept ht (fun k hk => hn k ⟨sv, by simp, hk⟩), h.vs.kept ht (fun k hk => hn k ⟨vv, by simp, hk⟩), h.nx.kept ht (fun k hk => hn k ⟨nv, by simp, hk⟩), h.mt.kept ht (fun k hk => hn k ⟨mv, by simp, hk⟩), h.ap⟩
theorem small (ok : Bool) (id tm vo wt : Int) (lg : List En) (st vs nx mt : List Int) (hs : NoS lg st vs nx mt) : NoS (ncOut ok id tm vo wt lg st).1.lg (ncOut ok id tm vo wt lg st).1.st (ncOut ok id tm vo wt lg st).1.vs (ncOut ok id tm vo wt lg st).1.nx (ncOut ok id tm vo wt lg st).1.mt := by
  have e : (default : En).d.size = 0 := rfl
  unfold ncOut
  split
  · exact ⟨hs.l0, hs.dt, hs.l1, by simp, by simp, by simp⟩
  · exact ⟨by simp [zeroNo], fun i => by simp [zeroNo, e], by simp [zeroNo], by simp [zeroNo], by simp [zeroNo], by simp [zeroNo]⟩
set_option maxRecDepth 100000 in
set_option maxHeartbeats 16000000 in
theorem walk (id tm vo ro cm el wt : Int) (up : Bool) (lv sv vv nv mv : Value) (lg : List En) (st vs nx mt : List Int) (w : World) (hf : NoR w lv sv vv nv mv lg st vs nx mt) (hz : ∀ i, i < lg.length → (lg.getD i default).d.size ≤ maxLen) :
    Calls Try.prog 8 #[.agg #[.int .i64 id, .int .i64 tm, .int .i64 vo, lv, sv, .int .i64 ro, vv, nv, mv, .int .i64 cm, .int .i64 el, .int .i64 wt, .bool up]] w fun e w' => e = .returned (.bool true) ∧ Below w.heap.size w w' := by
  obtain ⟨la, lc, rfl⟩ := hf.lg.shape
  obtain ⟨sa, sc, rfl⟩ := hf.st.shape
  obtain ⟨va, vc, rfl⟩ := hf.vs.shape
  obtain ⟨na, nc, rfl⟩ := hf.nx.shape
  obtain ⟨ma, mc, rfl⟩ := hf.mt.shape
  have HF := hide hf
  have HZ := hide hz
  clear hf hz
  have B0 := hide ((Below.refl w.heap.size w).alloc (Nat.le_refl _) (.cells #[.int .i64 id, .int .i64 tm, .int .i64 vo, .slice la lg.length lc, .slice sa st.length sc, .int .i64 ro, .slice va vs.length vc, .slice na nx.length nc, .slice ma mt.length mc, .int .i64 cm, .int .i64 el, .int .i64 wt, .bool up] 36))
  have X0 := hide (Blk.new w #[.int .i64 id, .int .i64 tm, .int .i64 vo, .slice la lg.length lc, .slice sa st.length sc, .int .i64 ro, .slice va vs.length vc, .slice na nx.length nc, .slice ma mt.length mc, .int .i64 cm, .int .i64 el, .int .i64 wt, .bool up] 36 w.heap.size rfl)
  go_enter Try.func8, Try.ntmps8
  go_wp2_with fail
  generalize w.alloc (.cells #[.int .i64 id, .int .i64 tm, .int .i64 vo, .slice la lg.length lc, .slice sa st.length sc, .int .i64 ro, .slice va vs.length vc, .slice na nx.length nc, .slice ma mt.length mc, .int .i64 cm, .int .i64 el, .int .i64 wt, .bool up] 36) = w0 at *
  refine (szNode_any id tm vo ro cm el wt up lg st vs nx mt la lc sa sc va vc na nc ma mc 1048576 w0 ((unhide HF).below (unhide B0)) (by omega) (by omega) (unhide HZ)).mono ?_
  rintro e w1 ⟨rfl, hb1⟩
  have K1 := hide ((unhide B0).trans (hb1.mono (unhide B0).size))
  have A1 := hide ((unhide HF).below (unhide K1))
  have XX := (unhide X0).below hb1
  have x0 := XX.cell 0 rfl
  have x1 := XX.cell 1 rfl
  have x2 := XX.cell 2 rfl
  have x3 := XX.cell 3 rfl
  have x4 := XX.cell 4 rfl
  have x5 := XX.cell 5 rfl
  have x6 := XX.cell 6 rfl
  have x7 := XX.cell 7 rfl
  have x8 := XX.cell 8 rfl
  have x9 := XX.cell 9 rfl
  have x10 := XX.cell 10 rfl
  have x11 := XX.cell 11 rfl
  have x12 := XX.cell 12 rfl
  have X1 := hide XX
  clear hb1 B0 X0 XX
  rcases noszR_cases 1048576 (by omega) lg st vs nx mt with hr | ⟨hr, hrl, hsm⟩
  · rw [hr]
    go_wp2_with fail
    go_ret
    exact ⟨rfl, unhide K1⟩
  have HSM := hide hsm
  have HSA := hide (small (nodeB id tm vo ro cm el wt up lg st vs nx mt) id tm vo wt lg st vs nx mt hsm)
  clear hsm
  generalize noszR 1048576 lg st.length vs.length nx.length mt.length = r at *
  go_wp2_with fail
  refine (toNode_any id tm vo ro cm el wt up lg st vs nx mt la lc sa sc va vc na nc ma mc w1 (unhide A1) (unhide HSM)).mono ?_
  rintro e w2 ⟨l2, s2, v2, n2, m2, rfl, hO, hb⟩
  have K2 := hide ((unhide K1).trans (hb.mono (unhide K1).size))
  have X2 := hide ((unhide X1).below hb)
  have HC := hide (specNodeCrash_any id tm vo ro cm el wt up lg st vs nx mt _ _ _ _ _ _ _ _ _ _ w2 hO.read (unhide HSM))
  clear hO hb K1 A1 X1 x0 x1 x2 x3 x4 x5 x6 x7 x8 x9 x10 x11 x12
  go_wp2_with fail
  refine (unhide HC).mono ?_
  clear HC
  have HIM := hide (fun wx (la' : Option Addr) (lc' : Nat) (sa' : Option Addr) (sc' : Nat) (va' : Option Addr) (vc' : Nat) (na' : Option Addr) (nc' : Nat) (ma' : Option Addr) (mc' : Nat) (hx : NoR wx (.slice la' lg.length lc') (.slice sa' st.length sc') (.slice va' vs.length vc') (.slice na' nx.length nc') (.slice ma' mt.length mc') lg st vs nx mt) => implNodeCrash_any id tm vo ro cm el wt up lg st vs nx mt la' lc' sa' sc' va' vc' na' nc' ma' mc' wx hx (unhide HSM))
  obtain ⟨out, hout⟩ : ∃ out, out = ncOut (nodeB id tm vo ro cm el wt up lg st vs nx mt) id tm vo wt lg st := ⟨_, rfl⟩
  rw [← hout] at HSA HIM ⊢
  clear hout
  obtain ⟨⟨id_, tm_, vo_, ro_, cm_, el_, wt_, up_, lg_, st_, vs_, nx_, mt_⟩, cd⟩ := out
  dsimp only at HSA
  rintro e w3 ⟨la3, lc3, sa3, sc3, va3, vc3, na3, nc3, ma3, mc3, rfl, hO, hb⟩
  dsimp only at hO ⊢
  have K3a := (unhide K2).trans (hb.mono (unhide K2).size)
  have BB := (Below.refl w3.heap.size w3).alloc (Nat.le_refl _) (.cells #[.int .i64 id_, .int .i64 tm_, .int .i64 vo_, .slice la3 lg_.length lc3, .slice sa3 st_.length sc3, .int .i64 ro_, .slice va3 vs_.length vc3, .slice na3 nx_.length nc3, .slice ma3 mt_.length mc3, .int .i64 cm_, .int .i64 el_, .int .i64 wt_, .bool up_] 25)
  have bA := hb.trans (BB.mono hb.size)
  have K4 := hide (K3a.alloc K3a.size (.cells #[.int .i64 id_, .int .i64 tm_, .int .i64 vo_, .slice la3 lg_.length lc3, .slice sa3 st_.length sc3, .int .i64 ro_, .slice va3 vs_.length vc3, .slice na3 nx_.length nc3, .slice ma3 mt_.length mc3, .int .i64 cm_, .int .i64 el_, .int .i64 wt_, .bool up_] 25))
  have X4 := (unhide X2).below bA
  have S4 := hide (hO.below BB)
  have SB := hide (blk hO)
  have Q4 := hide (Blk.new w3 #[.int .i64 id_, .int .i64 tm_, .int .i64 vo_, .slice la3 lg_.length lc3, .slice sa3 st_.length sc3, .int .i64 ro_, .slice va3 vs_.length vc3, .slice na3 nx_.length nc3, .slice ma3 mt_.length mc3, .int .i64 cm_, .int .i64 el_, .int .i64 wt_, .bool up_] 25 w3.heap.size rfl)
  have HZ4 : Hid ((w3.alloc (.cells #[.int .i64 id_, .int .i64 tm_, .int .i64 vo_, .slice la3 lg_.length lc3, .slice sa3 st_.length sc3, .int .i64 ro_, .slice va3 vs_.length vc3, .slice na3 nx_.length nc3, .slice ma3 mt_.length mc3, .int .i64 cm_, .int .i64 el_, .int .i64 wt_, .bool up_] 25)).heap.size = w3.heap.size + 1) := hide (by simp)
  have HW3 := hide (And.intro X4.1 (unhide X2).1)
  have HX4 := hide X4
  have x0 := X4.cell 0 rfl
  have x1 := X4.cell 1 rfl
  have x2 := X4.cell 2 rfl
  have x3 := X4.cell 3 rfl
  have x4 := X4.cell 4 rfl
  have x5 := X4.cell 5 rfl
  have x6 := X4.cell 6 rfl
  have x7 := X4.cell 7 rfl
  have x8 := X4.cell 8 rfl
  have x9 := X4.cell 9 rfl
  have x10 := X4.cell 10 rfl
  have x11 := X4.cell 11 rfl
  have x12 := X4.cell 12 rfl
  clear BB bA K3a hO hb K2 X2 X4
  go_wp2_with fail
  generalize w3.alloc (.cells #[.int .i64 id_, .int .i64 tm_, .int .i64 vo_, .slice la3 lg_.length lc3, .slice sa3 st_.length sc3, .int .i64 ro_, .slice va3 vs_.length vc3, .slice na3 nx_.length nc3, .slice ma3 mt_.length mc3, .int .i64 cm_, .int .i64 el_, .int .i64 wt_, .bool up_] 25) = w4 at *
  generalize w3.heap.size = qb at *
  have A4 := hide ((unhide HF).below (unhide K4))
  refine (toNode_any id tm vo ro cm el wt up lg st vs nx mt la lc sa sc va vc na nc ma mc w4 (unhide A4) (unhide HSM)).mono ?_
  rintro e w5 ⟨l4, s4, v4, n4, m4, rfl, hO, hb⟩
  have K5a := (unhide K4).trans (hb.mono (unhide K4).size)
  have BB := (Below.refl w5.heap.size w5).alloc (Nat.le_refl _) (.cells #[.int .i64 id, .int .i64 tm, .int .i64 vo, .slice (some ⟨l4, 0, none⟩) lg.length lg.length, .slice (some ⟨s4, 0, none⟩) st.length st.length, .int .i64 ro, .slice (some ⟨v4, 0, none⟩) vs.length vs.length, .slice (some ⟨n4, 0, none⟩) nx.length nx.length, .slice (some ⟨m4, 0, none⟩) mt.length mt.length, .int .i64 cm, .int .i64 el, .int .i64 wt, .bool up] 25)
  have bA := hb.trans (BB.mono hb.size)
  have K6 := hide (K5a.alloc K5a.size (.cells #[.int .i64 id, .int .i64 tm, .int .i64 vo, .slice (some ⟨l4, 0, none⟩) lg.length lg.length, .slice (some ⟨s4, 0, none⟩) st.length st.length, .int .i64 ro, .slice (some ⟨v4, 0, none⟩) vs.length vs.length, .slice (some ⟨n4, 0, none⟩) nx.length nx.length, .slice (some ⟨m4, 0, none⟩) mt.length mt.length, .int .i64 cm, .int .i64 el, .int .i64 wt, .bool up] 25))
  have S6 := hide ((unhide S4).below bA)
  have Q6 := hide ((unhide Q4).below bA)
  have HX6 := hide ((unhide HX4).below bA)
  have V6 := hide (hO.below BB)
  have VB := hide (blk hO)
  have Y6 := Blk.new w5 #[.int .i64 id, .int .i64 tm, .int .i64 vo, .slice (some ⟨l4, 0, none⟩) lg.length lg.length, .slice (some ⟨s4, 0, none⟩) st.length st.length, .int .i64 ro, .slice (some ⟨v4, 0, none⟩) vs.length vs.length, .slice (some ⟨n4, 0, none⟩) nx.length nx.length, .slice (some ⟨m4, 0, none⟩) mt.length mt.length, .int .i64 cm, .int .i64 el, .int .i64 wt, .bool up] 25 w5.heap.size rfl
  have HY6 := hide Y6
  have HZ6 : Hid ((w5.alloc (.cells #[.int .i64 id, .int .i64 tm, .int .i64 vo, .slice (some ⟨l4, 0, none⟩) lg.length lg.length, .slice (some ⟨s4, 0, none⟩) st.length st.length, .int .i64 ro, .slice (some ⟨v4, 0, none⟩) vs.length vs.length, .slice (some ⟨n4, 0, none⟩) nx.length nx.length, .slice (some ⟨m4, 0, none⟩) mt.length mt.length, .int .i64 cm, .int .i64 el, .int .i64 wt, .bool up] 25)).heap.size = w5.heap.size + 1) := hide (by simp)
  have HW5 := hide hb.size
  have y0 := Y6.cell 0 rfl
  have y1 := Y6.cell 1 rfl
  have y2 := Y6.cell 2 rfl
  have y3 := Y6.cell 3 rfl
  have y4 := Y6.cell 4 rfl
  have y5 := Y6.cell 5 rfl
  have y6 := Y6.cell 6 rfl
  have y7 := Y6.cell 7 rfl
  have y8 := Y6.cell 8 rfl
  have y9 := Y6.cell 9 rfl
  have y10 := Y6.cell 10 rfl
  have y11 := Y6.cell 11 rfl
  have y12 := Y6.cell 12 rfl
  clear BB bA K5a hO hb K4 S4 Q4 HX4 A4 Y6 x0 x1 x2 x3 x4 x5 x6 x7 x8 x9 x10 x11 x12
  have HC0 := hide (fun wx (hx : NoO w4.heap.size wx (.slice (some ⟨l4, 0, none⟩) lg.length lg.length) (.slice (some ⟨s4, 0, none⟩) st.length st.length) (.slice (some ⟨v4, 0, none⟩) vs.length vs.length) (.slice (some ⟨n4, 0, none⟩) nx.length nx.length) (.slice (some ⟨m4, 0, none⟩) mt.length mt.length) lg st vs nx mt) => unhide HIM wx (some ⟨l4, 0, none⟩) lg.length (some ⟨s4, 0, none⟩) st.length (some ⟨v4, 0, none⟩) vs.length (some ⟨n4, 0, none⟩) nx.length (some ⟨m4, 0, none⟩) mt.length hx.read)
  go_wp2_with fail
  generalize w5.alloc (.cells #[.int .i64 id, .int .i64 tm, .int .i64 vo, .slice (some ⟨l4, 0, none⟩) lg.length lg.length, .slice (some ⟨s4, 0, none⟩) st.length st.length, .int .i64 ro, .slice (some ⟨v4, 0, none⟩) vs.length vs.length, .slice (some ⟨n4, 0, none⟩) nx.length nx.length, .slice (some ⟨m4, 0, none⟩) mt.length mt.length, .int .i64 cm, .int .i64 el, .int .i64 wt, .bool up] 25) = w6 at *
  generalize w5.heap.size = yb at *
  refine (unhide HC0 w6 (unhide V6)).mono ?_
  rintro e w7 ⟨la7, lc7, sa7, sc7, va7, vc7, na7, nc7, ma7, mc7, rfl, hO, hb⟩
  dsimp only at hO ⊢
  have K7a := (unhide K6).trans (hb.mono (unhide K6).size)
  have BB := (Below.refl w7.heap.size w7).alloc (Nat.le_refl _) (.cells #[.int .i64 id_, .int .i64 tm_, .int .i64 vo_, .slice la7 lg_.length lc7, .slice sa7 st_.length sc7, .int .i64 ro_, .slice va7 vs_.length vc7, .slice na7 nx_.length nc7, .slice ma7 mt_.length mc7, .int .i64 cm_, .int .i64 el_, .int .i64 wt_, .bool up_] 25)
  have bA := hb.trans (BB.mono hb.size)
  have K8 := hide (K7a.alloc K7a.size (.cells #[.int .i64 id_, .int .i64 tm_, .int .i64 vo_, .slice la7 lg_.length lc7, .slice sa7 st_.length sc7, .int .i64 ro_, .slice va7 vs_.length vc7, .slice na7 nx_.length nc7, .slice ma7 mt_.length mc7, .int .i64 cm_, .int .i64 el_, .int .i64 wt_, .bool up_] 25))
  have S8 := hide ((unhide S6).below bA)
  have Q8 := (unhide Q6).below bA
  have HX8 := hide ((unhide HX6).below bA)
  have V8 := hide ((unhide V6).below bA)
  have HY8 := hide ((unhide HY6).below bA)
  have G8 := hide (hO.below BB)
  have GB := hide (blk hO)
  have Z8 := Blk.new w7 #[.int .i64 id_, .int .i64 tm_, .int .i64 vo_, .slice la7 lg_.length lc7, .slice sa7 st_.length sc7, .int .i64 ro_, .slice va7 vs_.length vc7, .slice na7 nx_.length nc7, .slice ma7 mt_.length mc7, .int .i64 cm_, .int .i64 el_, .int .i64 wt_, .bool up_] 25 w7.heap.size rfl
  have HQ8 := hide Q8
  have HZ8 := hide Z8
  have HW7 := hide hb.size
  have q0 := Q8.cell 0 rfl
  have q1 := Q8.cell 1 rfl
  have q2 := Q8.cell 2 rfl
  have q3 := Q8.cell 3 rfl
  have q4 := Q8.cell 4 rfl
  have q5 := Q8.cell 5 rfl
  have q6 := Q8.cell 6 rfl
  have q7 := Q8.cell 7 rfl
  have q8 := Q8.cell 8 rfl
  have q9 := Q8.cell 9 rfl
  have q10 := Q8.cell 10 rfl
  have q11 := Q8.cell 11 rfl
  have q12 := Q8.cell 12 rfl
  have z0 := Z8.cell 0 rfl
  have z1 := Z8.cell 1 rfl
  have z2 := Z8.cell 2 rfl
  have z3 := Z8.cell 3 rfl
  have z4 := Z8.cell 4 rfl
  have z5 := Z8.cell 5 rfl
  have z6 := Z8.cell 6 rfl
  have z7 := Z8.cell 7 rfl
  have z8 := Z8.cell 8 rfl
  have z9 := Z8.cell 9 rfl
  have z10 := Z8.cell 10 rfl
  have z11 := Z8.cell 11 rfl
  have z12 := Z8.cell 12 rfl
  clear BB bA K7a hO hb K6 S6 Q6 HX6 V6 HY6 Q8 Z8 HC0 y0 y1 y2 y3 y4 y5 y6 y7 y8 y9 y10 y11 y12
  have hcd : (cd == cd) = true := by simp
  go_wp2_with fail
  generalize w7.alloc (.cells #[.int .i64 id_, .int .i64 tm_, .int .i64 vo_, .slice la7 lg_.length lc7, .slice sa7 st_.length sc7, .int .i64 ro_, .slice va7 vs_.length vc7, .slice na7 nx_.length nc7, .slice ma7 mt_.length mc7, .int .i64 cm_, .int .i64 el_, .int .i64 wt_, .bool up_] 25) = w8 at *
  generalize w7.heap.size = zb at *
  refine (eqNode_any id_ tm_ vo_ ro_ cm_ el_ wt_ up_ lg_ st_ vs_ nx_ mt_ la7 lc7 sa7 sc7 va7 vc7 na7 nc7 ma7 mc7 la3 lc3 sa3 sc3 va3 vc3 na3 nc3 ma3 mc3 w8 (unhide G8).read (unhide S8).read (unhide HSA)).mono ?_
  rintro e w9 ⟨rfl, hb⟩
  clear q0 q1 q2 q3 q4 q5 q6 q7 q8 q9 q10 q11 q12 z0 z1 z2 z3 z4 z5 z6 z7 z8 z9 z10 z11 z12
  have S9 := hide ((unhide S8).below hb)
  have V9 := hide ((unhide V8).below hb)
  have G9 := hide ((unhide G8).below hb)
  have HX9 := hide ((unhide HX8).below hb)
  have HY9 := hide ((unhide HY8).below hb)
  have HQ9 := hide ((unhide HQ8).below hb)
  have HZ9 := hide ((unhide HZ8).below hb)
  have K9 := hide ((unhide K8).trans (hb.mono (unhide K8).size))
  clear hb K8 S8 V8 G8 HX8 HY8 HQ8 HZ8
  have A9 := hide ((unhide HF).below (unhide K9))
  go_wp2_with fail
  go_cut [45] (fun s wx => s = .bool false ∧ Below w9.heap.size w9 wx)
  case first =>
    have hb0 := below_drewN (Below.refl w9.heap.size w9) 1
    have V7d := hide ((unhide V9).below hb0)
    have A7d := hide ((unhide A9).below hb0)
    have XX := unhide HX9
    have YY := unhide HY9
    have hzy := YY.1
    have hzx := XX.1
    have x70 := XX.cell 0 rfl
    have x71 := XX.cell 1 rfl
    have x72 := XX.cell 2 rfl
    have x73 := XX.cell 3 rfl
    have x74 := XX.cell 4 rfl
    have x75 := XX.cell 5 rfl
    have x76 := XX.cell 6 rfl
    have x77 := XX.cell 7 rfl
    have x78 := XX.cell 8 rfl
    have x79 := XX.cell 9 rfl
    have x710 := XX.cell 10 rfl
    have x711 := XX.cell 11 rfl
    have x712 := XX.cell 12 rfl
    have y70 := YY.cell 0 rfl
    have y71 := YY.cell 1 rfl
    have y72 := YY.cell 2 rfl
    have y73 := YY.cell 3 rfl
    have y74 := YY.cell 4 rfl
    have y75 := YY.cell 5 rfl
    have y76 := YY.cell 6 rfl
    have y77 := YY.cell 7 rfl
    have y78 := YY.cell 8 rfl
    have y79 := YY.cell 9 rfl
    have y710 := YY.cell 10 rfl
    have y711 := YY.cell 11 rfl
    have y712 := YY.cell 12 rfl
    clear XX YY K9 S9 G9 HX9 HY9 A9 V9 HQ9 HZ9
    go_region_held3 (fun wx => wx.cell? ⟨yb, 0, none⟩ = some (.int .i64 id) ∧ wx.cell? ⟨yb, 1, none⟩ = some (.int .i64 tm) ∧ wx.cell? ⟨yb, 2, none⟩ = some (.int .i64 vo) ∧ wx.cell? ⟨yb, 3, none⟩ = some (.slice (some ⟨l4, 0, none⟩) lg.length lg.length) ∧ wx.cell? ⟨yb, 4, none⟩ = some (.slice (some ⟨s4, 0, none⟩) st.length st.length) ∧ wx.cell? ⟨yb, 5, none⟩ = some (.int .i64 ro) ∧ wx.cell? ⟨yb, 6, none⟩ = some (.slice (some ⟨v4, 0, none⟩) vs.length vs.length) ∧ wx.cell? ⟨yb, 7, none⟩ = some (.slice (some ⟨n4, 0, none⟩) nx.length nx.length) ∧ wx.cell? ⟨yb, 8, none⟩ = some (.slice (some ⟨m4, 0, none⟩) mt.length mt.length) ∧ wx.cell? ⟨yb, 9, none⟩ = some (.int .i64 cm) ∧ wx.cell? ⟨yb, 10, none⟩ = some (.int .i64 el) ∧ wx.cell? ⟨yb, 11, none⟩ = some (.int .i64 wt) ∧ wx.cell? ⟨yb, 12, none⟩ = some (.bool up) ∧ wx.cell? ⟨w.heap.size, 0, none⟩ = some (.int .i64 id) ∧ wx.cell? ⟨w.heap.size, 1, none⟩ = some (.int .i64 tm) ∧ wx.cell? ⟨w.heap.size, 2, none⟩ = some (.int .i64 vo) ∧ wx.cell? ⟨w.heap.size, 3, none⟩ = some (.slice la lg.length lc) ∧ wx.cell? ⟨w.heap.size, 4, none⟩ = some (.slice sa st.length sc) ∧ wx.cell? ⟨w.heap.size, 5, none⟩ = some (.int .i64 ro) ∧ wx.cell? ⟨w.heap.size, 6, none⟩ = some (.slice va vs.length vc) ∧ wx.cell? ⟨w.heap.size, 7, none⟩ = some (.slice na nx.length nc) ∧ wx.cell? ⟨w.heap.size, 8, none⟩ = some (.slice ma mt.length mc) ∧ wx.cell? ⟨w.heap.size, 9, none⟩ = some (.int .i64 cm) ∧ wx.cell? ⟨w.heap.size, 10, none⟩ = some (.int .i64 el) ∧ wx.cell? ⟨w.heap.size, 11, none⟩ = some (.int .i64 wt) ∧ wx.cell? ⟨w.heap.size, 12, none⟩ = some (.bool up))
      (first
        | go_keep
        | exact ⟨(hb8.cell (p := ⟨yb, 0, none⟩) hq7).trans k0, (hb8.cell (p := ⟨yb, 1, none⟩) hq7).trans k1, (hb8.cell (p := ⟨yb, 2, none⟩) hq7).trans k2, (hb8.cell (p := ⟨yb, 3, none⟩) hq7).trans k3, (hb8.cell (p := ⟨yb, 4, none⟩) hq7).trans k4, (hb8.cell (p := ⟨yb, 5, none⟩) hq7).trans k5, (hb8.cell (p := ⟨yb, 6, none⟩) hq7).trans k6, (hb8.cell (p := ⟨yb, 7, none⟩) hq7).trans k7, (hb8.cell (p := ⟨yb, 8, none⟩) hq7).trans k8, (hb8.cell (p := ⟨yb, 9, none⟩) hq7).trans k9, (hb8.cell (p := ⟨yb, 10, none⟩) hq7).trans k10, (hb8.cell (p := ⟨yb, 11, none⟩) hq7).trans k11, (hb8.cell (p := ⟨yb, 12, none⟩) hq7).trans k12, (hb8.cell (p := ⟨w.heap.size, 0, none⟩) hp7).trans k13, (hb8.cell (p := ⟨w.heap.size, 1, none⟩) hp7).trans k14, (hb8.cell (p := ⟨w.heap.size, 2, none⟩) hp7).trans k15, (hb8.cell (p := ⟨w.heap.size, 3, none⟩) hp7).trans k16, (hb8.cell (p := ⟨w.heap.size, 4, none⟩) hp7).trans k17, (hb8.cell (p := ⟨w.heap.size, 5, none⟩) hp7).trans k18, (hb8.cell (p := ⟨w.heap.size, 6, none⟩) hp7).trans k19, (hb8.cell (p := ⟨w.heap.size, 7, none⟩) hp7).trans k20, (hb8.cell (p := ⟨w.heap.size, 8, none⟩) hp7).trans k21, (hb8.cell (p := ⟨w.heap.size, 9, none⟩) hp7).trans k22, (hb8.cell (p := ⟨w.heap.size, 10, none⟩) hp7).trans k23, (hb8.cell (p := ⟨w.heap.size, 11, none⟩) hp7).trans k24, (hb8.cell (p := ⟨w.heap.size, 12, none⟩) hp7).trans k25⟩
        | exact ⟨k0, k1, k2, k3, k4, k5, k6, k7, k8, k9, k10, k11, k12, k13, k14, k15, k16, k17, k18, k19, k20, k21, k22, k23, k24, k25⟩)
      (first
        | (go_at_call 13; refine (eqNode_any id tm vo ro cm el wt up lg st vs nx mt _ _ _ _ _ _ _ _ _ _ _ _ _ _ _ _ _ _ _ _ wA ((unhide V7d).below hb7).read hO7.read (unhide HSM)).mono ?_; rintro e wB ⟨rfl, hb8⟩)
        | (go_at_call 20; refine (toNode_any id tm vo ro cm el wt up lg st vs nx mt la lc sa sc va vc na nc ma mc _ (unhide A7d) (unhide HSM)).mono ?_; rintro e wA ⟨l9, s9, v9, n9, m9, rfl, hO7, hb7⟩; have hq7 : yb < wA.heap.size := Nat.lt_of_lt_of_le hzy hb7.size; have hp7 : w.heap.size < wA.heap.size := Nat.lt_of_lt_of_le hzx hb7.size; have k0 := (hb7.cell (p := ⟨yb, 0, none⟩) hzy).trans y70; have k1 := (hb7.cell (p := ⟨yb, 1, none⟩) hzy).trans y71; have k2 := (hb7.cell (p := ⟨yb, 2, none⟩) hzy).trans y72; have k3 := (hb7.cell (p := ⟨yb, 3, none⟩) hzy).trans y73; have k4 := (hb7.cell (p := ⟨yb, 4, none⟩) hzy).trans y74; have k5 := (hb7.cell (p := ⟨yb, 5, none⟩) hzy).trans y75; have k6 := (hb7.cell (p := ⟨yb, 6, none⟩) hzy).trans y76; have k7 := (hb7.cell (p := ⟨yb, 7, none⟩) hzy).trans y77; have k8 := (hb7.cell (p := ⟨yb, 8, none⟩) hzy).trans y78; have k9 := (hb7.cell (p := ⟨yb, 9, none⟩) hzy).trans y79; have k10 := (hb7.cell (p := ⟨yb, 10, none⟩) hzy).trans y710; have k11 := (hb7.cell (p := ⟨yb, 11, none⟩) hzy).trans y711; have k12 := (hb7.cell (p := ⟨yb, 12, none⟩) hzy).trans y712; have k13 := (hb7.cell (p := ⟨w.heap.size, 0, none⟩) hzx).trans x70; have k14 := (hb7.cell (p := ⟨w.heap.size, 1, none⟩) hzx).trans x71; have k15 := (hb7.cell (p := ⟨w.heap.size, 2, none⟩) hzx).trans x72; have k16 := (hb7.cell (p := ⟨w.heap.size, 3, none⟩) hzx).trans x73; have k17 := (hb7.cell (p := ⟨w.heap.size, 4, none⟩) hzx).trans x74; have k18 := (hb7.cell (p := ⟨w.heap.size, 5, none⟩) hzx).trans x75; have k19 := (hb7.cell (p := ⟨w.heap.size, 6, none⟩) hzx).trans x76; have k20 := (hb7.cell (p := ⟨w.heap.size, 7, none⟩) hzx).trans x77; have k21 := (hb7.cell (p := ⟨w.heap.size, 8, none⟩) hzx).trans x78; have k22 := (hb7.cell (p := ⟨w.heap.size, 9, none⟩) hzx).trans x79; have k23 := (hb7.cell (p := ⟨w.heap.size, 10, none⟩) hzx).trans x710; have k24 := (hb7.cell (p := ⟨w.heap.size, 11, none⟩) hzx).trans x711; have k25 := (hb7.cell (p := ⟨w.heap.size, 12, none⟩) hzx).trans x712))
    all_goals
      have K8_ := hide (hb0.trans ((hb7.mono hb0.size).trans (hb8.mono (Nat.le_trans hb0.size hb7.size))))
      clear hb7 hb8 hO7 hb0
      go_wp2_with fail
      go_meet
      exact ⟨rfl, unhide K8_⟩
  case rest =>
    obtain ⟨rfl, hb⟩ := hcut
    clear A9
    have S10 := hide ((unhide S9).below hb)
    have V10 := hide ((unhide V9).below hb)
    have G10 := hide ((unhide G9).below hb)
    have HX10 := hide ((unhide HX9).below hb)
    have HY10 := hide ((unhide HY9).below hb)
    have HQ10 := hide ((unhide HQ9).below hb)
    have HZ10 := hide ((unhide HZ9).below hb)
    have K10 := hide ((unhide K9).trans (hb.mono (unhide K9).size))
    clear hb K9 S9 V9 G9 HX9 HY9 HQ9 HZ9
    generalize wc = w10 at *
    have y0 := (unhide HY10).cell 0 rfl
    have y1 := (unhide HY10).cell 1 rfl
    have y2 := (unhide HY10).cell 2 rfl
    have y3 := (unhide HY10).cell 3 rfl
    have y4 := (unhide HY10).cell 4 rfl
    have y5 := (unhide HY10).cell 5 rfl
    have y6 := (unhide HY10).cell 6 rfl
    have y7 := (unhide HY10).cell 7 rfl
    have y8 := (unhide HY10).cell 8 rfl
    have y9 := (unhide HY10).cell 9 rfl
    have y10 := (unhide HY10).cell 10 rfl
    have y11 := (unhide HY10).cell 11 rfl
    have y12 := (unhide HY10).cell 12 rfl
    have hy10 := (unhide HY10).1
    have HC := hide (markNode_any id tm vo ro cm el wt up lg st vs nx mt (some ⟨l4, 0, none⟩) lg.length (some ⟨s4, 0, none⟩) st.length (some ⟨v4, 0, none⟩) vs.length (some ⟨n4, 0, none⟩) nx.length (some ⟨m4, 0, none⟩) mt.length lg.length st.length vs.length nx.length mt.length rfl rfl rfl rfl rfl w4.heap.size w10 (unhide V10) (by have := unhide HW5; omega) (unhide HSM))
    go_wp2_with fail
    refine (unhide HC).mono ?_
    rintro e w11 ⟨rfl, hO11, hT⟩
    clear y0 y1 y2 y3 y4 y5 y6 y7 y8 y9 y10 y11 y12 HC hO11
    have vb := unhide VB
    have sb := unhide SB
    have gb := unhide GB
    have z4 := unhide HZ4
    have z6 := unhide HZ6
    have w5_ := unhide HW5
    have w7_ := unhide HW7
    have w3_ := unhide HW3
    have K11 := hide ((unhide K10).trans (hT.below (unhide K10).size (fun k hk e => by have := vb k e; omega)))
    have S11 := hide (keep (unhide S10) hT (fun k hk e => by have := vb k e; have := sb k hk; omega))
    have G11 := hide (keep (unhide G10) hT (fun k hk e => by have := vb k e; have := gb k hk; omega))
    have HQ11 := hide ((unhide HQ10).kept hT (fun e => by have := vb _ e; omega))
    have HZ11 := hide ((unhide HZ10).kept hT (fun e => by have := vb _ e; omega))
    have HX11 := hide ((unhide HX10).kept hT (fun e => by have := vb _ e; omega))
    clear hT vb sb gb z4 z6 w5_ w7_ w3_ hy10 K10 S10 G10 V10 HX10 HY10 HQ10 HZ10
    have hkm0 : ¬ ((((1 + 3 * lg.length + st.length + vs.length + nx.length + mt.length : Nat)) : Int) < 0) := by omega
    generalize (1 + 3 * lg.length + st.length + vs.length + nx.length + mt.length) = mk0 at *
    have q0 := (unhide HQ11).cell 0 rfl
    have q1 := (unhide HQ11).cell 1 rfl
    have q2 := (unhide HQ11).cell 2 rfl
    have q3 := (unhide HQ11).cell 3 rfl
    have q4 := (unhide HQ11).cell 4 rfl
    have q5 := (unhide HQ11).cell 5 rfl
    have q6 := (unhide HQ11).cell 6 rfl
    have q7 := (unhide HQ11).cell 7 rfl
    have q8 := (unhide HQ11).cell 8 rfl
    have q9 := (unhide HQ11).cell 9 rfl
    have q10 := (unhide HQ11).cell 10 rfl
    have q11 := (unhide HQ11).cell 11 rfl
    have q12 := (unhide HQ11).cell 12 rfl
    have z0 := (unhide HZ11).cell 0 rfl
    have z1 := (unhide HZ11).cell 1 rfl
    have z2 := (unhide HZ11).cell 2 rfl
    have z3 := (unhide HZ11).cell 3 rfl
    have z4 := (unhide HZ11).cell 4 rfl
    have z5 := (unhide HZ11).cell 5 rfl
    have z6 := (unhide HZ11).cell 6 rfl
    have z7 := (unhide HZ11).cell 7 rfl
    have z8 := (unhide HZ11).cell 8 rfl
    have z9 := (unhide HZ11).cell 9 rfl
    have z10 := (unhide HZ11).cell 10 rfl
    have z11 := (unhide HZ11).cell 11 rfl
    have z12 := (unhide HZ11).cell 12 rfl
    go_wp2_with fail
    refine (eqNode_any id_ tm_ vo_ ro_ cm_ el_ wt_ up_ lg_ st_ vs_ nx_ mt_ la7 lc7 sa7 sc7 va7 vc7 na7 nc7 ma7 mc7 la3 lc3 sa3 sc3 va3 vc3 na3 nc3 ma3 mc3 w11 (unhide G11).read (unhide S11).read (unhide HSA)).mono ?_
    rintro e w12 ⟨rfl, hb⟩
    clear q0 q1 q2 q3 q4 q5 q6 q7 q8 q9 q10 q11 q12 z0 z1 z2 z3 z4 z5 z6 z7 z8 z9 z10 z11 z12
    have S12 := hide ((unhide S11).below hb)
    have G12 := hide ((unhide G11).below hb)
    have HX12 := hide ((unhide HX11).below hb)
    have HQ12 := hide ((unhide HQ11).below hb)
    have HZ12 := hide ((unhide HZ11).below hb)
    have K12 := hide ((unhide K11).trans (hb.mono (unhide K11).size))
    clear hb K11 S11 G11 HX11 HQ11 HZ11
    have z0 := (unhide HZ12).cell 0 rfl
    have z1 := (unhide HZ12).cell 1 rfl
    have z2 := (unhide HZ12).cell 2 rfl
    have z3 := (unhide HZ12).cell 3 rfl
    have z4 := (unhide HZ12).cell 4 rfl
    have z5 := (unhide HZ12).cell 5 rfl
    have z6 := (unhide HZ12).cell 6 rfl
    have z7 := (unhide HZ12).cell 7 rfl
    have z8 := (unhide HZ12).cell 8 rfl
    have z9 := (unhide HZ12).cell 9 rfl
    have z10 := (unhide HZ12).cell 10 rfl
    have z11 := (unhide HZ12).cell 11 rfl
    have z12 := (unhide HZ12).cell 12 rfl
    have hz12 := (unhide HZ12).1
    have HC := hide (markNode_any id_ tm_ vo_ ro_ cm_ el_ wt_ up_ lg_ st_ vs_ nx_ mt_ la7 lc7 sa7 sc7 va7 vc7 na7 nc7 ma7 mc7 lg_.length st_.length vs_.length nx_.length mt_.length rfl rfl rfl rfl rfl w6.heap.size w12 (unhide G12) (by have := unhide HW7; omega) (unhide HSA))
    go_wp2_with fail
    refine (unhide HC).mono ?_
    rintro e w13 ⟨rfl, hO13, hT⟩
    clear z0 z1 z2 z3 z4 z5 z6 z7 z8 z9 z10 z11 z12 HC
    have sb := unhide SB
    have gb := unhide GB
    have z4 := unhide HZ4
    have z6 := unhide HZ6
    have w5_ := unhide HW5
    have w7_ := unhide HW7
    have w3_ := unhide HW3
    have K13 := hide ((unhide K12).trans (hT.below (unhide K12).size (fun k hk e => by have := gb k e; omega)))
    have S13 := hide (keep (unhide S12) hT (fun k hk e => by have := gb k e; have := sb k hk; omega))
    have HQ13 := hide ((unhide HQ12).kept hT (fun e => by have := gb _ e; omega))
    have HZ13 := hide ((unhide HZ12).kept hT (fun e => by have := gb _ e; omega))
    have HX13 := hide ((unhide HX12).kept hT (fun e => by have := gb _ e; omega))
    have M13 := hide hO13
    clear hT hO13 sb gb z4 z6 w5_ w7_ w3_ hz12 K12 S12 G12 HX12 HQ12 HZ12
    obtain ⟨b0, bd, b1, b2, b3, b4⟩ := unhide HSA
    have HC := hide (heldNode_any id_ tm_ vo_ ro_ cm_ el_ wt_ up_ la7 lc7 sa7 sc7 va7 vc7 na7 nc7 ma7 mc7 lg_.length st_.length vs_.length nx_.length mt_.length w6.heap.size w13 (unhide M13) b0 b1 b2 b3 b4)
    have hkm : ¬ ((((1 + 3 * lg_.length + st_.length + vs_.length + nx_.length + mt_.length : Nat)) : Int) < 0) := by omega
    have HB := hide (And.intro b0 (And.intro b1 (And.intro b2 (And.intro b3 b4))))
    clear b0 bd b1 b2 b3 b4
    generalize hmk : (1 + 3 * lg_.length + st_.length + vs_.length + nx_.length + mt_.length) = mk at *
    have HMK := hide hmk
    clear hmk
    have heq : ((mk : Int) == (mk : Int)) = true := by simp
    have z0 := (unhide HZ13).cell 0 rfl
    have z1 := (unhide HZ13).cell 1 rfl
    have z2 := (unhide HZ13).cell 2 rfl
    have z3 := (unhide HZ13).cell 3 rfl
    have z4 := (unhide HZ13).cell 4 rfl
    have z5 := (unhide HZ13).cell 5 rfl
    have z6 := (unhide HZ13).cell 6 rfl
    have z7 := (unhide HZ13).cell 7 rfl
    have z8 := (unhide HZ13).cell 8 rfl
    have z9 := (unhide HZ13).cell 9 rfl
    have z10 := (unhide HZ13).cell 10 rfl
    have z11 := (unhide HZ13).cell 11 rfl
    have z12 := (unhide HZ13).cell 12 rfl
    go_wp2_with fail
    refine (unhide HC).mono ?_
    rintro e w14 ⟨rfl, hb⟩
    clear HC z0 z1 z2 z3 z4 z5 z6 z7 z8 z9 z10 z11 z12
    have S14 := hide ((unhide S13).below hb)
    have M14 := hide ((unhide M13).below hb)
    have HX14 := hide ((unhide HX13).below hb)
    have HQ14 := hide ((unhide HQ13).below hb)
    have HZ14 := hide ((unhide HZ13).below hb)
    have K14 := hide ((unhide K13).trans (hb.mono (unhide K13).size))
    clear hb K13 S13 M13 HX13 HQ13 HZ13
    have A14 := hide ((unhide HF).below (unhide K14))
    have x0 := (unhide HX14).cell 0 rfl
    have x1 := (unhide HX14).cell 1 rfl
    have x2 := (unhide HX14).cell 2 rfl
    have x3 := (unhide HX14).cell 3 rfl
    have x4 := (unhide HX14).cell 4 rfl
    have x5 := (unhide HX14).cell 5 rfl
    have x6 := (unhide HX14).cell 6 rfl
    have x7 := (unhide HX14).cell 7 rfl
    have x8 := (unhide HX14).cell 8 rfl
    have x9 := (unhide HX14).cell 9 rfl
    have x10 := (unhide HX14).cell 10 rfl
    have x11 := (unhide HX14).cell 11 rfl
    have x12 := (unhide HX14).cell 12 rfl
    go_wp2_with fail
    refine (toNode_any id tm vo ro cm el wt up lg st vs nx mt la lc sa sc va vc na nc ma mc w14 (unhide A14) (unhide HSM)).mono ?_
    rintro e w15 ⟨l15, s15, v15, n15, m15, rfl, hO, hb⟩
    have HC := hide (unhide HIM w15 (some ⟨l15, 0, none⟩) lg.length (some ⟨s15, 0, none⟩) st.length (some ⟨v15, 0, none⟩) vs.length (some ⟨n15, 0, none⟩) nx.length (some ⟨m15, 0, none⟩) mt.length hO.read)
    clear hO A14 x0 x1 x2 x3 x4 x5 x6 x7 x8 x9 x10 x11 x12
    have S15 := hide ((unhide S14).below hb)
    have M15 := hide ((unhide M14).below hb)
    have HQ15 := hide ((unhide HQ14).below hb)
    have HZ15 := hide ((unhide HZ14).below hb)
    have K15 := hide ((unhide K14).trans (hb.mono (unhide K14).size))
    clear hb K14 S14 M14 HQ14 HZ14
    clear HX14
    go_wp2_with fail
    refine (unhide HC).mono ?_
    rintro e w16 ⟨la16, lc16, sa16, sc16, va16, vc16, na16, nc16, ma16, mc16, rfl, hO, hb⟩
    dsimp only at hO ⊢
    clear HC
    have S16 := hide ((unhide S15).below hb)
    have M16 := hide ((unhide M15).below hb)
    have HQ16 := hide ((unhide HQ15).below hb)
    have HZ16 := hide ((unhide HZ15).below hb)
    have K16 := hide ((unhide K15).trans (hb.mono (unhide K15).size))
    clear hb K15 S15 M15 HQ15 HZ15
    have BB := (Below.refl w16.heap.size w16).alloc (Nat.le_refl _) (.cells #[.int .i64 id_, .int .i64 tm_, .int .i64 vo_, .slice la16 lg_.length lc16, .slice sa16 st_.length sc16, .int .i64 ro_, .slice va16 vs_.length vc16, .slice na16 nx_.length nc16, .slice ma16 mt_.length mc16, .int .i64 cm_, .int .i64 el_, .int .i64 wt_, .bool up_] 25)
    have K17 := hide ((unhide K16).alloc (unhide K16).size (.cells #[.int .i64 id_, .int .i64 tm_, .int .i64 vo_, .slice la16 lg_.length lc16, .slice sa16 st_.length sc16, .int .i64 ro_, .slice va16 vs_.length vc16, .slice na16 nx_.length nc16, .slice ma16 mt_.length mc16, .int .i64 cm_, .int .i64 el_, .int .i64 wt_, .bool up_] 25))
    have S17 := hide ((unhide S16).below BB)
    have M17 := hide ((unhide M16).below BB)
    have H17 := hide (hO.below BB)
    have Q17 := (unhide HQ16).below BB
    have HZ17 := hide ((unhide HZ16).below BB)
    have W17 := Blk.new w16 #[.int .i64 id_, .int .i64 tm_, .int .i64 vo_, .slice la16 lg_.length lc16, .slice sa16 st_.length sc16, .int .i64 ro_, .slice va16 vs_.length vc16, .slice na16 nx_.length nc16, .slice ma16 mt_.length mc16, .int .i64 cm_, .int .i64 el_, .int .i64 wt_, .bool up_] 25 w16.heap.size rfl
    have q0 := Q17.cell 0 rfl
    have q1 := Q17.cell 1 rfl
    have q2 := Q17.cell 2 rfl
    have q3 := Q17.cell 3 rfl
    have q4 := Q17.cell 4 rfl
    have q5 := Q17.cell 5 rfl
    have q6 := Q17.cell 6 rfl
    have q7 := Q17.cell 7 rfl
    have q8 := Q17.cell 8 rfl
    have q9 := Q17.cell 9 rfl
    have q10 := Q17.cell 10 rfl
    have q11 := Q17.cell 11 rfl
    have q12 := Q17.cell 12 rfl
    have v0 := W17.cell 0 rfl
    have v1 := W17.cell 1 rfl
    have v2 := W17.cell 2 rfl
    have v3 := W17.cell 3 rfl
    have v4 := W17.cell 4 rfl
    have v5 := W17.cell 5 rfl
    have v6 := W17.cell 6 rfl
    have v7 := W17.cell 7 rfl
    have v8 := W17.cell 8 rfl
    have v9 := W17.cell 9 rfl
    have v10 := W17.cell 10 rfl
    have v11 := W17.cell 11 rfl
    have v12 := W17.cell 12 rfl
    clear BB hO Q17 W17 K16 S16 M16 HQ16 HZ16
    go_wp2_with fail
    generalize w16.alloc (.cells #[.int .i64 id_, .int .i64 tm_, .int .i64 vo_, .slice la16 lg_.length lc16, .slice sa16 st_.length sc16, .int .i64 ro_, .slice va16 vs_.length vc16, .slice na16 nx_.length nc16, .slice ma16 mt_.length mc16, .int .i64 cm_, .int .i64 el_, .int .i64 wt_, .bool up_] 25) = w17 at *
    generalize w16.heap.size = hb_ at *
    refine (eqNode_any id_ tm_ vo_ ro_ cm_ el_ wt_ up_ lg_ st_ vs_ nx_ mt_ la16 lc16 sa16 sc16 va16 vc16 na16 nc16 ma16 mc16 la3 lc3 sa3 sc3 va3 vc3 na3 nc3 ma3 mc3 w17 (unhide H17).read (unhide S17).read (unhide HSA)).mono ?_
    rintro e w18 ⟨rfl, hb⟩
    have K18 := hide ((unhide K17).trans (hb.mono (unhide K17).size))
    have M18 := hide ((unhide M17).below hb)
    have Z18 := (unhide HZ17).below hb
    have z0 := Z18.cell 0 rfl
    have z1 := Z18.cell 1 rfl
    have z2 := Z18.cell 2 rfl
    have z3 := Z18.cell 3 rfl
    have z4 := Z18.cell 4 rfl
    have z5 := Z18.cell 5 rfl
    have z6 := Z18.cell 6 rfl
    have z7 := Z18.cell 7 rfl
    have z8 := Z18.cell 8 rfl
    have z9 := Z18.cell 9 rfl
    have z10 := Z18.cell 10 rfl
    have z11 := Z18.cell 11 rfl
    have z12 := Z18.cell 12 rfl
    clear hb Z18 K17 S17 M17 H17 HZ17 q0 q1 q2 q3 q4 q5 q6 q7 q8 q9 q10 q11 q12 v0 v1 v2 v3 v4 v5 v6 v7 v8 v9 v10 v11 v12
    obtain ⟨b0, b1, b2, b3, b4⟩ := unhide HB
    have HC := hide (heldNode_any id_ tm_ vo_ ro_ cm_ el_ wt_ up_ la7 lc7 sa7 sc7 va7 vc7 na7 nc7 ma7 mc7 lg_.length st_.length vs_.length nx_.length mt_.length w6.heap.size w18 (unhide M18) b0 b1 b2 b3 b4)
    rw [unhide HMK] at HC
    clear b0 b1 b2 b3 b4
    go_wp2_with fail
    refine (unhide HC).mono ?_
    rintro e w19 ⟨rfl, hb⟩
    have K19 := hide ((unhide K18).trans (hb.mono (unhide K18).size))
    clear hb HC K18 M18 z0 z1 z2 z3 z4 z5 z6 z7 z8 z9 z10 z11 z12
    go_wp2_with fail
    go_ret
    exact ⟨rfl, unhide K19⟩

theorem own : ownKnob Try.prog.godebug = none := by kernel_rfl
theorem laidOut : laidOutB Try.prog = true := by kernel_rfl
set_option maxRecDepth 100000 in
theorem lifted (os : Os) (started : os.Started) (H : Type) (enc : TypeId × Value → H) :
    ReturnsInHanded {} Try.checked os 8 .any (Rows.fnExactNodeCrashSpec.pre6 enc Try.prog Try.f8 Rows.fnExactNodeCrashRow.domain false) (Rows.fnExactNodeCrashSpec.post enc Try.prog Try.f8 false true false false) := by
  refine returnsInHanded_of_change (C := Try.checked) own started (by kernel_rfl) Try.func8
    (ChangeSpec.witness6 (enc := enc) (C := Try.checked) false ⟨#[], #[.agg #[.int .i64 0, .int .i64 0, .int .i64 0, .slice none 0 0, .slice none 0 0, .int .i64 0, .slice none 0 0, .slice none 0 0, .slice none 0 0, .int .i64 0, .int .i64 0, .int .i64 0, .bool false]], []⟩ 8 (by kernel_rfl) (by kernel_rfl) (by kernel_rfl) (by kernel_rfl)) ?_
  intro W base args ds gs before hval0 hW hcnd _
  have hval : ∀ (j : Nat) t v, Try.f8.params[j]? = some t → args[j]? = some v → Value.okWide Try.prog W .any base t v := hval0
  have hW' := hW
  obtain ⟨p, q, hA0, hV, rfl, hfz, hnd⟩ := hW
  have hA : DataW.TrodAll enc Try.prog W 0 (fun _ => true) true Try.f8.params.toList args.toList ds p := hA0
  rw [Try.params8] at hA hval
  obtain ⟨v0, vs0, d0, ds0, p0, q0, hargs, rfl, rfl, h0, r0⟩ := trodAll_cons hA
  obtain ⟨rfl, rfl, rfl⟩ := trodAll_nil r0
  obtain rfl : args = #[v0] := by cases args; simp_all
  obtain ⟨rfl, rfl⟩ := trodVars_none hV
  have k0 := h0
  have lt0 : ∀ x ∈ p0, x.block < W.heap.size := by obtain ⟨m, hm⟩ := k0; exact DataW.trod_lt m _ _ _ hm
  obtain ⟨id0, tm0, vo0, ro0, cm0, el0, wt0, up0, lv0, sv0, vv0, nv0, mv0, lg0, st0, vt0, nx0, mt0, rfl, hf0, hz0⟩ := open_node (hval 0 36 v0 rfl rfl) h0
  clear hA0 hval0
  refine (walk id0 tm0 vo0 ro0 cm0 el0 wt0 up0 lv0 sv0 vv0 nv0 mv0 lg0 st0 vt0 nx0 mt0 W hf0 hz0).mono fun e W' ⟨he, bel⟩ => ?_
  subst he
  exact ⟨_, rfl, _, _, _, [], _, [], hW', trodAll_mk1 (shut_bool Try.underlying4 _), (trodAll_cons_mk (Below.trod laidOut (by kernel_rfl) (of_decide_eq_true (by kernel_rfl)) k0 bel lt0) trodAll_mk0), rfl, bel.frame _, fun h => by cases h⟩

theorem over : Rows.fnExactNodeCrashRow.holds Try.pinned (OpenSpec.ofChange Rows.fnExactNodeCrashSpec) :=
  OpenClaim.holds_of_wide 8 Try.f8 rfl rfl rfl rfl rfl rfl rfl ⟨rfl, rfl, rfl, rfl, rfl⟩ rfl rfl rfl rfl rfl (by kernel_rfl) Try.func8 (by kernel_rfl)
    (of_decide_eq_true (by kernel_rfl)) (by unfold Func.isWrapper; first | (rw [if_pos (by decide +kernel)]; kernel_rfl) | (rw [if_neg (by decide +kernel)]; exact ⟨rfl, rfl⟩))
    (fun os started H enc _ => lifted os started H enc)

end Go.Proofs.Ytnklloeialhmkaa.fnExactNodeCrash
namespace Go.Proofs.Ytnklloeialhmkaa
theorem fnExactNodeCrash_holds : Rows.FnExactNodeCrashSaid := fnExactNodeCrash.over
#print axioms fnExactNodeCrash_holds
end Go.Proofs.Ytnklloeialhmkaa
