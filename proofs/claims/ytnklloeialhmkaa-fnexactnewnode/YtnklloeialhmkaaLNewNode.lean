/- For every number and every list of numbers that can be read, laws.FnExactNewNode returns true, and the list reads as it did. No condition. (Written by py/lnn.py.) -/
import Derived.Test.YtnklloeialhmkaaNodX
import Derived.Test.YtnklloeialhmkaaNodE
import Derived.Test.YtnklloeialhmkaaNodK
namespace Go.Proofs.Ytnklloeialhmkaa.fnExactNewNode
open Go.ChangeShapes Go.WideShapes Go.ChangeAt Go.RowKit
open Go.ChangeMaps (open_string shut_string)
set_option linter.unusedVariables false

theorem small (i : Int) (ms : List Int) : NoS (nnOut i ms).1.lg (nnOut i ms).1.st (nnOut i ms).1.vs (nnOut i ms).1.nx (nnOut i ms).1.mt := by
  have e : (default : En).d.size = 0 := rfl
  have z : NoS zeroNo.lg zeroNo.st zeroNo.vs zeroNo.nx zeroNo.mt := ⟨by simp [zeroNo], fun i => by simp [zeroNo, e], by simp [zeroNo], by simp [zeroNo], by simp [zeroNo], by simp [zeroNo]⟩
  unfold nnOut
  by_cases h1 : 4096 < ms.length
  · rw [if_pos h1]; exact z
  rw [if_neg h1]
  split
  · exact ⟨by simp, fun i => by simp [e], by show ms.length ≤ 1048576; omega, by simp, by simp, by simp⟩
  · exact z
set_option maxRecDepth 100000 in
set_option maxHeartbeats 8000000 in
theorem walk (i : Int) (a : Option Addr) (len c : Nat) (zs : List Int) (w : World) (hi : (Lit.int .i64 i).wf = true) (hr : IsRow .i64 w a len c zs) :
    Calls Try.prog 3 #[.int .i64 i, .slice a len c] w fun e w' => e = .returned (.bool true) ∧ Below w.heap.size w w' := by
  have hI := ints_of_row hr
  have hlm : (zs.take len).length = len := by obtain ⟨_, _, e, _⟩ := hI; simp only [Value.slice.injEq] at e; exact e.2.1.symm
  have hmx : len ≤ maxLen := by obtain ⟨_, _, e, h2, _⟩ := hI; rw [hlm] at h2; exact h2
  generalize zs.take len = ms at *
  subst hlm
  clear hr hi
  unfold maxLen at hmx
  by_cases hl : ms.length ≤ 1048576
  case neg =>
    have hl2 : (1048576 : Int) < (ms.length : Int) := by omega
    go_enter Try.func3, Try.ntmps3
    go_wp2_with fail
    go_ret
    exact ⟨rfl, Below.refl _ _⟩
  have hl2 : ¬ (1048576 : Int) < (ms.length : Int) := by omega
  have HI := hide hI
  have HSM := hide (small i ms)
  clear hI
  go_enter Try.func3, Try.ntmps3
  go_wp2_with fail
  refine (toIntS_at _ ms w (unhide HI) hl).mono ?_
  rintro e w1 ⟨rfl, hO1, hb1⟩
  have K1 := hide hb1
  have I1 := hide ((unhide HI).below hb1)
  have HC := hide (specNewNode_any i (some ⟨w.heap.size, 0, none⟩) ms.length ms w1 hO1.ints hl)
  clear hO1 hb1
  go_wp2_with fail
  refine (unhide HC).mono ?_
  clear HC
  have HOUT : Hid (nnOut i ms = nnOut i ms) := hide rfl
  obtain ⟨out, hout⟩ : ∃ out, out = nnOut i ms := ⟨_, rfl⟩
  have HIM := hide (fun (a' : Option Addr) (c' : Nat) wx (hx : Ints wx (.slice a' ms.length c') ms) => implNewNode_any i a' c' ms wx hx hl)
  rw [← hout] at HSM HIM ⊢
  clear hout HOUT
  obtain ⟨⟨id, tm, vo, ro, cm, el, wt, up, lg, st, vs, nx, mt⟩, cd⟩ := out
  dsimp only at HSM
  rintro e w2 ⟨la2, lc2, sa2, sc2, va2, vc2, na2, nc2, ma2, mc2, rfl, hO2, hb2⟩
  dsimp only at hO2 ⊢
  have hk1 := (unhide K1).size
  have K2a := (unhide K1).trans (hb2.mono hk1)
  have hk2 := K2a.size
  have BB := (Below.refl w2.heap.size w2).alloc (Nat.le_refl _) (.cells #[.int .i64 id, .int .i64 tm, .int .i64 vo, .slice la2 lg.length lc2, .slice sa2 st.length sc2, .int .i64 ro, .slice va2 vs.length vc2, .slice na2 nx.length nc2, .slice ma2 mt.length mc2, .int .i64 cm, .int .i64 el, .int .i64 wt, .bool up] 25)
  have K2 := hide (K2a.alloc hk2 (.cells #[.int .i64 id, .int .i64 tm, .int .i64 vo, .slice la2 lg.length lc2, .slice sa2 st.length sc2, .int .i64 ro, .slice va2 vs.length vc2, .slice na2 nx.length nc2, .slice ma2 mt.length mc2, .int .i64 cm, .int .i64 el, .int .i64 wt, .bool up] 25))
  have S2 := hide (hO2.below BB)
  have SL := hide (And.intro (World.ownsRow.lt hO2.lg) (And.intro hO2.st.lt (And.intro hO2.vs.lt (And.intro hO2.nx.lt hO2.mt.lt))))
  have X2 := hide (Blk.new w2 #[.int .i64 id, .int .i64 tm, .int .i64 vo, .slice la2 lg.length lc2, .slice sa2 st.length sc2, .int .i64 ro, .slice va2 vs.length vc2, .slice na2 nx.length nc2, .slice ma2 mt.length mc2, .int .i64 cm, .int .i64 el, .int .i64 wt, .bool up] 25 w2.heap.size rfl)
  have I2 := hide ((unhide HI).below (unhide K2))
  have hz2 : (w2.alloc (.cells #[.int .i64 id, .int .i64 tm, .int .i64 vo, .slice la2 lg.length lc2, .slice sa2 st.length sc2, .int .i64 ro, .slice va2 vs.length vc2, .slice na2 nx.length nc2, .slice ma2 mt.length mc2, .int .i64 cm, .int .i64 el, .int .i64 wt, .bool up] 25)).heap.size = w2.heap.size + 1 := by simp
  have HZ2 := hide hz2
  clear BB K2a hO2 hb2 hk2 hz2 I1
  go_wp2_with fail
  generalize w2.alloc (.cells #[.int .i64 id, .int .i64 tm, .int .i64 vo, .slice la2 lg.length lc2, .slice sa2 st.length sc2, .int .i64 ro, .slice va2 vs.length vc2, .slice na2 nx.length nc2, .slice ma2 mt.length mc2, .int .i64 cm, .int .i64 el, .int .i64 wt, .bool up] 25) = w3 at *
  generalize w2.heap.size = xb at *
  refine (toIntS_at _ ms w3 (unhide I2) hl).mono ?_
  rintro e w4 ⟨rfl, hO4, hb4⟩
  have hk3 := (unhide K2).size
  have K4 := hide ((unhide K2).trans (hb4.mono hk3))
  have S4 := hide ((unhide S2).below hb4)
  have X4 := hide ((unhide X2).below hb4)
  have Z4 := hide hO4
  have HZ4 := hide (And.intro hb4.size (hO4.lt w3.heap.size rfl).2)
  have W3 := hide hk3
  have I4 := hide ((unhide HI).below (unhide K4))
  have HC := hide (unhide HIM (some ⟨w3.heap.size, 0, none⟩) ms.length w4 hO4.ints)
  clear hO4 hb4 K2 S2 X2 I2
  go_wp2_with fail
  refine (unhide HC).mono ?_
  rintro e w5 ⟨la5, lc5, sa5, sc5, va5, vc5, na5, nc5, ma5, mc5, rfl, hO5, hb5⟩
  dsimp only at hO5 ⊢
  have hk4 := (unhide K4).size
  have K5a := (unhide K4).trans (hb5.mono hk4)
  have BB := (Below.refl w5.heap.size w5).alloc (Nat.le_refl _) (.cells #[.int .i64 id, .int .i64 tm, .int .i64 vo, .slice la5 lg.length lc5, .slice sa5 st.length sc5, .int .i64 ro, .slice va5 vs.length vc5, .slice na5 nx.length nc5, .slice ma5 mt.length mc5, .int .i64 cm, .int .i64 el, .int .i64 wt, .bool up] 25)
  have b5 := hb5.trans (BB.mono hb5.size)
  have K6 := hide (K5a.alloc K5a.size (.cells #[.int .i64 id, .int .i64 tm, .int .i64 vo, .slice la5 lg.length lc5, .slice sa5 st.length sc5, .int .i64 ro, .slice va5 vs.length vc5, .slice na5 nx.length nc5, .slice ma5 mt.length mc5, .int .i64 cm, .int .i64 el, .int .i64 wt, .bool up] 25))
  have S6 := hide ((unhide S4).below b5)
  have Z6 := hide ((unhide Z4).below b5)
  have G6 := hide (hO5.below BB)
  have GL := hide (And.intro (World.ownsRow.lt hO5.lg) (And.intro hO5.st.lt (And.intro hO5.vs.lt (And.intro hO5.nx.lt hO5.mt.lt))))
  have X6 := (unhide X4).below b5
  have Y6 := Blk.new w5 #[.int .i64 id, .int .i64 tm, .int .i64 vo, .slice la5 lg.length lc5, .slice sa5 st.length sc5, .int .i64 ro, .slice va5 vs.length vc5, .slice na5 nx.length nc5, .slice ma5 mt.length mc5, .int .i64 cm, .int .i64 el, .int .i64 wt, .bool up] 25 w5.heap.size rfl
  have HX6 := hide X6
  have HY6 := hide Y6
  have HZ5 := hide hb5.size
  have YB := hide (show w3.heap.size < w5.heap.size by have := (unhide HZ4).2; have := hb5.size; omega)
  have x0 := X6.cell 0 rfl
  have y0 := Y6.cell 0 rfl
  have x1 := X6.cell 1 rfl
  have y1 := Y6.cell 1 rfl
  have x2 := X6.cell 2 rfl
  have y2 := Y6.cell 2 rfl
  have x3 := X6.cell 3 rfl
  have y3 := Y6.cell 3 rfl
  have x4 := X6.cell 4 rfl
  have y4 := Y6.cell 4 rfl
  have x5 := X6.cell 5 rfl
  have y5 := Y6.cell 5 rfl
  have x6 := X6.cell 6 rfl
  have y6 := Y6.cell 6 rfl
  have x7 := X6.cell 7 rfl
  have y7 := Y6.cell 7 rfl
  have x8 := X6.cell 8 rfl
  have y8 := Y6.cell 8 rfl
  have x9 := X6.cell 9 rfl
  have y9 := Y6.cell 9 rfl
  have x10 := X6.cell 10 rfl
  have y10 := Y6.cell 10 rfl
  have x11 := X6.cell 11 rfl
  have y11 := Y6.cell 11 rfl
  have x12 := X6.cell 12 rfl
  have y12 := Y6.cell 12 rfl
  clear BB b5 K5a hO5 hb5 K4 S4 X4 Z4 I4 HC X6 Y6 hk4 hk3 hk1
  have hcd : (cd == cd) = true := by simp
  go_wp2_with fail
  generalize w5.alloc (.cells #[.int .i64 id, .int .i64 tm, .int .i64 vo, .slice la5 lg.length lc5, .slice sa5 st.length sc5, .int .i64 ro, .slice va5 vs.length vc5, .slice na5 nx.length nc5, .slice ma5 mt.length mc5, .int .i64 cm, .int .i64 el, .int .i64 wt, .bool up] 25) = w6 at *
  generalize w5.heap.size = yb at *
  refine (eqNode_any id tm vo ro cm el wt up lg st vs nx mt la5 lc5 sa5 sc5 va5 vc5 na5 nc5 ma5 mc5 la2 lc2 sa2 sc2 va2 vc2 na2 nc2 ma2 mc2 w6 (unhide G6).read (unhide S6).read (unhide HSM)).mono ?_
  rintro e w7 ⟨rfl, hb⟩
  clear x0 y0 x1 y1 x2 y2 x3 y3 x4 y4 x5 y5 x6 y6 x7 y7 x8 y8 x9 y9 x10 y10 x11 y11 x12 y12
  have S7 := hide ((unhide S6).below hb)
  have Z7 := hide ((unhide Z6).below hb)
  have G7 := hide ((unhide G6).below hb)
  have K7 := hide ((unhide K6).trans (hb.mono (unhide K6).size))
  have HX7 := hide ((unhide HX6).below hb)
  have HY7 := hide ((unhide HY6).below hb)
  clear hb S6 Z6 G6 K6 HX6 HY6
  have I7 := hide ((unhide HI).below (unhide K7))
  go_wp2_with fail
  refine (toIntS_at _ ms w7 (unhide I7) hl).mono ?_
  rintro e w8 ⟨rfl, hO8, hb⟩
  have S8 := hide ((unhide S7).below hb)
  have Z8 := hide ((unhide Z7).below hb)
  have G8 := hide ((unhide G7).below hb)
  have K8 := hide ((unhide K7).trans (hb.mono (unhide K7).size))
  have HX8 := hide ((unhide HX7).below hb)
  have HY8 := hide ((unhide HY7).below hb)
  clear hb S7 Z7 G7 K7 HX7 HY7
  have HC := hide (eqIntS_any (.slice (some ⟨w3.heap.size, 0, none⟩) ms.length ms.length) _ ms w8 (unhide Z8).ints hO8.ints hl)
  clear hO8 I7
  go_wp2_with fail
  refine (unhide HC).mono ?_
  rintro e w9 ⟨rfl, n9, hn⟩
  have hb : Below w8.heap.size w8 w9 := by rw [hn]; exact below_drewN (Below.refl _ _) n9
  clear hn HC
  have S9 := hide ((unhide S8).below hb)
  have Z9 := hide ((unhide Z8).below hb)
  have G9 := hide ((unhide G8).below hb)
  have K9 := hide ((unhide K8).trans (hb.mono (unhide K8).size))
  have HX9 := hide ((unhide HX8).below hb)
  have HY9 := hide ((unhide HY8).below hb)
  clear hb S8 Z8 G8 K8 HX8 HY8
  go_wp2_with fail
  refine (markIntS_any _ _ ms w9 (unhide Z9) hl).mono ?_
  rintro e w10 ⟨rfl, hM, hT⟩
  have z4 := unhide HZ4
  have sl := unhide SL
  have gl := unhide GL
  have z2 := unhide HZ2
  have z5 := unhide HZ5
  have tz : ∀ q, (Value.slice (some ⟨w3.heap.size, 0, none⟩) ms.length ms.length).ownBlock = some q → q = w3.heap.size := fun q h => by simp [Value.ownBlock] at h; omega
  have hk9 := (unhide K9).size
  have hx9 := (unhide HX9).1
  have K10 := hide ((unhide K9).trans (hT.below hk9 (fun k hk e => by have := tz k e; have := unhide W3; omega)))
  have X10 := (unhide HX9).kept hT (fun e => by have := tz _ e; omega)
  have Y10 := (unhide HY9).kept hT (fun e => by have := tz _ e; have := unhide YB; omega)
  have S10 := hide (show NoO w1.heap.size w10 (.slice la2 lg.length lc2) (.slice sa2 st.length sc2) (.slice va2 vs.length vc2) (.slice na2 nx.length nc2) (.slice ma2 mt.length mc2) lg st vs nx mt from ⟨OwnE.kept (unhide S9).lg hT (fun k hk e => by have := tz k e; have := (sl.1 k hk).2; omega), (unhide S9).st.kept hT (fun k hk e => by have := tz k e; have := (sl.2.1 k hk).2; omega), (unhide S9).vs.kept hT (fun k hk e => by have := tz k e; have := (sl.2.2.1 k hk).2; omega), (unhide S9).nx.kept hT (fun k hk e => by have := tz k e; have := (sl.2.2.2.1 k hk).2; omega), (unhide S9).mt.kept hT (fun k hk e => by have := tz k e; have := (sl.2.2.2.2 k hk).2; omega), (unhide S9).ap⟩)
  have G10 := hide (show NoO w4.heap.size w10 (.slice la5 lg.length lc5) (.slice sa5 st.length sc5) (.slice va5 vs.length vc5) (.slice na5 nx.length nc5) (.slice ma5 mt.length mc5) lg st vs nx mt from ⟨OwnE.kept (unhide G9).lg hT (fun k hk e => by have := tz k e; have := (gl.1 k hk).1; omega), (unhide G9).st.kept hT (fun k hk e => by have := tz k e; have := (gl.2.1 k hk).1; omega), (unhide G9).vs.kept hT (fun k hk e => by have := tz k e; have := (gl.2.2.1 k hk).1; omega), (unhide G9).nx.kept hT (fun k hk e => by have := tz k e; have := (gl.2.2.2.1 k hk).1; omega), (unhide G9).mt.kept hT (fun k hk e => by have := tz k e; have := (gl.2.2.2.2 k hk).1; omega), (unhide G9).ap⟩)
  have HX10 := hide X10
  have HY10 := hide Y10
  have x0 := X10.cell 0 rfl
  have y0 := Y10.cell 0 rfl
  have x1 := X10.cell 1 rfl
  have y1 := Y10.cell 1 rfl
  have x2 := X10.cell 2 rfl
  have y2 := Y10.cell 2 rfl
  have x3 := X10.cell 3 rfl
  have y3 := Y10.cell 3 rfl
  have x4 := X10.cell 4 rfl
  have y4 := Y10.cell 4 rfl
  have x5 := X10.cell 5 rfl
  have y5 := Y10.cell 5 rfl
  have x6 := X10.cell 6 rfl
  have y6 := Y10.cell 6 rfl
  have x7 := X10.cell 7 rfl
  have y7 := Y10.cell 7 rfl
  have x8 := X10.cell 8 rfl
  have y8 := Y10.cell 8 rfl
  have x9 := X10.cell 9 rfl
  have y9 := Y10.cell 9 rfl
  have x10 := X10.cell 10 rfl
  have y10 := Y10.cell 10 rfl
  have x11 := X10.cell 11 rfl
  have y11 := Y10.cell 11 rfl
  have x12 := X10.cell 12 rfl
  have y12 := Y10.cell 12 rfl
  clear hM hT z4 sl gl z2 z5 tz hk9 hx9 X10 Y10 K9 S9 Z9 G9 HX9 HY9
  have hne : ¬ ((1 : Int) + (ms.length : Int) < 0) := by omega
  go_wp2_with fail
  refine (eqNode_any id tm vo ro cm el wt up lg st vs nx mt la5 lc5 sa5 sc5 va5 vc5 na5 nc5 ma5 mc5 la2 lc2 sa2 sc2 va2 vc2 na2 nc2 ma2 mc2 w10 (unhide G10).read (unhide S10).read (unhide HSM)).mono ?_
  rintro e w11 ⟨rfl, hb⟩
  clear x0 y0 x1 y1 x2 y2 x3 y3 x4 y4 x5 y5 x6 y6 x7 y7 x8 y8 x9 y9 x10 y10 x11 y11 x12 y12
  have S11 := hide ((unhide S10).below hb)
  have G11 := hide ((unhide G10).below hb)
  have K11 := hide ((unhide K10).trans (hb.mono (unhide K10).size))
  have HX11 := hide ((unhide HX10).below hb)
  have HY11 := hide ((unhide HY10).below hb)
  clear hb S10 G10 K10 HX10 HY10
  have y0 := (unhide HY11).cell 0 rfl
  have y1 := (unhide HY11).cell 1 rfl
  have y2 := (unhide HY11).cell 2 rfl
  have y3 := (unhide HY11).cell 3 rfl
  have y4 := (unhide HY11).cell 4 rfl
  have y5 := (unhide HY11).cell 5 rfl
  have y6 := (unhide HY11).cell 6 rfl
  have y7 := (unhide HY11).cell 7 rfl
  have y8 := (unhide HY11).cell 8 rfl
  have y9 := (unhide HY11).cell 9 rfl
  have y10 := (unhide HY11).cell 10 rfl
  have y11 := (unhide HY11).cell 11 rfl
  have y12 := (unhide HY11).cell 12 rfl
  have HC := hide (markNode_any id tm vo ro cm el wt up lg st vs nx mt la5 lc5 sa5 sc5 va5 vc5 na5 nc5 ma5 mc5 lg.length st.length vs.length nx.length mt.length rfl rfl rfl rfl rfl w4.heap.size w11 (unhide G11) (by have := (unhide HY11).1; have := unhide HZ5; omega) (unhide HSM))
  go_wp2_with fail
  refine (unhide HC).mono ?_
  rintro e w12 ⟨rfl, hO12, hT⟩
  clear y0 y1 y2 y3 y4 y5 y6 y7 y8 y9 y10 y11 y12
  have sl := unhide SL
  have gl := unhide GL
  have z4 := unhide HZ4
  have z2 := unhide HZ2
  have tb : ∀ q, NoT [.slice la5 lg.length lc5, .slice sa5 st.length sc5, .slice va5 vs.length vc5, .slice na5 nx.length nc5, .slice ma5 mt.length mc5] q → w4.heap.size ≤ q ∧ q < yb := fun q hq => by
    obtain ⟨v, hv, hq⟩ := hq
    simp only [List.mem_cons, List.not_mem_nil, or_false] at hv
    rcases hv with rfl | rfl | rfl | rfl | rfl
    · exact gl.1 q hq
    · exact gl.2.1 q hq
    · exact gl.2.2.1 q hq
    · exact gl.2.2.2.1 q hq
    · exact gl.2.2.2.2 q hq
  have hw3 := unhide W3
  have K12 := hide ((unhide K11).trans (hT.below (unhide K11).size (fun k hk e => by have := tb k e; omega)))
  have HX12 := hide ((unhide HX11).kept hT (fun e => by have := tb _ e; omega))
  have Y12 := (unhide HY11).kept hT (fun e => by have := tb _ e; omega)
  have S12 := hide (show NoO w1.heap.size w12 (.slice la2 lg.length lc2) (.slice sa2 st.length sc2) (.slice va2 vs.length vc2) (.slice na2 nx.length nc2) (.slice ma2 mt.length mc2) lg st vs nx mt from ⟨OwnE.kept (unhide S11).lg hT (fun k hk e => by have := tb k e; have := (sl.1 k hk).2; omega), (unhide S11).st.kept hT (fun k hk e => by have := tb k e; have := (sl.2.1 k hk).2; omega), (unhide S11).vs.kept hT (fun k hk e => by have := tb k e; have := (sl.2.2.1 k hk).2; omega), (unhide S11).nx.kept hT (fun k hk e => by have := tb k e; have := (sl.2.2.2.1 k hk).2; omega), (unhide S11).mt.kept hT (fun k hk e => by have := tb k e; have := (sl.2.2.2.2 k hk).2; omega), (unhide S11).ap⟩)
  have M12 := hide hO12
  have HY12 := hide Y12
  have y0 := Y12.cell 0 rfl
  have y1 := Y12.cell 1 rfl
  have y2 := Y12.cell 2 rfl
  have y3 := Y12.cell 3 rfl
  have y4 := Y12.cell 4 rfl
  have y5 := Y12.cell 5 rfl
  have y6 := Y12.cell 6 rfl
  have y7 := Y12.cell 7 rfl
  have y8 := Y12.cell 8 rfl
  have y9 := Y12.cell 9 rfl
  have y10 := Y12.cell 10 rfl
  have y11 := Y12.cell 11 rfl
  have y12 := Y12.cell 12 rfl
  clear hO12 hT sl gl z4 z2 tb hw3 Y12 K11 S11 G11 HX11 HY11 HC
  obtain ⟨b0, bd, b1, b2, b3, b4⟩ := unhide HSM
  have HC := hide (heldNode_any id tm vo ro cm el wt up la5 lc5 sa5 sc5 va5 vc5 na5 nc5 ma5 mc5 lg.length st.length vs.length nx.length mt.length w4.heap.size w12 (unhide M12) b0 b1 b2 b3 b4)
  have hkm : ¬ ((((1 + 3 * lg.length + st.length + vs.length + nx.length + mt.length : Nat)) : Int) < 0) := by omega
  have HB := hide (And.intro b0 (And.intro b1 (And.intro b2 (And.intro b3 b4))))
  clear b0 bd b1 b2 b3 b4
  generalize hmk : (1 + 3 * lg.length + st.length + vs.length + nx.length + mt.length) = mk at *
  have HMK := hide hmk
  clear hmk
  have heq : ((mk : Int) == (mk : Int)) = true := by simp
  go_wp2_with fail
  refine (unhide HC).mono ?_
  rintro e w13 ⟨rfl, hb⟩
  clear HC y0 y1 y2 y3 y4 y5 y6 y7 y8 y9 y10 y11 y12
  have S13 := hide ((unhide S12).below hb)
  have M13 := hide ((unhide M12).below hb)
  have K13 := hide ((unhide K12).trans (hb.mono (unhide K12).size))
  have HX13 := hide ((unhide HX12).below hb)
  have HY13 := hide ((unhide HY12).below hb)
  clear hb S12 M12 K12 HX12 HY12
  have I13 := hide ((unhide HI).below (unhide K13))
  go_wp2_with fail
  refine (toIntS_at _ ms w13 (unhide I13) hl).mono ?_
  rintro e w14 ⟨rfl, hO14, hb⟩
  have S14 := hide ((unhide S13).below hb)
  have M14 := hide ((unhide M13).below hb)
  have K14 := hide ((unhide K13).trans (hb.mono (unhide K13).size))
  have HX14 := hide ((unhide HX13).below hb)
  have HY14 := hide ((unhide HY13).below hb)
  clear hb S13 M13 K13 HX13 HY13
  have HC := hide (unhide HIM _ _ w14 hO14.ints)
  clear hO14 I13
  go_wp2_with fail
  refine (unhide HC).mono ?_
  rintro e w15 ⟨la15, lc15, sa15, sc15, va15, vc15, na15, nc15, ma15, mc15, rfl, hO15, hb⟩
  dsimp only at hO15 ⊢
  clear HC
  have S15 := hide ((unhide S14).below hb)
  have M15 := hide ((unhide M14).below hb)
  have K15 := hide ((unhide K14).trans (hb.mono (unhide K14).size))
  have HX15 := hide ((unhide HX14).below hb)
  have HY15 := hide ((unhide HY14).below hb)
  clear hb S14 M14 K14 HX14 HY14
  have BB := (Below.refl w15.heap.size w15).alloc (Nat.le_refl _) (.cells #[.int .i64 id, .int .i64 tm, .int .i64 vo, .slice la15 lg.length lc15, .slice sa15 st.length sc15, .int .i64 ro, .slice va15 vs.length vc15, .slice na15 nx.length nc15, .slice ma15 mt.length mc15, .int .i64 cm, .int .i64 el, .int .i64 wt, .bool up] 25)
  have K16 := hide ((unhide K15).alloc (unhide K15).size (.cells #[.int .i64 id, .int .i64 tm, .int .i64 vo, .slice la15 lg.length lc15, .slice sa15 st.length sc15, .int .i64 ro, .slice va15 vs.length vc15, .slice na15 nx.length nc15, .slice ma15 mt.length mc15, .int .i64 cm, .int .i64 el, .int .i64 wt, .bool up] 25))
  have S16 := hide ((unhide S15).below BB)
  have M16 := hide ((unhide M15).below BB)
  have H16 := hide (hO15.below BB)
  have HX16 := (unhide HX15).below BB
  have HY16 := hide ((unhide HY15).below BB)
  have V16 := Blk.new w15 #[.int .i64 id, .int .i64 tm, .int .i64 vo, .slice la15 lg.length lc15, .slice sa15 st.length sc15, .int .i64 ro, .slice va15 vs.length vc15, .slice na15 nx.length nc15, .slice ma15 mt.length mc15, .int .i64 cm, .int .i64 el, .int .i64 wt, .bool up] 25 w15.heap.size rfl
  have x0 := HX16.cell 0 rfl
  have v0 := V16.cell 0 rfl
  have x1 := HX16.cell 1 rfl
  have v1 := V16.cell 1 rfl
  have x2 := HX16.cell 2 rfl
  have v2 := V16.cell 2 rfl
  have x3 := HX16.cell 3 rfl
  have v3 := V16.cell 3 rfl
  have x4 := HX16.cell 4 rfl
  have v4 := V16.cell 4 rfl
  have x5 := HX16.cell 5 rfl
  have v5 := V16.cell 5 rfl
  have x6 := HX16.cell 6 rfl
  have v6 := V16.cell 6 rfl
  have x7 := HX16.cell 7 rfl
  have v7 := V16.cell 7 rfl
  have x8 := HX16.cell 8 rfl
  have v8 := V16.cell 8 rfl
  have x9 := HX16.cell 9 rfl
  have v9 := V16.cell 9 rfl
  have x10 := HX16.cell 10 rfl
  have v10 := V16.cell 10 rfl
  have x11 := HX16.cell 11 rfl
  have v11 := V16.cell 11 rfl
  have x12 := HX16.cell 12 rfl
  have v12 := V16.cell 12 rfl
  clear BB hO15 HX16 V16 K15 S15 M15 HX15 HY15
  go_wp2_with fail
  generalize w15.alloc (.cells #[.int .i64 id, .int .i64 tm, .int .i64 vo, .slice la15 lg.length lc15, .slice sa15 st.length sc15, .int .i64 ro, .slice va15 vs.length vc15, .slice na15 nx.length nc15, .slice ma15 mt.length mc15, .int .i64 cm, .int .i64 el, .int .i64 wt, .bool up] 25) = w16 at *
  generalize w15.heap.size = vb at *
  refine (eqNode_any id tm vo ro cm el wt up lg st vs nx mt la15 lc15 sa15 sc15 va15 vc15 na15 nc15 ma15 mc15 la2 lc2 sa2 sc2 va2 vc2 na2 nc2 ma2 mc2 w16 (unhide H16).read (unhide S16).read (unhide HSM)).mono ?_
  rintro e w17 ⟨rfl, hb⟩
  have K17 := hide ((unhide K16).trans (hb.mono (unhide K16).size))
  have M17 := hide ((unhide M16).below hb)
  have Y17 := (unhide HY16).below hb
  have y0 := Y17.cell 0 rfl
  have y1 := Y17.cell 1 rfl
  have y2 := Y17.cell 2 rfl
  have y3 := Y17.cell 3 rfl
  have y4 := Y17.cell 4 rfl
  have y5 := Y17.cell 5 rfl
  have y6 := Y17.cell 6 rfl
  have y7 := Y17.cell 7 rfl
  have y8 := Y17.cell 8 rfl
  have y9 := Y17.cell 9 rfl
  have y10 := Y17.cell 10 rfl
  have y11 := Y17.cell 11 rfl
  have y12 := Y17.cell 12 rfl
  clear hb Y17 K16 S16 M16 H16 HY16 x0 v0 x1 v1 x2 v2 x3 v3 x4 v4 x5 v5 x6 v6 x7 v7 x8 v8 x9 v9 x10 v10 x11 v11 x12 v12
  obtain ⟨b0, b1, b2, b3, b4⟩ := unhide HB
  have HC := hide (heldNode_any id tm vo ro cm el wt up la5 lc5 sa5 sc5 va5 vc5 na5 nc5 ma5 mc5 lg.length st.length vs.length nx.length mt.length w4.heap.size w17 (unhide M17) b0 b1 b2 b3 b4)
  rw [unhide HMK] at HC
  clear b0 b1 b2 b3 b4
  go_wp2_with fail
  refine (unhide HC).mono ?_
  rintro e w18 ⟨rfl, hb⟩
  have K18 := hide ((unhide K17).trans (hb.mono (unhide K17).size))
  clear hb HC K17 M17 y0 y1 y2 y3 y4 y5 y6 y7 y8 y9 y10 y11 y12
  go_wp2_with fail
  go_ret
  exact ⟨rfl, unhide K18⟩

theorem own : ownKnob Try.prog.godebug = none := by kernel_rfl
theorem laidOut : laidOutB Try.prog = true := by kernel_rfl
set_option maxRecDepth 100000 in
theorem lifted (os : Os) (started : os.Started) (H : Type) (enc : TypeId × Value → H) :
    ReturnsInHanded {} Try.checked os 3 .any (Rows.fnExactNewNodeSpec.pre6 enc Try.prog Try.f3 Rows.fnExactNewNodeRow.domain false) (Rows.fnExactNewNodeSpec.post enc Try.prog Try.f3 false true false false) := by
  refine returnsInHanded_of_change (C := Try.checked) own started (by kernel_rfl) Try.func3
    (ChangeSpec.witness6 (enc := enc) (C := Try.checked) false ⟨#[], #[.int .i64 0, .slice none 0 0], []⟩ 8 (by kernel_rfl) (by kernel_rfl) (by kernel_rfl) (by kernel_rfl)) ?_
  intro W base args ds gs before hval0 hW hcnd _
  have hval : ∀ (j : Nat) t v, Try.f3.params[j]? = some t → args[j]? = some v → Value.okWide Try.prog W .any base t v := hval0
  have hW' := hW
  obtain ⟨p, q, hA0, hV, rfl, hfz, hnd⟩ := hW
  have hA : DataW.TrodAll enc Try.prog W 0 (fun _ => true) true Try.f3.params.toList args.toList ds p := hA0
  rw [Try.params3] at hA hval
  obtain ⟨v0, vs0, d0, ds0, p0, q0, hargs, rfl, rfl, h0, r0⟩ := trodAll_cons hA
  obtain ⟨v1, vs1, d1, ds1, p1, q1, rfl, rfl, rfl, h1, r1⟩ := trodAll_cons r0
  obtain ⟨rfl, rfl, rfl⟩ := trodAll_nil r1
  obtain rfl : args = #[v0, v1] := by cases args; simp_all
  obtain ⟨rfl, rfl⟩ := trodVars_none hV
  have k0 := h0
  have lt0 : ∀ x ∈ p0, x.block < W.heap.size := by obtain ⟨m, hm⟩ := k0; exact DataW.trod_lt m _ _ _ hm
  obtain ⟨a0, rfl, _, _, w0⟩ := open_int Try.underlying3 (hval 0 3 v0 rfl rfl) h0
  have k1 := h1
  have lt1 : ∀ x ∈ p1, x.block < W.heap.size := by obtain ⟨m, hm⟩ := k1; exact DataW.trod_lt m _ _ _ hm
  obtain ⟨a1, len1, cap1, rfl⟩ := okWide_slice Try.underlying22 (hval 1 22 v1 rfl rfl)
  obtain ⟨z1, w1⟩ : ∃ zs, IsRow .i64 W a1 len1 cap1 zs := by
    obtain ⟨fuel, hf⟩ := h1
    rcases open_ints Try.underlying22 Try.underlying3 (by kernel_rfl) hf with ⟨hcs, _⟩ | ⟨x, l, c, zs, hcs, _, hl, hm, hz, _, hcell, hwz⟩
    · simp [Value.cells] at hcs
      obtain ⟨rfl, rfl, rfl⟩ := hcs
      exact ⟨[], .inl ⟨rfl, rfl, rfl, rfl⟩⟩
    · simp [Value.cells] at hcs
      obtain ⟨rfl, rfl, rfl⟩ := hcs
      exact ⟨zs, .inr ⟨_, rfl, hl, hm, by simpa using hz, hcell, hwz⟩⟩
  clear hA0 hval0
  refine (walk a0 a1 len1 cap1 z1 W w0 w1).mono fun e W' ⟨he, bel⟩ => ?_
  subst he
  exact ⟨_, rfl, _, _, _, [], _, [], hW', trodAll_mk1 (shut_bool Try.underlying4 _), (trodAll_cons_mk (Below.trod laidOut (by kernel_rfl) (of_decide_eq_true (by kernel_rfl)) k0 bel lt0) (trodAll_cons_mk (Below.trod laidOut (by kernel_rfl) (of_decide_eq_true (by kernel_rfl)) k1 bel lt1) trodAll_mk0)), rfl, bel.frame _, fun h => by cases h⟩

theorem over : Rows.fnExactNewNodeRow.holds Try.pinned (OpenSpec.ofChange Rows.fnExactNewNodeSpec) :=
  OpenClaim.holds_of_wide 3 Try.f3 rfl rfl rfl rfl rfl rfl rfl ⟨rfl, rfl, rfl, rfl, rfl⟩ rfl rfl rfl rfl rfl (by kernel_rfl) Try.func3 (by kernel_rfl)
    (of_decide_eq_true (by kernel_rfl)) (by unfold Func.isWrapper; first | (rw [if_pos (by decide +kernel)]; kernel_rfl) | (rw [if_neg (by decide +kernel)]; exact ⟨rfl, rfl⟩))
    (fun os started H enc _ => lifted os started H enc)

end Go.Proofs.Ytnklloeialhmkaa.fnExactNewNode
namespace Go.Proofs.Ytnklloeialhmkaa
theorem fnExactNewNode_holds : Rows.FnExactNewNodeSaid := fnExactNewNode.over
#print axioms fnExactNewNode_holds
end Go.Proofs.Ytnklloeialhmkaa
