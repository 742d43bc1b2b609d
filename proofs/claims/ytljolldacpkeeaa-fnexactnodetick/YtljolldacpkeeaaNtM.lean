/- spec.NodeTick, walked. (Written by py/ntm.py.) -/
import Derived.Test.YtljolldacpkeeaaNtL
import Derived.Test.YtljolldacpkeeaaNtH
import Derived.Test.YtljolldacpkeeaaNodP
namespace Go.Proofs.Ytljolldacpkeeaa
open Go.ChangeShapes Go.WideShapes Go.ChangeAt Go.RowKit Go.Deep
set_option linter.unusedVariables false
set_option linter.unusedSimpArgs false

theorem l10TickAll_any (id tm vo ro cm el wt : Int) (up : Bool) (lg : List En) (st vs nx mt : List Int) (la : Option Addr) (lc : Nat) (sa : Option Addr) (sc : Nat) (va : Option Addr) (vc : Nat) (na : Option Addr) (nc : Nat) (ma : Option Addr) (mc : Nat) (draw : Int) (w : World) (hR : NoR w (.slice la lg.length lc) (.slice sa st.length sc) (.slice va vs.length vc) (.slice na nx.length nc) (.slice ma mt.length mc) lg st vs nx mt) (hs : NoS lg st vs nx mt) (hh : nodeB id tm vo ro cm el wt up lg st vs nx mt = true) (hdr : 0 ≤ draw ∧ draw ≤ 1000000) :
    Calls Try.prog 22 #[.agg #[.int .i64 id, .int .i64 tm, .int .i64 vo, .slice la lg.length lc, .slice sa st.length sc, .int .i64 ro, .slice va vs.length vc, .slice na nx.length nc, .slice ma mt.length mc, .int .i64 cm, .int .i64 el, .int .i64 wt, .bool up], .int .i64 draw] w fun e w' => ElAns w.heap.size (tickOut ⟨id, tm, vo, ro, cm, el, wt, up, lg, st, vs, nx, mt⟩ draw).1 (tickOut ⟨id, tm, vo, ro, cm, el, wt, up, lg, st, vs, nx, mt⟩ draw).2 w e w' := by
  have hn := node_small hh
  have hm := node_more hh
  have h1 := node_next hh
  have ht : tm ≤ 1000000 := by
    have h2 := hn.2.2.2.2.2.2
    unfold stateB at h2
    simp only [Bool.and_eq_true, decide_eq_true_eq] at h2
    exact (inB_iff.1 h2.1.1.1).2
  by_cases he : el + 1 < 1000
  · exact l10Tick_a id tm vo ro cm el wt up lg st vs nx mt la lc sa sc va vc na nc ma mc draw w hR hs.dt hn.1 (cfg_of_node hh) hn.2.2.2.2.2.1 (by omega) (by omega) hn.2.2.2.1 hn.2.2.2.2.1 h1.2.1 ⟨hm.2.2, ht⟩ h1.1 hdr he hm.2.1
  · exact l10Tick_b id tm vo ro cm el wt up lg st vs nx mt la lc sa sc va vc na nc ma mc draw w hR hs.dt hn.1 (cfg_of_node hh) hn.2.2.2.2.2.1 (by omega) (by omega) hn.2.2.2.1 hn.2.2.2.2.1 h1.2.1 ⟨hm.2.2, ht⟩ h1.1 hdr he hm.2.1
theorem NoO.mono5 {B B' : Nat} {w : World} {lv sv vv nv mv : Value} {lg : List En} {st vs nx mt : List Int} (h : NoO B w lv sv vv nv mv lg st vs nx mt) (hB : B' ≤ B) : NoO B' w lv sv vv nv mv lg st vs nx mt :=
  ⟨World.ownsRow.mono h.lg hB, h.st.mono hB, h.vs.mono hB, h.nx.mono hB, h.mt.mono hB, h.ap⟩
set_option maxRecDepth 100000 in
set_option maxHeartbeats 4000000 in
theorem specNodeTick_any (id tm vo ro cm el wt : Int) (up : Bool) (lg : List En) (st vs nx mt : List Int) (la : Option Addr) (lc : Nat) (sa : Option Addr) (sc : Nat) (va : Option Addr) (vc : Nat) (na : Option Addr) (nc : Nat) (ma : Option Addr) (mc : Nat) (draw : Int) (w : World) (h : NoR w (.slice la lg.length lc) (.slice sa st.length sc) (.slice va vs.length vc) (.slice na nx.length nc) (.slice ma mt.length mc) lg st vs nx mt) (hs : NoS lg st vs nx mt) :
    Calls Try.prog 6 #[.agg #[.int .i64 id, .int .i64 tm, .int .i64 vo, .slice la lg.length lc, .slice sa st.length sc, .int .i64 ro, .slice va vs.length vc, .slice na nx.length nc, .slice ma mt.length mc, .int .i64 cm, .int .i64 el, .int .i64 wt, .bool up], .int .i64 draw] w fun e w' => PAns w.heap.size (ntOut (nodeB id tm vo ro cm el wt up lg st vs nx mt) ⟨id, tm, vo, ro, cm, el, wt, up, lg, st, vs, nx, mt⟩ draw).1 (ntOut (nodeB id tm vo ro cm el wt up lg st vs nx mt) ⟨id, tm, vo, ro, cm, el, wt, up, lg, st, vs, nx, mt⟩ draw).2.1 (ntOut (nodeB id tm vo ro cm el wt up lg st vs nx mt) ⟨id, tm, vo, ro, cm, el, wt, up, lg, st, vs, nx, mt⟩ draw).2.2 w e w' := by
  have B0 := hide (((Below.refl w.heap.size w).alloc (Nat.le_refl _) (.cells #[.int .i64 id, .int .i64 tm, .int .i64 vo, .slice la lg.length lc, .slice sa st.length sc, .int .i64 ro, .slice va vs.length vc, .slice na nx.length nc, .slice ma mt.length mc, .int .i64 cm, .int .i64 el, .int .i64 wt, .bool up] 29)).alloc (by simp) (.cells #[.int .i64 0, .int .i64 0, .int .i64 0, .slice none 0 0, .slice none 0 0, .int .i64 0, .slice none 0 0, .slice none 0 0, .slice none 0 0, .int .i64 0, .int .i64 0, .int .i64 0, .bool false] 29))
  have X0 := hide ((Blk.new w #[.int .i64 id, .int .i64 tm, .int .i64 vo, .slice la lg.length lc, .slice sa st.length sc, .int .i64 ro, .slice va vs.length vc, .slice na nx.length nc, .slice ma mt.length mc, .int .i64 cm, .int .i64 el, .int .i64 wt, .bool up] 29 w.heap.size rfl).alloc (.cells #[.int .i64 0, .int .i64 0, .int .i64 0, .slice none 0 0, .slice none 0 0, .int .i64 0, .slice none 0 0, .slice none 0 0, .slice none 0 0, .int .i64 0, .int .i64 0, .int .i64 0, .bool false] 29))
  have R0 := hide (Blk.new (w.alloc (.cells #[.int .i64 id, .int .i64 tm, .int .i64 vo, .slice la lg.length lc, .slice sa st.length sc, .int .i64 ro, .slice va vs.length vc, .slice na nx.length nc, .slice ma mt.length mc, .int .i64 cm, .int .i64 el, .int .i64 wt, .bool up] 29)) #[.int .i64 0, .int .i64 0, .int .i64 0, .slice none 0 0, .slice none 0 0, .int .i64 0, .slice none 0 0, .slice none 0 0, .slice none 0 0, .int .i64 0, .int .i64 0, .int .i64 0, .bool false] 29 (w.heap.size + 1) (by simp))
  have HN := hide (fun wx (hx : Below w.heap.size w wx) => specNodeOK_any id tm vo ro cm el wt up lg st vs nx mt la lc sa sc va vc na nc ma mc wx (h.below hx) hs)
  have HU : Hid (∀ ok, ntOut ok ⟨id, tm, vo, ro, cm, el, wt, up, lg, st, vs, nx, mt⟩ draw = if ok then (if inB draw 0 1000000 then (if up then ((tickOut ⟨id, tm, vo, ro, cm, el, wt, up, lg, st, vs, nx, mt⟩ draw).1, (tickOut ⟨id, tm, vo, ro, cm, el, wt, up, lg, st, vs, nx, mt⟩ draw).2, 0) else (⟨id, tm, vo, ro, cm, el, wt, up, lg, st, vs, nx, mt⟩, [], 5)) else (zeroNo, [], 4)) else (zeroNo, [], 1)) := hide (fun ok => rfl)
  have HTk := hide (fun wx (hx : Below w.heap.size w wx) (hh : nodeB id tm vo ro cm el wt up lg st vs nx mt = true) (hd : inB draw 0 1000000 = true) => l10TickAll_any id tm vo ro cm el wt up lg st vs nx mt la lc sa sc va vc na nc ma mc draw wx (h.below hx) hs hh (inB_iff.1 hd))
  have HOw := hide (fun wx (hx : Below w.heap.size w wx) (hh : nodeB id tm vo ro cm el wt up lg st vs nx mt = true) => l10Own_any id tm vo ro cm el wt up lg st vs nx mt la lc sa sc va vc na nc ma mc wx (h.below hx) (by have := node_small hh; omega) (by have := node_small hh; omega) (by have := node_small hh; omega) (by have := node_small hh; omega) (by have := node_small hh; omega))
  clear h hs
  generalize nodeB id tm vo ro cm el wt up lg st vs nx mt = ok at *
  go_enter Try.func6, Try.ntmps6
  go_upto_region 1 with fail
  generalize (w.alloc (.cells #[.int .i64 id, .int .i64 tm, .int .i64 vo, .slice la lg.length lc, .slice sa st.length sc, .int .i64 ro, .slice va vs.length vc, .slice na nx.length nc, .slice ma mt.length mc, .int .i64 cm, .int .i64 el, .int .i64 wt, .bool up] 29)).alloc (.cells #[.int .i64 0, .int .i64 0, .int .i64 0, .slice none 0 0, .slice none 0 0, .int .i64 0, .slice none 0 0, .slice none 0 0, .slice none 0 0, .int .i64 0, .int .i64 0, .int .i64 0, .bool false] 29) = w0 at *
  have hrw : w.heap.size + 1 < w0.heap.size := (unhide R0).1
  have x0 := (unhide X0).cell 0 rfl
  have x1 := (unhide X0).cell 1 rfl
  have x2 := (unhide X0).cell 2 rfl
  have x3 := (unhide X0).cell 3 rfl
  have x4 := (unhide X0).cell 4 rfl
  have x5 := (unhide X0).cell 5 rfl
  have x6 := (unhide X0).cell 6 rfl
  have x7 := (unhide X0).cell 7 rfl
  have x8 := (unhide X0).cell 8 rfl
  have x9 := (unhide X0).cell 9 rfl
  have x10 := (unhide X0).cell 10 rfl
  have x11 := (unhide X0).cell 11 rfl
  have x12 := (unhide X0).cell 12 rfl
  go_wp2_with fail
  refine (unhide HN w0 (unhide B0)).mono ?_
  rintro e w1 ⟨rfl, hb⟩
  have K1 := hide ((unhide B0).trans (hb.mono (unhide B0).size))
  have X1 := hide ((unhide X0).below hb)
  have R1 := hide ((unhide R0).below hb)
  have hs1 := hb.size
  have hrw1 : w.heap.size + 1 < w1.heap.size := by omega
  clear hb x0 x1 x2 x3 x4 x5 x6 x7 x8 x9 x10 x11 x12 X0 B0 R0 HN
  cases ok
  · have HU2 := hide (show ntOut false ⟨id, tm, vo, ro, cm, el, wt, up, lg, st, vs, nx, mt⟩ draw = (zeroNo, [], 1) by rw [unhide HU]; rfl)
    have RX := unhide R1
    have r0 := RX.cell 0 rfl
    have r1 := RX.cell 1 rfl
    have r2 := RX.cell 2 rfl
    have r3 := RX.cell 3 rfl
    have r4 := RX.cell 4 rfl
    have r5 := RX.cell 5 rfl
    have r6 := RX.cell 6 rfl
    have r7 := RX.cell 7 rfl
    have r8 := RX.cell 8 rfl
    have r9 := RX.cell 9 rfl
    have r10 := RX.cell 10 rfl
    have r11 := RX.cell 11 rfl
    have r12 := RX.cell 12 rfl
    have f0 := RX.fro 0
    have f1 := RX.fro 1
    have f2 := RX.fro 2
    have f3 := RX.fro 3
    have f4 := RX.fro 4
    have f5 := RX.fro 5
    have f6 := RX.fro 6
    have f7 := RX.fro 7
    have f8 := RX.fro 8
    have f9 := RX.fro 9
    have f10 := RX.fro 10
    have f11 := RX.fro 11
    have f12 := RX.fro 12
    have HR9 := hide ((((((((((((((RX.set 0 (.int .i64 0) (by simp)).set 1 (.int .i64 0) (by simp)).set 2 (.int .i64 0) (by simp)).set 3 (.slice none 0 0) (by simp)).set 4 (.slice none 0 0) (by simp)).set 5 (.int .i64 0) (by simp)).set 6 (.slice none 0 0) (by simp)).set 7 (.slice none 0 0) (by simp)).set 8 (.slice none 0 0) (by simp)).set 9 (.int .i64 0) (by simp)).set 10 (.int .i64 0) (by simp)).set 11 (.int .i64 0) (by simp)).set 12 (.bool false) (by simp)))
    have T9 := ((((((((((((((Touch.refl (fun q => q = w.heap.size + 1) w1).setCell ⟨w.heap.size + 1, 0, none⟩ (.int .i64 0) (fun _ => rfl)).setCell ⟨w.heap.size + 1, 1, none⟩ (.int .i64 0) (fun _ => rfl)).setCell ⟨w.heap.size + 1, 2, none⟩ (.int .i64 0) (fun _ => rfl)).setCell ⟨w.heap.size + 1, 3, none⟩ (.slice none 0 0) (fun _ => rfl)).setCell ⟨w.heap.size + 1, 4, none⟩ (.slice none 0 0) (fun _ => rfl)).setCell ⟨w.heap.size + 1, 5, none⟩ (.int .i64 0) (fun _ => rfl)).setCell ⟨w.heap.size + 1, 6, none⟩ (.slice none 0 0) (fun _ => rfl)).setCell ⟨w.heap.size + 1, 7, none⟩ (.slice none 0 0) (fun _ => rfl)).setCell ⟨w.heap.size + 1, 8, none⟩ (.slice none 0 0) (fun _ => rfl)).setCell ⟨w.heap.size + 1, 9, none⟩ (.int .i64 0) (fun _ => rfl)).setCell ⟨w.heap.size + 1, 10, none⟩ (.int .i64 0) (fun _ => rfl)).setCell ⟨w.heap.size + 1, 11, none⟩ (.int .i64 0) (fun _ => rfl)).setCell ⟨w.heap.size + 1, 12, none⟩ (.bool false) (fun _ => rfl))
    have KW := unhide K1
    have K9 := hide (KW.trans (T9.below KW.size (fun k hk e => by omega)))
    have HT9 := hide T9
    clear RX T9 KW
    have RA := hide ((unhide HR9).alloc (.cells #[] 59))
    have KA := hide ((unhide K9).alloc (unhide K9).size (.cells #[] 59))
    go_wp2_with fail
    have R9 := unhide RA
    have z0 := R9.cell 0 rfl
    have z1 := R9.cell 1 rfl
    have z2 := R9.cell 2 rfl
    have z3 := R9.cell 3 rfl
    have z4 := R9.cell 4 rfl
    have z5 := R9.cell 5 rfl
    have z6 := R9.cell 6 rfl
    have z7 := R9.cell 7 rfl
    have z8 := R9.cell 8 rfl
    have z9 := R9.cell 9 rfl
    have z10 := R9.cell 10 rfl
    have z11 := R9.cell 11 rfl
    have z12 := R9.cell 12 rfl
    refine bodyPost_ret (v := .tuple #[.agg #[.int .i64 0, .int .i64 0, .int .i64 0, .slice none 0 0, .slice none 0 0, .int .i64 0, .slice none 0 0, .slice none 0 0, .slice none 0 0, .int .i64 0, .int .i64 0, .int .i64 0, .bool false], .slice (some ⟨w1.heap.size, 0, none⟩) 0 0, .int .i64 1]) (by simp [results, Try.results6, go_sem, z0, z1, z2, z3, z4, z5, z6, z7, z8, z9, z10, z11, z12]) rfl ?_
    rw [unhide HU2]
    refine ⟨none, 0, none, 0, none, 0, none, 0, none, 0, .slice (some ⟨w1.heap.size, 0, none⟩) 0 0, [], rfl, noO_zero _ _, ?_, rfl, fun q hq => ?_, unhide KA⟩
    · have hn := ns_made mgS _ w.heap.size (unhide K9).size
      simp only [World.size_setCell] at hn
      exact hn
    · obtain ⟨v, hv, hvq⟩ := hq
      simp only [List.mem_cons, List.not_mem_nil, or_false] at hv
      rcases hv with rfl | rfl | rfl | rfl | rfl <;> cases hvq
  have HU4 := hide (show ntOut true ⟨id, tm, vo, ro, cm, el, wt, up, lg, st, vs, nx, mt⟩ draw = if inB draw 0 1000000 then (if up then ((tickOut ⟨id, tm, vo, ro, cm, el, wt, up, lg, st, vs, nx, mt⟩ draw).1, (tickOut ⟨id, tm, vo, ro, cm, el, wt, up, lg, st, vs, nx, mt⟩ draw).2, 0) else (⟨id, tm, vo, ro, cm, el, wt, up, lg, st, vs, nx, mt⟩, [], 5)) else (zeroNo, [], 4) by rw [unhide HU]; rfl)
  clear HU
  have HIn1 := hide (l01In_any draw 0 1000000 w1)
  generalize inB draw 0 1000000 = bo at *
  go_wp2_with fail
  refine (unhide HIn1).mono ?_
  rintro e w' ⟨rfl, hw'⟩
  have hw2 := hw'.symm
  clear hw' HIn1
  subst hw2
  cases bo
  · have HU2 := hide (show ntOut true ⟨id, tm, vo, ro, cm, el, wt, up, lg, st, vs, nx, mt⟩ draw = (zeroNo, [], 4) by rw [unhide HU4]; rfl)
    have RX := unhide R1
    have r0 := RX.cell 0 rfl
    have r1 := RX.cell 1 rfl
    have r2 := RX.cell 2 rfl
    have r3 := RX.cell 3 rfl
    have r4 := RX.cell 4 rfl
    have r5 := RX.cell 5 rfl
    have r6 := RX.cell 6 rfl
    have r7 := RX.cell 7 rfl
    have r8 := RX.cell 8 rfl
    have r9 := RX.cell 9 rfl
    have r10 := RX.cell 10 rfl
    have r11 := RX.cell 11 rfl
    have r12 := RX.cell 12 rfl
    have f0 := RX.fro 0
    have f1 := RX.fro 1
    have f2 := RX.fro 2
    have f3 := RX.fro 3
    have f4 := RX.fro 4
    have f5 := RX.fro 5
    have f6 := RX.fro 6
    have f7 := RX.fro 7
    have f8 := RX.fro 8
    have f9 := RX.fro 9
    have f10 := RX.fro 10
    have f11 := RX.fro 11
    have f12 := RX.fro 12
    have HR9 := hide ((((((((((((((RX.set 0 (.int .i64 0) (by simp)).set 1 (.int .i64 0) (by simp)).set 2 (.int .i64 0) (by simp)).set 3 (.slice none 0 0) (by simp)).set 4 (.slice none 0 0) (by simp)).set 5 (.int .i64 0) (by simp)).set 6 (.slice none 0 0) (by simp)).set 7 (.slice none 0 0) (by simp)).set 8 (.slice none 0 0) (by simp)).set 9 (.int .i64 0) (by simp)).set 10 (.int .i64 0) (by simp)).set 11 (.int .i64 0) (by simp)).set 12 (.bool false) (by simp)))
    have T9 := ((((((((((((((Touch.refl (fun q => q = w.heap.size + 1) w1).setCell ⟨w.heap.size + 1, 0, none⟩ (.int .i64 0) (fun _ => rfl)).setCell ⟨w.heap.size + 1, 1, none⟩ (.int .i64 0) (fun _ => rfl)).setCell ⟨w.heap.size + 1, 2, none⟩ (.int .i64 0) (fun _ => rfl)).setCell ⟨w.heap.size + 1, 3, none⟩ (.slice none 0 0) (fun _ => rfl)).setCell ⟨w.heap.size + 1, 4, none⟩ (.slice none 0 0) (fun _ => rfl)).setCell ⟨w.heap.size + 1, 5, none⟩ (.int .i64 0) (fun _ => rfl)).setCell ⟨w.heap.size + 1, 6, none⟩ (.slice none 0 0) (fun _ => rfl)).setCell ⟨w.heap.size + 1, 7, none⟩ (.slice none 0 0) (fun _ => rfl)).setCell ⟨w.heap.size + 1, 8, none⟩ (.slice none 0 0) (fun _ => rfl)).setCell ⟨w.heap.size + 1, 9, none⟩ (.int .i64 0) (fun _ => rfl)).setCell ⟨w.heap.size + 1, 10, none⟩ (.int .i64 0) (fun _ => rfl)).setCell ⟨w.heap.size + 1, 11, none⟩ (.int .i64 0) (fun _ => rfl)).setCell ⟨w.heap.size + 1, 12, none⟩ (.bool false) (fun _ => rfl))
    have KW := unhide K1
    have K9 := hide (KW.trans (T9.below KW.size (fun k hk e => by omega)))
    have HT9 := hide T9
    clear RX T9 KW
    have RA := hide ((unhide HR9).alloc (.cells #[] 59))
    have KA := hide ((unhide K9).alloc (unhide K9).size (.cells #[] 59))
    go_wp2_with fail
    have R9 := unhide RA
    have z0 := R9.cell 0 rfl
    have z1 := R9.cell 1 rfl
    have z2 := R9.cell 2 rfl
    have z3 := R9.cell 3 rfl
    have z4 := R9.cell 4 rfl
    have z5 := R9.cell 5 rfl
    have z6 := R9.cell 6 rfl
    have z7 := R9.cell 7 rfl
    have z8 := R9.cell 8 rfl
    have z9 := R9.cell 9 rfl
    have z10 := R9.cell 10 rfl
    have z11 := R9.cell 11 rfl
    have z12 := R9.cell 12 rfl
    refine bodyPost_ret (v := .tuple #[.agg #[.int .i64 0, .int .i64 0, .int .i64 0, .slice none 0 0, .slice none 0 0, .int .i64 0, .slice none 0 0, .slice none 0 0, .slice none 0 0, .int .i64 0, .int .i64 0, .int .i64 0, .bool false], .slice (some ⟨w1.heap.size, 0, none⟩) 0 0, .int .i64 4]) (by simp [results, Try.results6, go_sem, z0, z1, z2, z3, z4, z5, z6, z7, z8, z9, z10, z11, z12]) rfl ?_
    rw [unhide HU2]
    refine ⟨none, 0, none, 0, none, 0, none, 0, none, 0, .slice (some ⟨w1.heap.size, 0, none⟩) 0 0, [], rfl, noO_zero _ _, ?_, rfl, fun q hq => ?_, unhide KA⟩
    · have hn := ns_made mgS _ w.heap.size (unhide K9).size
      simp only [World.size_setCell] at hn
      exact hn
    · obtain ⟨v, hv, hvq⟩ := hq
      simp only [List.mem_cons, List.not_mem_nil, or_false] at hv
      rcases hv with rfl | rfl | rfl | rfl | rfl <;> cases hvq
  have hk1 := (unhide K1).size
  have x0 := (unhide X1).cell 0 rfl
  have x1 := (unhide X1).cell 1 rfl
  have x2 := (unhide X1).cell 2 rfl
  have x3 := (unhide X1).cell 3 rfl
  have x4 := (unhide X1).cell 4 rfl
  have x5 := (unhide X1).cell 5 rfl
  have x6 := (unhide X1).cell 6 rfl
  have x7 := (unhide X1).cell 7 rfl
  have x8 := (unhide X1).cell 8 rfl
  have x9 := (unhide X1).cell 9 rfl
  have x10 := (unhide X1).cell 10 rfl
  have x11 := (unhide X1).cell 11 rfl
  have x12 := (unhide X1).cell 12 rfl
  cases up
  · have HU2 := hide (show ntOut true ⟨id, tm, vo, ro, cm, el, wt, false, lg, st, vs, nx, mt⟩ draw = (⟨id, tm, vo, ro, cm, el, wt, false, lg, st, vs, nx, mt⟩, [], 5) by rw [unhide HU4]; rfl)
    have HC := hide (unhide HOw w1 (unhide K1) (by first | trivial | rfl))
    clear HU4 HTk HOw
    go_wp2_with fail
    refine (unhide HC).mono ?_
    rintro e w2 ⟨la2, lc2, sa2, sc2, va2, vc2, na2, nc2, ma2, mc2, rfl, hO, hb⟩
    have hs2 := hb.size
    have O2 := hide hO
    have R2 := hide ((unhide R1).below hb)
    have K2 := hide ((unhide K1).trans (hb.mono (unhide K1).size))
    have hrw2 : w.heap.size + 1 < w2.heap.size := by omega
    clear x0 x1 x2 x3 x4 x5 x6 x7 x8 x9 x10 x11 x12 HC hO hb X1 R1 K1
    have RX := unhide R2
    have r0 := RX.cell 0 rfl
    have r1 := RX.cell 1 rfl
    have r2 := RX.cell 2 rfl
    have r3 := RX.cell 3 rfl
    have r4 := RX.cell 4 rfl
    have r5 := RX.cell 5 rfl
    have r6 := RX.cell 6 rfl
    have r7 := RX.cell 7 rfl
    have r8 := RX.cell 8 rfl
    have r9 := RX.cell 9 rfl
    have r10 := RX.cell 10 rfl
    have r11 := RX.cell 11 rfl
    have r12 := RX.cell 12 rfl
    have f0 := RX.fro 0
    have f1 := RX.fro 1
    have f2 := RX.fro 2
    have f3 := RX.fro 3
    have f4 := RX.fro 4
    have f5 := RX.fro 5
    have f6 := RX.fro 6
    have f7 := RX.fro 7
    have f8 := RX.fro 8
    have f9 := RX.fro 9
    have f10 := RX.fro 10
    have f11 := RX.fro 11
    have f12 := RX.fro 12
    have HR9 := hide ((((((((((((((RX.set 0 (.int .i64 id) (by simp)).set 1 (.int .i64 tm) (by simp)).set 2 (.int .i64 vo) (by simp)).set 3 (.slice la2 lg.length lc2) (by simp)).set 4 (.slice sa2 st.length sc2) (by simp)).set 5 (.int .i64 ro) (by simp)).set 6 (.slice va2 vs.length vc2) (by simp)).set 7 (.slice na2 nx.length nc2) (by simp)).set 8 (.slice ma2 mt.length mc2) (by simp)).set 9 (.int .i64 cm) (by simp)).set 10 (.int .i64 el) (by simp)).set 11 (.int .i64 wt) (by simp)).set 12 (.bool false) (by simp)))
    have T9 := ((((((((((((((Touch.refl (fun q => q = w.heap.size + 1) w2).setCell ⟨w.heap.size + 1, 0, none⟩ (.int .i64 id) (fun _ => rfl)).setCell ⟨w.heap.size + 1, 1, none⟩ (.int .i64 tm) (fun _ => rfl)).setCell ⟨w.heap.size + 1, 2, none⟩ (.int .i64 vo) (fun _ => rfl)).setCell ⟨w.heap.size + 1, 3, none⟩ (.slice la2 lg.length lc2) (fun _ => rfl)).setCell ⟨w.heap.size + 1, 4, none⟩ (.slice sa2 st.length sc2) (fun _ => rfl)).setCell ⟨w.heap.size + 1, 5, none⟩ (.int .i64 ro) (fun _ => rfl)).setCell ⟨w.heap.size + 1, 6, none⟩ (.slice va2 vs.length vc2) (fun _ => rfl)).setCell ⟨w.heap.size + 1, 7, none⟩ (.slice na2 nx.length nc2) (fun _ => rfl)).setCell ⟨w.heap.size + 1, 8, none⟩ (.slice ma2 mt.length mc2) (fun _ => rfl)).setCell ⟨w.heap.size + 1, 9, none⟩ (.int .i64 cm) (fun _ => rfl)).setCell ⟨w.heap.size + 1, 10, none⟩ (.int .i64 el) (fun _ => rfl)).setCell ⟨w.heap.size + 1, 11, none⟩ (.int .i64 wt) (fun _ => rfl)).setCell ⟨w.heap.size + 1, 12, none⟩ (.bool false) (fun _ => rfl))
    have KW := unhide K2
    have K9 := hide (KW.trans (T9.below KW.size (fun k hk e => by omega)))
    have HT9 := hide T9
    clear RX T9 KW
    have RA := hide ((unhide HR9).alloc (.cells #[] 59))
    have KA := hide ((unhide K9).alloc (unhide K9).size (.cells #[] 59))
    go_wp2_with fail
    have R9 := unhide RA
    have z0 := R9.cell 0 rfl
    have z1 := R9.cell 1 rfl
    have z2 := R9.cell 2 rfl
    have z3 := R9.cell 3 rfl
    have z4 := R9.cell 4 rfl
    have z5 := R9.cell 5 rfl
    have z6 := R9.cell 6 rfl
    have z7 := R9.cell 7 rfl
    have z8 := R9.cell 8 rfl
    have z9 := R9.cell 9 rfl
    have z10 := R9.cell 10 rfl
    have z11 := R9.cell 11 rfl
    have z12 := R9.cell 12 rfl
    refine bodyPost_ret (v := .tuple #[.agg #[.int .i64 id, .int .i64 tm, .int .i64 vo, .slice la2 lg.length lc2, .slice sa2 st.length sc2, .int .i64 ro, .slice va2 vs.length vc2, .slice na2 nx.length nc2, .slice ma2 mt.length mc2, .int .i64 cm, .int .i64 el, .int .i64 wt, .bool false], .slice (some ⟨w2.heap.size, 0, none⟩) 0 0, .int .i64 5]) (by simp [results, Try.results6, go_sem, z0, z1, z2, z3, z4, z5, z6, z7, z8, z9, z10, z11, z12]) rfl ?_
    rw [unhide HU2]
    have hbO := fun q hq => (NoO.blk (unhide O2) q hq).2
    have hsT := (unhide HT9).size
    have hn := ns_made mgS _ w2.heap.size (unhide HT9).size
    simp only [World.size_setCell] at hn
    refine ⟨la2, lc2, sa2, sc2, va2, vc2, na2, nc2, ma2, mc2, .slice (some ⟨w2.heap.size, 0, none⟩) 0 0, [], rfl, NoO.mono5 (((unhide O2).kept (unhide HT9) (fun q e _ => by omega)).below ((Below.refl _ _).alloc (Nat.le_refl _) (.cells #[] 59))) (by omega), hn.down (by omega), rfl, fun q hq e => ?_, unhide KA⟩
    have h1 := (nsT_ge hn q e).1
    have h2 := hbO q hq
    omega
  have HU5 := hide (show ntOut true ⟨id, tm, vo, ro, cm, el, wt, true, lg, st, vs, nx, mt⟩ draw = ((tickOut ⟨id, tm, vo, ro, cm, el, wt, true, lg, st, vs, nx, mt⟩ draw).1, (tickOut ⟨id, tm, vo, ro, cm, el, wt, true, lg, st, vs, nx, mt⟩ draw).2, 0) by rw [unhide HU4]; rfl)
  have HC := hide (unhide HTk w1 (unhide K1) (by first | trivial | rfl) (by first | trivial | rfl))
  clear HU4 HTk HOw
  generalize tickOut ⟨id, tm, vo, ro, cm, el, wt, true, lg, st, vs, nx, mt⟩ draw = out at *
  obtain ⟨n, ms⟩ := out
  dsimp only at HC HU5
  go_wp2_with fail
  refine (unhide HC).mono ?_
  rintro e w2 ⟨la, lc, sa, sc, va, vc, na, nc, ma, mc, mv, l, rfl, g1, g2, g3, g4, g5⟩
  have hs2 := g5.size
  have R2 := hide ((unhide R1).kept g5 (fun e => by omega))
  have K2 := hide ((unhide K1).trans (g5.below (unhide K1).size (fun q hq e => by omega)))
  have HG := hide (And.intro g1 (And.intro g2 (And.intro g3 g4)))
  have hrw2 : w.heap.size + 1 < w2.heap.size := by omega
  have NZ := Blk.new w2 #[.int .i64 0, .int .i64 0, .int .i64 0, .slice none 0 0, .slice none 0 0, .int .i64 0, .slice none 0 0, .slice none 0 0, .slice none 0 0, .int .i64 0, .int .i64 0, .int .i64 0, .bool false] 29 w2.heap.size rfl
  have zc0 := NZ.cell 0 rfl
  have zc1 := NZ.cell 1 rfl
  have zc2 := NZ.cell 2 rfl
  have zc3 := NZ.cell 3 rfl
  have zc4 := NZ.cell 4 rfl
  have zc5 := NZ.cell 5 rfl
  have zc6 := NZ.cell 6 rfl
  have zc7 := NZ.cell 7 rfl
  have zc8 := NZ.cell 8 rfl
  have zc9 := NZ.cell 9 rfl
  have zc10 := NZ.cell 10 rfl
  have zc11 := NZ.cell 11 rfl
  have zc12 := NZ.cell 12 rfl
  have zf0 := NZ.fro 0
  have zf1 := NZ.fro 1
  have zf2 := NZ.fro 2
  have zf3 := NZ.fro 3
  have zf4 := NZ.fro 4
  have zf5 := NZ.fro 5
  have zf6 := NZ.fro 6
  have zf7 := NZ.fro 7
  have zf8 := NZ.fro 8
  have zf9 := NZ.fro 9
  have zf10 := NZ.fro 10
  have zf11 := NZ.fro 11
  have zf12 := NZ.fro 12
  clear x0 x1 x2 x3 x4 x5 x6 x7 x8 x9 x10 x11 x12 HC g1 g2 g3 g4 g5 NZ X1 R1 K1
  go_upto_region 8 with fail
  clear zc0 zf0 zc1 zf1 zc2 zf2 zc3 zf3 zc4 zf4 zc5 zf5 zc6 zf6 zc7 zf7 zc8 zf8 zc9 zf9 zc10 zf10 zc11 zf11 zc12 zf12
  have N3 := hide (Blk.new w2 #[.int .i64 n.id, .int .i64 n.tm, .int .i64 n.vo, .slice la n.lg.length lc, .slice sa n.st.length sc, .int .i64 n.ro, .slice va n.vs.length vc, .slice na n.nx.length nc, .slice ma n.mt.length mc, .int .i64 n.cm, .int .i64 n.el, .int .i64 n.wt, .bool n.up] 29 w2.heap.size rfl)
  have B3 := hide ((Below.refl w2.heap.size w2).alloc (Nat.le_refl _) (.cells #[.int .i64 n.id, .int .i64 n.tm, .int .i64 n.vo, .slice la n.lg.length lc, .slice sa n.st.length sc, .int .i64 n.ro, .slice va n.vs.length vc, .slice na n.nx.length nc, .slice ma n.mt.length mc, .int .i64 n.cm, .int .i64 n.el, .int .i64 n.wt, .bool n.up] 29))
  generalize w2.alloc (.cells #[.int .i64 n.id, .int .i64 n.tm, .int .i64 n.vo, .slice la n.lg.length lc, .slice sa n.st.length sc, .int .i64 n.ro, .slice va n.vs.length vc, .slice na n.nx.length nc, .slice ma n.mt.length mc, .int .i64 n.cm, .int .i64 n.el, .int .i64 n.wt, .bool n.up] 29) = w3 at *
  have hs3 : w2.heap.size < w3.heap.size := (unhide N3).1
  have x0 := (unhide N3).cell 0 rfl
  have x1 := (unhide N3).cell 1 rfl
  have x2 := (unhide N3).cell 2 rfl
  have x3 := (unhide N3).cell 3 rfl
  have x4 := (unhide N3).cell 4 rfl
  have x5 := (unhide N3).cell 5 rfl
  have x6 := (unhide N3).cell 6 rfl
  have x7 := (unhide N3).cell 7 rfl
  have x8 := (unhide N3).cell 8 rfl
  have x9 := (unhide N3).cell 9 rfl
  have x10 := (unhide N3).cell 10 rfl
  have x11 := (unhide N3).cell 11 rfl
  have x12 := (unhide N3).cell 12 rfl
  have RX := (unhide R2).below (unhide B3)
  have r0 := RX.cell 0 rfl
  have r1 := RX.cell 1 rfl
  have r2 := RX.cell 2 rfl
  have r3 := RX.cell 3 rfl
  have r4 := RX.cell 4 rfl
  have r5 := RX.cell 5 rfl
  have r6 := RX.cell 6 rfl
  have r7 := RX.cell 7 rfl
  have r8 := RX.cell 8 rfl
  have r9 := RX.cell 9 rfl
  have r10 := RX.cell 10 rfl
  have r11 := RX.cell 11 rfl
  have r12 := RX.cell 12 rfl
  have f0 := RX.fro 0
  have f1 := RX.fro 1
  have f2 := RX.fro 2
  have f3 := RX.fro 3
  have f4 := RX.fro 4
  have f5 := RX.fro 5
  have f6 := RX.fro 6
  have f7 := RX.fro 7
  have f8 := RX.fro 8
  have f9 := RX.fro 9
  have f10 := RX.fro 10
  have f11 := RX.fro 11
  have f12 := RX.fro 12
  have HR9 := hide ((((((((((((((RX.set 0 (.int .i64 n.id) (by simp)).set 1 (.int .i64 n.tm) (by simp)).set 2 (.int .i64 n.vo) (by simp)).set 3 (.slice la n.lg.length lc) (by simp)).set 4 (.slice sa n.st.length sc) (by simp)).set 5 (.int .i64 n.ro) (by simp)).set 6 (.slice va n.vs.length vc) (by simp)).set 7 (.slice na n.nx.length nc) (by simp)).set 8 (.slice ma n.mt.length mc) (by simp)).set 9 (.int .i64 n.cm) (by simp)).set 10 (.int .i64 n.el) (by simp)).set 11 (.int .i64 n.wt) (by simp)).set 12 (.bool n.up) (by simp)))
  have T9 := ((((((((((((((Touch.refl (fun q => q = w.heap.size + 1) w3).setCell ⟨w.heap.size + 1, 0, none⟩ (.int .i64 n.id) (fun _ => rfl)).setCell ⟨w.heap.size + 1, 1, none⟩ (.int .i64 n.tm) (fun _ => rfl)).setCell ⟨w.heap.size + 1, 2, none⟩ (.int .i64 n.vo) (fun _ => rfl)).setCell ⟨w.heap.size + 1, 3, none⟩ (.slice la n.lg.length lc) (fun _ => rfl)).setCell ⟨w.heap.size + 1, 4, none⟩ (.slice sa n.st.length sc) (fun _ => rfl)).setCell ⟨w.heap.size + 1, 5, none⟩ (.int .i64 n.ro) (fun _ => rfl)).setCell ⟨w.heap.size + 1, 6, none⟩ (.slice va n.vs.length vc) (fun _ => rfl)).setCell ⟨w.heap.size + 1, 7, none⟩ (.slice na n.nx.length nc) (fun _ => rfl)).setCell ⟨w.heap.size + 1, 8, none⟩ (.slice ma n.mt.length mc) (fun _ => rfl)).setCell ⟨w.heap.size + 1, 9, none⟩ (.int .i64 n.cm) (fun _ => rfl)).setCell ⟨w.heap.size + 1, 10, none⟩ (.int .i64 n.el) (fun _ => rfl)).setCell ⟨w.heap.size + 1, 11, none⟩ (.int .i64 n.wt) (fun _ => rfl)).setCell ⟨w.heap.size + 1, 12, none⟩ (.bool n.up) (fun _ => rfl))
  have KW := (unhide K2).trans ((unhide B3).mono (unhide K2).size)
  have K9 := hide (KW.trans (T9.below KW.size (fun k hk e => by omega)))
  have HT9 := hide T9
  clear RX T9 KW
  go_wp2_with fail
  have R9 := unhide HR9
  have z0 := R9.cell 0 rfl
  have z1 := R9.cell 1 rfl
  have z2 := R9.cell 2 rfl
  have z3 := R9.cell 3 rfl
  have z4 := R9.cell 4 rfl
  have z5 := R9.cell 5 rfl
  have z6 := R9.cell 6 rfl
  have z7 := R9.cell 7 rfl
  have z8 := R9.cell 8 rfl
  have z9 := R9.cell 9 rfl
  have z10 := R9.cell 10 rfl
  have z11 := R9.cell 11 rfl
  have z12 := R9.cell 12 rfl
  refine bodyPost_ret (v := .tuple #[.agg #[.int .i64 n.id, .int .i64 n.tm, .int .i64 n.vo, .slice la n.lg.length lc, .slice sa n.st.length sc, .int .i64 n.ro, .slice va n.vs.length vc, .slice na n.nx.length nc, .slice ma n.mt.length mc, .int .i64 n.cm, .int .i64 n.el, .int .i64 n.wt, .bool n.up], mv, .int .i64 0]) (by simp [results, Try.results6, go_sem, z0, z1, z2, z3, z4, z5, z6, z7, z8, z9, z10, z11, z12]) rfl ?_
  rw [unhide HU5]
  obtain ⟨g1, g2, g3, g4⟩ := unhide HG
  exact ⟨la, lc, sa, sc, va, vc, na, nc, ma, mc, mv, l, rfl, NoO.mono5 ((g1.below (unhide B3)).kept (unhide HT9) (fun q e _ => by omega)) (by omega), ((g2.below (unhide B3)).kept (unhide HT9) (fun q e _ => by omega)).down (by omega), g3, g4, unhide K9⟩
end Go.Proofs.Ytljolldacpkeeaa
