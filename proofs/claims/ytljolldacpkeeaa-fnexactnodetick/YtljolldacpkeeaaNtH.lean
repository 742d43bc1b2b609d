/- impl.NodeTick, walked. (Written by py/nth.py.) -/
import Derived.Test.YtljolldacpkeeaaNtG
import Derived.Test.YtljolldacpkeeaaNodQ
namespace Go.Proofs.Ytljolldacpkeeaa
open Go.ChangeShapes Go.WideShapes Go.ChangeAt Go.RowKit Go.Deep
set_option linter.unusedVariables false
set_option linter.unusedSimpArgs false

theorem NoO.mono3 {B B' : Nat} {w : World} {lv sv vv nv mv : Value} {lg : List En} {st vs nx mt : List Int} (h : NoO B w lv sv vv nv mv lg st vs nx mt) (hB : B' ≤ B) : NoO B' w lv sv vv nv mv lg st vs nx mt :=
  ⟨World.ownsRow.mono h.lg hB, h.st.mono hB, h.vs.mono hB, h.nx.mono hB, h.mt.mono hB, h.ap⟩
/-- What NodeTick tells. -/
def ntOut (ok : Bool) (n : NoD) (draw : Int) : NoD × List MV × Int :=
  if ok then (if inB draw 0 1000000 then (if n.up then ((tickOut n draw).1, (tickOut n draw).2, 0) else (n, [], 5)) else (zeroNo, [], 4)) else (zeroNo, [], 1)
theorem node_more {id tm vo ro cm el wt : Int} {up : Bool} {lg : List En} {st vs nx mt : List Int} (h : nodeB id tm vo ro cm el wt up lg st vs nx mt = true) : (0 ≤ ro ∧ ro ≤ 2) ∧ (0 ≤ el ∧ el ≤ 1000) ∧ 0 ≤ tm := by
  have h2 := (node_small h).2.2.2.2.2.2
  unfold nodeB at h
  simp only [Bool.and_eq_true, decide_eq_true_eq] at h
  obtain ⟨_, _, _, h4, _, _, _, h8, _⟩ := h
  unfold stateB at h2
  simp only [Bool.and_eq_true, decide_eq_true_eq] at h2
  exact ⟨inB_iff.1 h4, inB_iff.1 h8, (inB_iff.1 h2.1.1.1).1⟩
set_option maxHeartbeats 1000000 in
theorem tickAll_any (B b : Nat) (id tm vo ro cm el wt : Int) (up : Bool) (lg : List En) (st vs nx mt : List Int) (la : Option Addr) (lc : Nat) (sa : Option Addr) (sc : Nat) (va : Option Addr) (vc : Nat) (na : Option Addr) (nc : Nat) (ma : Option Addr) (mc : Nat) (draw : Int) (w : World) (hA : Actor B w b id tm vo ro cm el wt up (.slice la lg.length lc) (.slice sa st.length sc) (.slice va vs.length vc) (.slice na nx.length nc) (.slice ma mt.length mc) lg st vs nx mt) (hB : B ≤ w.heap.size) (hs : NoS lg st vs nx mt) (hh : nodeB id tm vo ro cm el wt up lg st vs nx mt = true) (hdr : 0 ≤ draw ∧ draw ≤ 1000000) :
    Calls Try.prog 29 #[.pointer (some ⟨b, 0, none⟩), .int .i64 draw] w fun e w' => (∃ v, e = .returned v) ∧ ActR B b (tickOut ⟨id, tm, vo, ro, cm, el, wt, up, lg, st, vs, nx, mt⟩ draw).1 (tickOut ⟨id, tm, vo, ro, cm, el, wt, up, lg, st, vs, nx, mt⟩ draw).2 w w' := by
  obtain ⟨p0, p1, p2, p3, p4, p5, p6⟩ := node_small hh
  obtain ⟨m1, m2, m3⟩ := node_more hh
  obtain ⟨n1, n2, n3⟩ := node_next hh
  have hz : ∀ i, (lg.getD i default).d.size ≤ maxLen := fun i => by have := hs.dt i; unfold maxLen; omega
  obtain ⟨hX, hlo, hO, hap⟩ := hA
  obtain ⟨g, c, eg⟩ : ∃ g c, (Value.slice na nx.length nc) = .slice (some ⟨g, 0, none⟩) 7 c := by
    rcases hO.nx.shape with ⟨_, h0⟩ | ⟨g, c, e⟩
    · rw [h0] at p3; simp at p3
    · exact ⟨g, c, by rw [e, p3]⟩
  obtain ⟨h, c', eh⟩ : ∃ h c, (Value.slice ma mt.length mc) = .slice (some ⟨h, 0, none⟩) 7 c := by
    rcases hO.mt.shape with ⟨_, h0⟩ | ⟨h, c, e⟩
    · rw [h0] at p4; simp at p4
    · exact ⟨h, c, by rw [e, p4]⟩
  rw [eg, eh] at hX hO hap
  have hcg := cfg_of_node hh
  by_cases hel : 1000 < el + 1
  · rcases (show ro = 2 ∨ ro = 1 ∨ ro = 0 by omega) with rfl | rfl | rfl
    · exact tick2b B b id tm vo cm el wt up lg st vs nx mt la lc sa sc va vc g c h c' draw w hX hO hap hlo hB hz p0 hcg p5 p3 p4 n2 m3 n1 hdr ⟨hel, by omega⟩
    · exact tick1b B b id tm vo cm el wt up lg st vs nx mt la lc sa sc va vc g c h c' draw w hX hO hap hlo hB hz p0 hcg p5 p3 p4 n2 m3 n1 hdr ⟨hel, by omega⟩
    · exact tick0b B b id tm vo cm el wt up lg st vs nx mt la lc sa sc va vc g c h c' draw w hX hO hap hlo hB hz p0 hcg p5 p3 p4 n2 m3 n1 hdr ⟨hel, by omega⟩
  · rcases (show ro = 2 ∨ ro = 1 ∨ ro = 0 by omega) with rfl | rfl | rfl
    · exact tick2a B b id tm vo cm el wt up lg st vs nx mt la lc sa sc va vc g c h c' draw w hX hO hap hlo hB hz p0 hcg p5 p3 p4 n2 m3 n1 hdr ⟨hel, by omega⟩
    · exact tick1a B b id tm vo cm el wt up lg st vs nx mt la lc sa sc va vc g c h c' draw w hX hO hap hlo hB hz p0 hcg p5 p3 p4 n2 m3 n1 hdr ⟨hel, by omega⟩
    · exact tick0a B b id tm vo cm el wt up lg st vs nx mt la lc sa sc va vc g c h c' draw w hX hO hap hlo hB hz p0 hcg p5 p3 p4 n2 m3 n1 hdr ⟨hel, by omega⟩
set_option maxRecDepth 100000 in
set_option maxHeartbeats 4000000 in
theorem implNodeTick_any (id tm vo ro cm el wt : Int) (up : Bool) (lg : List En) (st vs nx mt : List Int) (la : Option Addr) (lc : Nat) (sa : Option Addr) (sc : Nat) (va : Option Addr) (vc : Nat) (na : Option Addr) (nc : Nat) (ma : Option Addr) (mc : Nat) (draw : Int) (w : World) (h : NoR w (.slice la lg.length lc) (.slice sa st.length sc) (.slice va vs.length vc) (.slice na nx.length nc) (.slice ma mt.length mc) lg st vs nx mt) (hs : NoS lg st vs nx mt) :
    Calls Try.prog 8 #[.agg #[.int .i64 id, .int .i64 tm, .int .i64 vo, .slice la lg.length lc, .slice sa st.length sc, .int .i64 ro, .slice va vs.length vc, .slice na nx.length nc, .slice ma mt.length mc, .int .i64 cm, .int .i64 el, .int .i64 wt, .bool up], .int .i64 draw] w fun e w' => PAns w.heap.size (ntOut (nodeB id tm vo ro cm el wt up lg st vs nx mt) ⟨id, tm, vo, ro, cm, el, wt, up, lg, st, vs, nx, mt⟩ draw).1 (ntOut (nodeB id tm vo ro cm el wt up lg st vs nx mt) ⟨id, tm, vo, ro, cm, el, wt, up, lg, st, vs, nx, mt⟩ draw).2.1 (ntOut (nodeB id tm vo ro cm el wt up lg st vs nx mt) ⟨id, tm, vo, ro, cm, el, wt, up, lg, st, vs, nx, mt⟩ draw).2.2 w e w' := by
  have B0 := hide (((Below.refl w.heap.size w).alloc (Nat.le_refl _) (.cells #[.int .i64 id, .int .i64 tm, .int .i64 vo, .slice la lg.length lc, .slice sa st.length sc, .int .i64 ro, .slice va vs.length vc, .slice na nx.length nc, .slice ma mt.length mc, .int .i64 cm, .int .i64 el, .int .i64 wt, .bool up] 29)).alloc (by simp) (.cells #[.int .i64 0, .int .i64 0, .int .i64 0, .slice none 0 0, .slice none 0 0, .int .i64 0, .slice none 0 0, .slice none 0 0, .slice none 0 0, .int .i64 0, .int .i64 0, .int .i64 0, .bool false] 29))
  have X0 := hide ((Blk.new w #[.int .i64 id, .int .i64 tm, .int .i64 vo, .slice la lg.length lc, .slice sa st.length sc, .int .i64 ro, .slice va vs.length vc, .slice na nx.length nc, .slice ma mt.length mc, .int .i64 cm, .int .i64 el, .int .i64 wt, .bool up] 29 w.heap.size rfl).alloc (.cells #[.int .i64 0, .int .i64 0, .int .i64 0, .slice none 0 0, .slice none 0 0, .int .i64 0, .slice none 0 0, .slice none 0 0, .slice none 0 0, .int .i64 0, .int .i64 0, .int .i64 0, .bool false] 29))
  have R0 := hide (Blk.new (w.alloc (.cells #[.int .i64 id, .int .i64 tm, .int .i64 vo, .slice la lg.length lc, .slice sa st.length sc, .int .i64 ro, .slice va vs.length vc, .slice na nx.length nc, .slice ma mt.length mc, .int .i64 cm, .int .i64 el, .int .i64 wt, .bool up] 29)) #[.int .i64 0, .int .i64 0, .int .i64 0, .slice none 0 0, .slice none 0 0, .int .i64 0, .slice none 0 0, .slice none 0 0, .slice none 0 0, .int .i64 0, .int .i64 0, .int .i64 0, .bool false] 29 (w.heap.size + 1) (by simp))
  have HN := hide (fun wx (hx : Below w.heap.size w wx) => implNodeOK_any id tm vo ro cm el wt up lg st vs nx mt la lc sa sc va vc na nc ma mc wx (h.below hx) hs)
  have HU3 : Hid (∀ ok, ntOut ok ⟨id, tm, vo, ro, cm, el, wt, up, lg, st, vs, nx, mt⟩ draw = if ok then (if inB draw 0 1000000 then (if up then ((tickOut ⟨id, tm, vo, ro, cm, el, wt, up, lg, st, vs, nx, mt⟩ draw).1, (tickOut ⟨id, tm, vo, ro, cm, el, wt, up, lg, st, vs, nx, mt⟩ draw).2, 0) else (⟨id, tm, vo, ro, cm, el, wt, up, lg, st, vs, nx, mt⟩, [], 5)) else (zeroNo, [], 4)) else (zeroNo, [], 1)) := hide (fun ok => rfl)
  have HCp := hide (fun wx (hx : Below w.heap.size w wx) (hh : nodeB id tm vo ro cm el wt up lg st vs nx mt = true) => copyNode_any id tm vo ro cm el wt up lg st vs nx mt la lc sa sc va vc na nc ma mc wx (h.below hx) (by have := node_small hh; omega) (by have := node_small hh; omega) (by have := node_small hh; omega) (by have := node_small hh; omega) (by have := node_small hh; omega))
  have HNA := hide (fun wx (hx : Below w.heap.size w wx) (hh : nodeB id tm vo ro cm el wt up lg st vs nx mt = true) => newActor_any id tm vo ro cm el wt up lg st vs nx mt la lc sa sc va vc na nc ma mc wx (h.below hx) (by have := node_small hh; omega) (by have := node_small hh; omega) (by have := node_small hh; omega) (by have := node_small hh; omega) (by have := node_small hh; omega))
  have HPr := hide (fun wx (B b : Nat) (la : Option Addr) (lc : Nat) (sa : Option Addr) (sc : Nat) (va : Option Addr) (vc : Nat) (na : Option Addr) (nc : Nat) (ma : Option Addr) (mc : Nat) (hh : nodeB id tm vo ro cm el wt up lg st vs nx mt = true) (hin : inB draw 0 1000000 = true) (hA : Actor B wx b id tm vo ro cm el wt up (.slice la lg.length lc) (.slice sa st.length sc) (.slice va vs.length vc) (.slice na nx.length nc) (.slice ma mt.length mc) lg st vs nx mt) (hB : B ≤ wx.heap.size) => tickAll_any B b id tm vo ro cm el wt up lg st vs nx mt la lc sa sc va vc na nc ma mc draw wx hA hB hs hh (inB_iff.1 hin))
  clear h hs
  generalize nodeB id tm vo ro cm el wt up lg st vs nx mt = ok at *
  have HIn := hide (within_any draw 0 1000000)
  have x0 := (unhide X0).cell 0 rfl
  have x1 := (unhide X0).cell 1 rfl
  have x2 := (unhide X0).cell 2 rfl
  have x3 := (unhide X0).cell 3 rfl
  have x4 := (unhide X0).cell 4 rfl
  have x5 := (unhide X0).cell 5 rfl
  have x6 := (unhide X0).cell 6 rfl
  have x7 := (unhide X0).cell 7 rfl
  have x8 := (unhide X0).cell 8 rfl
  have x9 := (unhide X0).cell 9 rfl
  have x10 := (unhide X0).cell 10 rfl
  have x11 := (unhide X0).cell 11 rfl
  have x12 := (unhide X0).cell 12 rfl
  go_enter Try.func8, Try.ntmps8
  go_wp2_with fail
  generalize (w.alloc (.cells #[.int .i64 id, .int .i64 tm, .int .i64 vo, .slice la lg.length lc, .slice sa st.length sc, .int .i64 ro, .slice va vs.length vc, .slice na nx.length nc, .slice ma mt.length mc, .int .i64 cm, .int .i64 el, .int .i64 wt, .bool up] 29)).alloc (.cells #[.int .i64 0, .int .i64 0, .int .i64 0, .slice none 0 0, .slice none 0 0, .int .i64 0, .slice none 0 0, .slice none 0 0, .slice none 0 0, .int .i64 0, .int .i64 0, .int .i64 0, .bool false] 29) = w0 at *
  refine (unhide HN w0 (unhide B0)).mono ?_
  rintro e w1 ⟨rfl, hb⟩
  have K1 := hide ((unhide B0).trans (hb.mono (unhide B0).size))
  have X1 := hide ((unhide X0).below hb)
  have R1 := hide ((unhide R0).below hb)
  have hrw : w.heap.size + 1 < w0.heap.size := (unhide R0).1
  have hs1 := hb.size
  clear hb x0 x1 x2 x3 x4 x5 x6 x7 x8 x9 x10 x11 x12 X0 B0 R0 HN
  cases ok
  · have HU2 := hide (show ntOut false ⟨id, tm, vo, ro, cm, el, wt, up, lg, st, vs, nx, mt⟩ draw = (zeroNo, [], 1) by rw [unhide HU3]; simp)
    have RX := unhide R1
    have r0 := RX.cell 0 rfl
    have r1 := RX.cell 1 rfl
    have r2 := RX.cell 2 rfl
    have r3 := RX.cell 3 rfl
    have r4 := RX.cell 4 rfl
    have r5 := RX.cell 5 rfl
    have r6 := RX.cell 6 rfl
    have r7 := RX.cell 7 rfl
    have r8 := RX.cell 8 rfl
    have r9 := RX.cell 9 rfl
    have r10 := RX.cell 10 rfl
    have r11 := RX.cell 11 rfl
    have r12 := RX.cell 12 rfl
    have f0 := RX.fro 0
    have f1 := RX.fro 1
    have f2 := RX.fro 2
    have f3 := RX.fro 3
    have f4 := RX.fro 4
    have f5 := RX.fro 5
    have f6 := RX.fro 6
    have f7 := RX.fro 7
    have f8 := RX.fro 8
    have f9 := RX.fro 9
    have f10 := RX.fro 10
    have f11 := RX.fro 11
    have f12 := RX.fro 12
    have HR9 := hide ((((((((((((((RX.set 0 (.int .i64 0) (by simp)).set 1 (.int .i64 0) (by simp)).set 2 (.int .i64 0) (by simp)).set 3 (.slice none 0 0) (by simp)).set 4 (.slice none 0 0) (by simp)).set 5 (.int .i64 0) (by simp)).set 6 (.slice none 0 0) (by simp)).set 7 (.slice none 0 0) (by simp)).set 8 (.slice none 0 0) (by simp)).set 9 (.int .i64 0) (by simp)).set 10 (.int .i64 0) (by simp)).set 11 (.int .i64 0) (by simp)).set 12 (.bool false) (by simp)))
    have T9 := ((((((((((((((Touch.refl (fun q => q = w.heap.size + 1) w1).setCell ⟨w.heap.size + 1, 0, none⟩ (.int .i64 0) (fun _ => rfl)).setCell ⟨w.heap.size + 1, 1, none⟩ (.int .i64 0) (fun _ => rfl)).setCell ⟨w.heap.size + 1, 2, none⟩ (.int .i64 0) (fun _ => rfl)).setCell ⟨w.heap.size + 1, 3, none⟩ (.slice none 0 0) (fun _ => rfl)).setCell ⟨w.heap.size + 1, 4, none⟩ (.slice none 0 0) (fun _ => rfl)).setCell ⟨w.heap.size + 1, 5, none⟩ (.int .i64 0) (fun _ => rfl)).setCell ⟨w.heap.size + 1, 6, none⟩ (.slice none 0 0) (fun _ => rfl)).setCell ⟨w.heap.size + 1, 7, none⟩ (.slice none 0 0) (fun _ => rfl)).setCell ⟨w.heap.size + 1, 8, none⟩ (.slice none 0 0) (fun _ => rfl)).setCell ⟨w.heap.size + 1, 9, none⟩ (.int .i64 0) (fun _ => rfl)).setCell ⟨w.heap.size + 1, 10, none⟩ (.int .i64 0) (fun _ => rfl)).setCell ⟨w.heap.size + 1, 11, none⟩ (.int .i64 0) (fun _ => rfl)).setCell ⟨w.heap.size + 1, 12, none⟩ (.bool false) (fun _ => rfl))
    have KW := unhide K1
    have K9 := hide (KW.trans (T9.below KW.size (fun k hk e => by omega)))
    have HT9 := hide T9
    clear RX T9 KW
    go_wp2_with fail
    have R9 := unhide HR9
    have z0 := R9.cell 0 rfl
    have z1 := R9.cell 1 rfl
    have z2 := R9.cell 2 rfl
    have z3 := R9.cell 3 rfl
    have z4 := R9.cell 4 rfl
    have z5 := R9.cell 5 rfl
    have z6 := R9.cell 6 rfl
    have z7 := R9.cell 7 rfl
    have z8 := R9.cell 8 rfl
    have z9 := R9.cell 9 rfl
    have z10 := R9.cell 10 rfl
    have z11 := R9.cell 11 rfl
    have z12 := R9.cell 12 rfl
    refine bodyPost_ret (v := .tuple #[.agg #[.int .i64 0, .int .i64 0, .int .i64 0, .slice none 0 0, .slice none 0 0, .int .i64 0, .slice none 0 0, .slice none 0 0, .slice none 0 0, .int .i64 0, .int .i64 0, .int .i64 0, .bool false], .slice none 0 0, .int .i64 1]) (by simp [results, Try.results8, go_sem, z0, z1, z2, z3, z4, z5, z6, z7, z8, z9, z10, z11, z12]) rfl ?_
    rw [unhide HU2]
    exact ⟨none, 0, none, 0, none, 0, none, 0, none, 0, .slice none 0 0, [], rfl, noO_zero _ _, Ns.nil _ _ _, rfl, fun q _ => nsT_nil q, unhide K9⟩
  have HU4 := hide (show ntOut true ⟨id, tm, vo, ro, cm, el, wt, up, lg, st, vs, nx, mt⟩ draw = if inB draw 0 1000000 then (if up then ((tickOut ⟨id, tm, vo, ro, cm, el, wt, up, lg, st, vs, nx, mt⟩ draw).1, (tickOut ⟨id, tm, vo, ro, cm, el, wt, up, lg, st, vs, nx, mt⟩ draw).2, 0) else (⟨id, tm, vo, ro, cm, el, wt, up, lg, st, vs, nx, mt⟩, [], 5)) else (zeroNo, [], 4) by rw [unhide HU3]; simp)
  clear HU3
  have HIn1 := hide (unhide HIn w1)
  go_wp2_with fail
  refine (unhide HIn1).mono ?_
  generalize inB draw 0 1000000 = bo at *
  rintro e w' ⟨rfl, hw'⟩
  have hw2 := hw'.symm
  clear hw' HIn1 HIn
  subst hw2
  cases bo
  · have HU2 := hide (show ntOut true ⟨id, tm, vo, ro, cm, el, wt, up, lg, st, vs, nx, mt⟩ draw = (zeroNo, [], 4) by rw [unhide HU4]; simp)
    have RX := unhide R1
    have r0 := RX.cell 0 rfl
    have r1 := RX.cell 1 rfl
    have r2 := RX.cell 2 rfl
    have r3 := RX.cell 3 rfl
    have r4 := RX.cell 4 rfl
    have r5 := RX.cell 5 rfl
    have r6 := RX.cell 6 rfl
    have r7 := RX.cell 7 rfl
    have r8 := RX.cell 8 rfl
    have r9 := RX.cell 9 rfl
    have r10 := RX.cell 10 rfl
    have r11 := RX.cell 11 rfl
    have r12 := RX.cell 12 rfl
    have f0 := RX.fro 0
    have f1 := RX.fro 1
    have f2 := RX.fro 2
    have f3 := RX.fro 3
    have f4 := RX.fro 4
    have f5 := RX.fro 5
    have f6 := RX.fro 6
    have f7 := RX.fro 7
    have f8 := RX.fro 8
    have f9 := RX.fro 9
    have f10 := RX.fro 10
    have f11 := RX.fro 11
    have f12 := RX.fro 12
    have HR9 := hide ((((((((((((((RX.set 0 (.int .i64 0) (by simp)).set 1 (.int .i64 0) (by simp)).set 2 (.int .i64 0) (by simp)).set 3 (.slice none 0 0) (by simp)).set 4 (.slice none 0 0) (by simp)).set 5 (.int .i64 0) (by simp)).set 6 (.slice none 0 0) (by simp)).set 7 (.slice none 0 0) (by simp)).set 8 (.slice none 0 0) (by simp)).set 9 (.int .i64 0) (by simp)).set 10 (.int .i64 0) (by simp)).set 11 (.int .i64 0) (by simp)).set 12 (.bool false) (by simp)))
    have T9 := ((((((((((((((Touch.refl (fun q => q = w.heap.size + 1) w1).setCell ⟨w.heap.size + 1, 0, none⟩ (.int .i64 0) (fun _ => rfl)).setCell ⟨w.heap.size + 1, 1, none⟩ (.int .i64 0) (fun _ => rfl)).setCell ⟨w.heap.size + 1, 2, none⟩ (.int .i64 0) (fun _ => rfl)).setCell ⟨w.heap.size + 1, 3, none⟩ (.slice none 0 0) (fun _ => rfl)).setCell ⟨w.heap.size + 1, 4, none⟩ (.slice none 0 0) (fun _ => rfl)).setCell ⟨w.heap.size + 1, 5, none⟩ (.int .i64 0) (fun _ => rfl)).setCell ⟨w.heap.size + 1, 6, none⟩ (.slice none 0 0) (fun _ => rfl)).setCell ⟨w.heap.size + 1, 7, none⟩ (.slice none 0 0) (fun _ => rfl)).setCell ⟨w.heap.size + 1, 8, none⟩ (.slice none 0 0) (fun _ => rfl)).setCell ⟨w.heap.size + 1, 9, none⟩ (.int .i64 0) (fun _ => rfl)).setCell ⟨w.heap.size + 1, 10, none⟩ (.int .i64 0) (fun _ => rfl)).setCell ⟨w.heap.size + 1, 11, none⟩ (.int .i64 0) (fun _ => rfl)).setCell ⟨w.heap.size + 1, 12, none⟩ (.bool false) (fun _ => rfl))
    have KW := unhide K1
    have K9 := hide (KW.trans (T9.below KW.size (fun k hk e => by omega)))
    have HT9 := hide T9
    clear RX T9 KW
    go_wp2_with fail
    have R9 := unhide HR9
    have z0 := R9.cell 0 rfl
    have z1 := R9.cell 1 rfl
    have z2 := R9.cell 2 rfl
    have z3 := R9.cell 3 rfl
    have z4 := R9.cell 4 rfl
    have z5 := R9.cell 5 rfl
    have z6 := R9.cell 6 rfl
    have z7 := R9.cell 7 rfl
    have z8 := R9.cell 8 rfl
    have z9 := R9.cell 9 rfl
    have z10 := R9.cell 10 rfl
    have z11 := R9.cell 11 rfl
    have z12 := R9.cell 12 rfl
    refine bodyPost_ret (v := .tuple #[.agg #[.int .i64 0, .int .i64 0, .int .i64 0, .slice none 0 0, .slice none 0 0, .int .i64 0, .slice none 0 0, .slice none 0 0, .slice none 0 0, .int .i64 0, .int .i64 0, .int .i64 0, .bool false], .slice none 0 0, .int .i64 4]) (by simp [results, Try.results8, go_sem, z0, z1, z2, z3, z4, z5, z6, z7, z8, z9, z10, z11, z12]) rfl ?_
    rw [unhide HU2]
    exact ⟨none, 0, none, 0, none, 0, none, 0, none, 0, .slice none 0 0, [], rfl, noO_zero _ _, Ns.nil _ _ _, rfl, fun q _ => nsT_nil q, unhide K9⟩
  have HU5 := hide (show ntOut true ⟨id, tm, vo, ro, cm, el, wt, up, lg, st, vs, nx, mt⟩ draw = if up then ((tickOut ⟨id, tm, vo, ro, cm, el, wt, up, lg, st, vs, nx, mt⟩ draw).1, (tickOut ⟨id, tm, vo, ro, cm, el, wt, up, lg, st, vs, nx, mt⟩ draw).2, 0) else (⟨id, tm, vo, ro, cm, el, wt, up, lg, st, vs, nx, mt⟩, [], 5) by rw [unhide HU4]; simp)
  clear HU4
  have x0 := (unhide X1).cell 0 rfl
  have x1 := (unhide X1).cell 1 rfl
  have x2 := (unhide X1).cell 2 rfl
  have x3 := (unhide X1).cell 3 rfl
  have x4 := (unhide X1).cell 4 rfl
  have x5 := (unhide X1).cell 5 rfl
  have x6 := (unhide X1).cell 6 rfl
  have x7 := (unhide X1).cell 7 rfl
  have x8 := (unhide X1).cell 8 rfl
  have x9 := (unhide X1).cell 9 rfl
  have x10 := (unhide X1).cell 10 rfl
  have x11 := (unhide X1).cell 11 rfl
  have x12 := (unhide X1).cell 12 rfl
  have hk1 := (unhide K1).size
  cases up
  · have HC := hide (unhide HCp w1 (unhide K1) (by first | trivial | rfl))
    have HU2 := hide (show ntOut true ⟨id, tm, vo, ro, cm, el, wt, false, lg, st, vs, nx, mt⟩ draw = (⟨id, tm, vo, ro, cm, el, wt, false, lg, st, vs, nx, mt⟩, [], 5) by rw [unhide HU5]; rfl)
    go_wp2_with fail
    refine (unhide HC).mono ?_
    rintro e w2 ⟨la2, lc2, sa2, sc2, va2, vc2, na2, nc2, ma2, mc2, rfl, hO, hb⟩
    clear x0 x1 x2 x3 x4 x5 x6 x7 x8 x9 x10 x11 x12 HC
    have HO := hide hO
    have RX := (unhide R1).below hb
    have r0 := RX.cell 0 rfl
    have r1 := RX.cell 1 rfl
    have r2 := RX.cell 2 rfl
    have r3 := RX.cell 3 rfl
    have r4 := RX.cell 4 rfl
    have r5 := RX.cell 5 rfl
    have r6 := RX.cell 6 rfl
    have r7 := RX.cell 7 rfl
    have r8 := RX.cell 8 rfl
    have r9 := RX.cell 9 rfl
    have r10 := RX.cell 10 rfl
    have r11 := RX.cell 11 rfl
    have r12 := RX.cell 12 rfl
    have f0 := RX.fro 0
    have f1 := RX.fro 1
    have f2 := RX.fro 2
    have f3 := RX.fro 3
    have f4 := RX.fro 4
    have f5 := RX.fro 5
    have f6 := RX.fro 6
    have f7 := RX.fro 7
    have f8 := RX.fro 8
    have f9 := RX.fro 9
    have f10 := RX.fro 10
    have f11 := RX.fro 11
    have f12 := RX.fro 12
    have HR9 := hide ((((((((((((((RX.set 0 (.int .i64 id) (by simp)).set 1 (.int .i64 tm) (by simp)).set 2 (.int .i64 vo) (by simp)).set 3 (.slice la2 lg.length lc2) (by simp)).set 4 (.slice sa2 st.length sc2) (by simp)).set 5 (.int .i64 ro) (by simp)).set 6 (.slice va2 vs.length vc2) (by simp)).set 7 (.slice na2 nx.length nc2) (by simp)).set 8 (.slice ma2 mt.length mc2) (by simp)).set 9 (.int .i64 cm) (by simp)).set 10 (.int .i64 el) (by simp)).set 11 (.int .i64 wt) (by simp)).set 12 (.bool false) (by simp)))
    have T9 := ((((((((((((((Touch.refl (fun q => q = w.heap.size + 1) w2).setCell ⟨w.heap.size + 1, 0, none⟩ (.int .i64 id) (fun _ => rfl)).setCell ⟨w.heap.size + 1, 1, none⟩ (.int .i64 tm) (fun _ => rfl)).setCell ⟨w.heap.size + 1, 2, none⟩ (.int .i64 vo) (fun _ => rfl)).setCell ⟨w.heap.size + 1, 3, none⟩ (.slice la2 lg.length lc2) (fun _ => rfl)).setCell ⟨w.heap.size + 1, 4, none⟩ (.slice sa2 st.length sc2) (fun _ => rfl)).setCell ⟨w.heap.size + 1, 5, none⟩ (.int .i64 ro) (fun _ => rfl)).setCell ⟨w.heap.size + 1, 6, none⟩ (.slice va2 vs.length vc2) (fun _ => rfl)).setCell ⟨w.heap.size + 1, 7, none⟩ (.slice na2 nx.length nc2) (fun _ => rfl)).setCell ⟨w.heap.size + 1, 8, none⟩ (.slice ma2 mt.length mc2) (fun _ => rfl)).setCell ⟨w.heap.size + 1, 9, none⟩ (.int .i64 cm) (fun _ => rfl)).setCell ⟨w.heap.size + 1, 10, none⟩ (.int .i64 el) (fun _ => rfl)).setCell ⟨w.heap.size + 1, 11, none⟩ (.int .i64 wt) (fun _ => rfl)).setCell ⟨w.heap.size + 1, 12, none⟩ (.bool false) (fun _ => rfl))
    have KW := (unhide K1).trans (hb.mono (unhide K1).size)
    have K9 := hide (KW.trans (T9.below KW.size (fun k hk e => by omega)))
    have HT9 := hide T9
    clear RX T9 KW
    clear hb hO
    go_wp2_with fail
    have R9 := unhide HR9
    have z0 := R9.cell 0 rfl
    have z1 := R9.cell 1 rfl
    have z2 := R9.cell 2 rfl
    have z3 := R9.cell 3 rfl
    have z4 := R9.cell 4 rfl
    have z5 := R9.cell 5 rfl
    have z6 := R9.cell 6 rfl
    have z7 := R9.cell 7 rfl
    have z8 := R9.cell 8 rfl
    have z9 := R9.cell 9 rfl
    have z10 := R9.cell 10 rfl
    have z11 := R9.cell 11 rfl
    have z12 := R9.cell 12 rfl
    refine bodyPost_ret (v := .tuple #[.agg #[.int .i64 id, .int .i64 tm, .int .i64 vo, .slice la2 lg.length lc2, .slice sa2 st.length sc2, .int .i64 ro, .slice va2 vs.length vc2, .slice na2 nx.length nc2, .slice ma2 mt.length mc2, .int .i64 cm, .int .i64 el, .int .i64 wt, .bool false], .slice none 0 0, .int .i64 5]) (by simp [results, Try.results8, go_sem, z0, z1, z2, z3, z4, z5, z6, z7, z8, z9, z10, z11, z12]) rfl ?_
    rw [unhide HU2]
    exact ⟨la2, lc2, sa2, sc2, va2, vc2, na2, nc2, ma2, mc2, .slice none 0 0, [], rfl, NoO.mono3 ((unhide HO).kept (unhide HT9) (fun k e _ => by omega)) (by omega), Ns.nil _ _ _, rfl, fun q _ => nsT_nil q, unhide K9⟩
  have HC := hide (unhide HNA w1 (unhide K1) (by first | trivial | rfl))
  have HU6 := hide (show ntOut true ⟨id, tm, vo, ro, cm, el, wt, true, lg, st, vs, nx, mt⟩ draw = ((tickOut ⟨id, tm, vo, ro, cm, el, wt, true, lg, st, vs, nx, mt⟩ draw).1, (tickOut ⟨id, tm, vo, ro, cm, el, wt, true, lg, st, vs, nx, mt⟩ draw).2, 0) by rw [unhide HU5]; rfl)
  go_wp2_with fail
  refine (unhide HC).mono ?_
  rintro e w2 ⟨b, la2, lc2, sa2, sc2, va2, vc2, na2, nc2, ma2, mc2, rfl, hA, hb⟩
  have hs2 := hb.size
  have hlo := hA.lo
  have HP2 := hide (unhide HPr w2 w1.heap.size b la2 lc2 sa2 sc2 va2 vc2 na2 nc2 ma2 mc2 (by first | trivial | rfl) (by first | trivial | rfl) hA hb.size)
  have K2 := hide ((unhide K1).trans (hb.mono (unhide K1).size))
  have R2 := hide ((unhide R1).below hb)
  clear x0 x1 x2 x3 x4 x5 x6 x7 x8 x9 x10 x11 x12 HC hA hb HU5 HPr HNA HCp R1 K1 X1
  generalize tickOut ⟨id, tm, vo, ro, cm, el, wt, true, lg, st, vs, nx, mt⟩ draw = out at HP2 HU6
  obtain ⟨n, ms⟩ := out
  dsimp only at HP2 HU6
  go_wp2_with fail
  refine (unhide HP2).mono ?_
  rintro e w3 ⟨⟨v3, rfl⟩, la, lc, sa, sc, va, vc, na, nc, ma, mc, v, l, hX, hO, hNs, hms, hap, hap2, hT⟩
  have hs3 := hT.size
  have R3 := hide ((unhide R2).kept hT (fun e => by omega))
  have K3 := hide ((unhide K2).trans (hT.below (unhide K2).size (fun k hk e => by omega)))
  have HX3 := hide hX
  have HQ := hide (And.intro hO (And.intro hNs (And.intro hms hap)))
  clear hX hO hNs hms hap hap2 hT HP2 R2 K2
  have hb3 : b < w3.heap.size := (unhide HX3).1
  have x0 := (unhide HX3).cell 0 rfl
  have x1 := (unhide HX3).cell 1 rfl
  have x2 := (unhide HX3).cell 2 rfl
  have x3 := (unhide HX3).cell 3 rfl
  have x4 := (unhide HX3).cell 4 rfl
  have x5 := (unhide HX3).cell 5 rfl
  have x6 := (unhide HX3).cell 6 rfl
  have x7 := (unhide HX3).cell 7 rfl
  have x8 := (unhide HX3).cell 8 rfl
  have x9 := (unhide HX3).cell 9 rfl
  have x10 := (unhide HX3).cell 10 rfl
  have x11 := (unhide HX3).cell 11 rfl
  have x12 := (unhide HX3).cell 12 rfl
  have x13 := (unhide HX3).cell 13 rfl
  go_wp2_with fail
  have R4 := hide ((unhide R3).drewN 1)
  have K4 := hide (below_drewN (unhide K3) 1)
  have X4 := hide ((unhide HX3).drewN 1)
  have O4 := hide ((unhide HQ).1.drewN 1)
  have N4 := hide ((unhide HQ).2.1.kept (T := fun _ => False) ((Touch.refl (fun _ => False) w3).drewN 1) (fun _ e => e.elim))
  change Hid (Blk w3.drew (w.heap.size + 1) _) at R4
  change Hid (Below w.heap.size w w3.drew) at K4
  change Hid (Blk w3.drew b _) at X4
  change Hid (NoO _ w3.drew _ _ _ _ _ _ _ _ _ _) at O4
  change Hid (Ns mgS _ w3.drew _ _ _) at N4
  refine wp_region_noPanic ?_
  refine wp_region_held_drew (S := (fun wx => wx.cell? ⟨b, 0, none⟩ = some (.int .i64 n.id) ∧ wx.cell? ⟨b, 1, none⟩ = some (.int .i64 n.tm) ∧ wx.cell? ⟨b, 2, none⟩ = some (.int .i64 n.vo) ∧ wx.cell? ⟨b, 3, none⟩ = some (.slice la n.lg.length lc) ∧ wx.cell? ⟨b, 4, none⟩ = some (.slice sa n.st.length sc) ∧ wx.cell? ⟨b, 5, none⟩ = some (.int .i64 n.ro) ∧ wx.cell? ⟨b, 6, none⟩ = some (.slice va n.vs.length vc) ∧ wx.cell? ⟨b, 7, none⟩ = some (.slice na n.nx.length nc) ∧ wx.cell? ⟨b, 8, none⟩ = some (.slice ma n.mt.length mc) ∧ wx.cell? ⟨b, 9, none⟩ = some (.int .i64 n.cm) ∧ wx.cell? ⟨b, 10, none⟩ = some (.int .i64 n.el) ∧ wx.cell? ⟨b, 11, none⟩ = some (.int .i64 n.wt) ∧ wx.cell? ⟨b, 12, none⟩ = some (.bool n.up) ∧ wx.cell? ⟨b, 13, none⟩ = some (v))) (by kernel_rfl) ?_ (fun hHeld => ?_)
  · exact ⟨x0, x1, x2, x3, x4, x5, x6, x7, x8, x9, x10, x11, x12, x13⟩
  refine wpAnyH_take (i := 0) (oi := _) (v := ?_) rfl (by kernel_rfl) (by kernel_rfl) (by kernel_rfl) (fun _ _ _ h => h) (Or.inl ⟨by rfl, ?_⟩) (by assumption) ?_
  rotate_left 1
  · (intro wq hSw; (try dsimp only at hSw); (try simp only [List.getElem_toArray, List.getElem_cons_succ, List.getElem_cons_zero]); go_simp; try with_reducible rfl)
  (try simp only [Act.put, List.getElem_toArray, List.getElem_cons_succ, List.getElem_cons_zero, List.setIfInBounds_toArray, List.set_cons_zero, List.set_cons_succ])
  refine wpAnyH_take (i := 1) (oi := _) (v := ?_) rfl (by kernel_rfl) (by kernel_rfl) (by kernel_rfl) (fun _ _ _ h => h) (Or.inl ⟨by rfl, ?_⟩) (by assumption) ?_
  rotate_left 1
  · (intro wq hSw; (try dsimp only at hSw); (try simp only [List.getElem_toArray, List.getElem_cons_succ, List.getElem_cons_zero]); go_simp; try with_reducible rfl)
  (try simp only [Act.put, List.getElem_toArray, List.getElem_cons_succ, List.getElem_cons_zero, List.setIfInBounds_toArray, List.set_cons_zero, List.set_cons_succ])
  refine wpAnyH_take (i := 2) (oi := _) (v := ?_) rfl (by kernel_rfl) (by kernel_rfl) (by kernel_rfl) (fun _ _ _ h => h) (Or.inl ⟨by rfl, ?_⟩) (by assumption) ?_
  rotate_left 1
  · (intro wq hSw; (try dsimp only at hSw); (try simp only [List.getElem_toArray, List.getElem_cons_succ, List.getElem_cons_zero]); go_simp; try with_reducible rfl)
  (try simp only [Act.put, List.getElem_toArray, List.getElem_cons_succ, List.getElem_cons_zero, List.setIfInBounds_toArray, List.set_cons_zero, List.set_cons_succ])
  refine wpAnyH_take (i := 3) (oi := _) (v := ?_) rfl (by kernel_rfl) (by kernel_rfl) (by kernel_rfl) (fun _ _ _ h => h) (Or.inl ⟨by rfl, ?_⟩) (by assumption) ?_
  rotate_left 1
  · (intro wq hSw; (try dsimp only at hSw); (try simp only [List.getElem_toArray, List.getElem_cons_succ, List.getElem_cons_zero]); go_simp; try with_reducible rfl)
  (try simp only [Act.put, List.getElem_toArray, List.getElem_cons_succ, List.getElem_cons_zero, List.setIfInBounds_toArray, List.set_cons_zero, List.set_cons_succ])
  refine wpAnyH_take (i := 4) (oi := _) (v := ?_) rfl (by kernel_rfl) (by kernel_rfl) (by kernel_rfl) (fun _ _ _ h => h) (Or.inl ⟨by rfl, ?_⟩) (by assumption) ?_
  rotate_left 1
  · (intro wq hSw; (try dsimp only at hSw); (try simp only [List.getElem_toArray, List.getElem_cons_succ, List.getElem_cons_zero]); go_simp; try with_reducible rfl)
  (try simp only [Act.put, List.getElem_toArray, List.getElem_cons_succ, List.getElem_cons_zero, List.setIfInBounds_toArray, List.set_cons_zero, List.set_cons_succ])
  refine wpAnyH_take (i := 5) (oi := _) (v := ?_) rfl (by kernel_rfl) (by kernel_rfl) (by kernel_rfl) (fun _ _ _ h => h) (Or.inl ⟨by rfl, ?_⟩) (by assumption) ?_
  rotate_left 1
  · (intro wq hSw; (try dsimp only at hSw); (try simp only [List.getElem_toArray, List.getElem_cons_succ, List.getElem_cons_zero]); go_simp; try with_reducible rfl)
  (try simp only [Act.put, List.getElem_toArray, List.getElem_cons_succ, List.getElem_cons_zero, List.setIfInBounds_toArray, List.set_cons_zero, List.set_cons_succ])
  refine wpAnyH_take (i := 6) (oi := _) (v := ?_) rfl (by kernel_rfl) (by kernel_rfl) (by kernel_rfl) (fun _ _ _ h => h) (Or.inl ⟨by rfl, ?_⟩) (by assumption) ?_
  rotate_left 1
  · (intro wq hSw; (try dsimp only at hSw); (try simp only [List.getElem_toArray, List.getElem_cons_succ, List.getElem_cons_zero]); go_simp; try with_reducible rfl)
  (try simp only [Act.put, List.getElem_toArray, List.getElem_cons_succ, List.getElem_cons_zero, List.setIfInBounds_toArray, List.set_cons_zero, List.set_cons_succ])
  refine wpAnyH_take (i := 7) (oi := _) (v := ?_) rfl (by kernel_rfl) (by kernel_rfl) (by kernel_rfl) (fun _ _ _ h => h) (Or.inl ⟨by rfl, ?_⟩) (by assumption) ?_
  rotate_left 1
  · (intro wq hSw; (try dsimp only at hSw); (try simp only [List.getElem_toArray, List.getElem_cons_succ, List.getElem_cons_zero]); go_simp; try with_reducible rfl)
  (try simp only [Act.put, List.getElem_toArray, List.getElem_cons_succ, List.getElem_cons_zero, List.setIfInBounds_toArray, List.set_cons_zero, List.set_cons_succ])
  clear x0 x1 x2 x3 x4 x5 x6 x7 x8 x9 x10 x11 x12 x13 R3 K3 HX3
  have HQ2 := hide (unhide HQ).2.2
  clear HQ
  generalize w3.drew = w4 at *
  have RX := unhide R4
  have r0 := RX.cell 0 rfl
  have r1 := RX.cell 1 rfl
  have r2 := RX.cell 2 rfl
  have r3 := RX.cell 3 rfl
  have r4 := RX.cell 4 rfl
  have r5 := RX.cell 5 rfl
  have r6 := RX.cell 6 rfl
  have r7 := RX.cell 7 rfl
  have r8 := RX.cell 8 rfl
  have r9 := RX.cell 9 rfl
  have r10 := RX.cell 10 rfl
  have r11 := RX.cell 11 rfl
  have r12 := RX.cell 12 rfl
  have f0 := RX.fro 0
  have f1 := RX.fro 1
  have f2 := RX.fro 2
  have f3 := RX.fro 3
  have f4 := RX.fro 4
  have f5 := RX.fro 5
  have f6 := RX.fro 6
  have f7 := RX.fro 7
  have f8 := RX.fro 8
  have f9 := RX.fro 9
  have f10 := RX.fro 10
  have f11 := RX.fro 11
  have f12 := RX.fro 12
  have HR9 := hide ((((((((((((((RX.set 0 (.int .i64 n.id) (by simp)).set 1 (.int .i64 n.tm) (by simp)).set 2 (.int .i64 n.vo) (by simp)).set 3 (.slice la n.lg.length lc) (by simp)).set 4 (.slice sa n.st.length sc) (by simp)).set 5 (.int .i64 n.ro) (by simp)).set 6 (.slice va n.vs.length vc) (by simp)).set 7 (.slice na n.nx.length nc) (by simp)).set 8 (.slice ma n.mt.length mc) (by simp)).set 9 (.int .i64 n.cm) (by simp)).set 10 (.int .i64 n.el) (by simp)).set 11 (.int .i64 n.wt) (by simp)).set 12 (.bool n.up) (by simp)))
  have T9 := ((((((((((((((Touch.refl (fun q => q = w.heap.size + 1) w4).setCell ⟨w.heap.size + 1, 0, none⟩ (.int .i64 n.id) (fun _ => rfl)).setCell ⟨w.heap.size + 1, 1, none⟩ (.int .i64 n.tm) (fun _ => rfl)).setCell ⟨w.heap.size + 1, 2, none⟩ (.int .i64 n.vo) (fun _ => rfl)).setCell ⟨w.heap.size + 1, 3, none⟩ (.slice la n.lg.length lc) (fun _ => rfl)).setCell ⟨w.heap.size + 1, 4, none⟩ (.slice sa n.st.length sc) (fun _ => rfl)).setCell ⟨w.heap.size + 1, 5, none⟩ (.int .i64 n.ro) (fun _ => rfl)).setCell ⟨w.heap.size + 1, 6, none⟩ (.slice va n.vs.length vc) (fun _ => rfl)).setCell ⟨w.heap.size + 1, 7, none⟩ (.slice na n.nx.length nc) (fun _ => rfl)).setCell ⟨w.heap.size + 1, 8, none⟩ (.slice ma n.mt.length mc) (fun _ => rfl)).setCell ⟨w.heap.size + 1, 9, none⟩ (.int .i64 n.cm) (fun _ => rfl)).setCell ⟨w.heap.size + 1, 10, none⟩ (.int .i64 n.el) (fun _ => rfl)).setCell ⟨w.heap.size + 1, 11, none⟩ (.int .i64 n.wt) (fun _ => rfl)).setCell ⟨w.heap.size + 1, 12, none⟩ (.bool n.up) (fun _ => rfl))
  have KW := unhide K4
  have K9 := hide (KW.trans (T9.below KW.size (fun k hk e => by omega)))
  have HT9 := hide T9
  clear RX T9 KW
  have X9 := hide ((unhide X4).kept (unhide HT9) (fun e => by omega))
  refine wpAnyH_ready (rs := [8]) (by kernel_rfl) (by simp) ?_
  refine AllReadyH.cons (o := _) rfl (fun K hK => ?_) AllReadyH.nil
  go_simp
  refine hK.out _ _ ?_ (fun hHeld => ?_)
  · exact ⟨(unhide X9).cell 0 rfl, (unhide X9).cell 1 rfl, (unhide X9).cell 2 rfl, (unhide X9).cell 3 rfl, (unhide X9).cell 4 rfl, (unhide X9).cell 5 rfl, (unhide X9).cell 6 rfl, (unhide X9).cell 7 rfl, (unhide X9).cell 8 rfl, (unhide X9).cell 9 rfl, (unhide X9).cell 10 rfl, (unhide X9).cell 11 rfl, (unhide X9).cell 12 rfl, (unhide X9).cell 13 rfl⟩
  clear hK K
  (try simp only [Act.put, List.getElem_toArray, List.getElem_cons_succ, List.getElem_cons_zero, List.setIfInBounds_toArray, List.set_cons_zero, List.set_cons_succ])
  refine wpAnyH_take (i := 9) (oi := _) (v := ?_) rfl (by kernel_rfl) (by kernel_rfl) (by kernel_rfl) (fun _ _ _ h => h) (Or.inl ⟨by rfl, ?_⟩) (by assumption) ?_
  rotate_left 1
  · (intro wq hSw; (try dsimp only at hSw); (try simp only [List.getElem_toArray, List.getElem_cons_succ, List.getElem_cons_zero]); go_simp; try with_reducible rfl)
  (try simp only [Act.put, List.getElem_toArray, List.getElem_cons_succ, List.getElem_cons_zero, List.setIfInBounds_toArray, List.set_cons_zero, List.set_cons_succ])
  refine wpAnyH_take (i := 10) (oi := _) (v := ?_) rfl (by kernel_rfl) (by kernel_rfl) (by kernel_rfl) (fun _ _ _ h => h) (Or.inl ⟨by rfl, ?_⟩) (by assumption) ?_
  rotate_left 1
  · (intro wq hSw; (try dsimp only at hSw); (try simp only [List.getElem_toArray, List.getElem_cons_succ, List.getElem_cons_zero]); go_simp; try with_reducible rfl)
  (try simp only [Act.put, List.getElem_toArray, List.getElem_cons_succ, List.getElem_cons_zero, List.setIfInBounds_toArray, List.set_cons_zero, List.set_cons_succ])
  refine wpAnyH_done (by kernel_rfl) (NoPanic.normal ?_) _
  go_wp2_with fail
  have R9 := unhide HR9
  have z0 := R9.cell 0 rfl
  have z1 := R9.cell 1 rfl
  have z2 := R9.cell 2 rfl
  have z3 := R9.cell 3 rfl
  have z4 := R9.cell 4 rfl
  have z5 := R9.cell 5 rfl
  have z6 := R9.cell 6 rfl
  have z7 := R9.cell 7 rfl
  have z8 := R9.cell 8 rfl
  have z9 := R9.cell 9 rfl
  have z10 := R9.cell 10 rfl
  have z11 := R9.cell 11 rfl
  have z12 := R9.cell 12 rfl
  refine bodyPost_ret (v := .tuple #[.agg #[.int .i64 n.id, .int .i64 n.tm, .int .i64 n.vo, .slice la n.lg.length lc, .slice sa n.st.length sc, .int .i64 n.ro, .slice va n.vs.length vc, .slice na n.nx.length nc, .slice ma n.mt.length mc, .int .i64 n.cm, .int .i64 n.el, .int .i64 n.wt, .bool n.up], v, .int .i64 0]) (by simp [results, Try.results8, go_sem, z0, z1, z2, z3, z4, z5, z6, z7, z8, z9, z10, z11, z12]) rfl ?_
  rw [unhide HU6]
  exact ⟨la, lc, sa, sc, va, vc, na, nc, ma, mc, v, l, rfl, NoO.mono3 ((unhide O4).kept (unhide HT9) (fun k e _ => by omega)) (by omega), ((unhide N4).kept (unhide HT9) (fun k e _ => by omega)).down (by omega), (unhide HQ2).1, fun q hq => ((unhide HQ2).2 q hq).2, unhide K9⟩
end Go.Proofs.Ytljolldacpkeeaa
