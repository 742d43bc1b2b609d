/- spec.l10Tick, walked. (Written by py/ntk.py.) -/
import Derived.Test.YtljolldacpkeeaaNtJ
import Derived.Test.YtljolldacpkeeaaNtG
import Derived.Test.YtljolldacpkeeaaNodL
import Derived.Test.YtljolldacpkeeaaNodB
namespace Go.Proofs.Ytljolldacpkeeaa
open Go.ChangeShapes Go.WideShapes Go.ChangeAt Go.RowKit Go.Deep
set_option linter.unusedVariables false
set_option linter.unusedSimpArgs false

theorem NoO.mono4 {B B' : Nat} {w : World} {lv sv vv nv mv : Value} {lg : List En} {st vs nx mt : List Int} (h : NoO B w lv sv vv nv mv lg st vs nx mt) (hB : B' ≤ B) : NoO B' w lv sv vv nv mv lg st vs nx mt :=
  ⟨World.ownsRow.mono h.lg hB, h.st.mono hB, h.vs.mono hB, h.nx.mono hB, h.mt.mono hB, h.ap⟩
theorem ElAns.same {id tm vo ro cm el wt : Int} {up : Bool} {lg : List En} {st vs nx mt : List Int} {la2 : Option Addr} {lc2 : Nat} {sa2 : Option Addr} {sc2 : Nat} {va2 : Option Addr} {vc2 g nc2 h mc2 : Nat} {W w w' : World} {e : Ending} {B : Nat} {mv : Value} (hnx : nx.length = 7) (hmt : mt.length = 7) (he : e = .returned (.tuple #[.agg #[.int .i64 id, .int .i64 tm, .int .i64 vo, .slice la2 lg.length lc2, .slice sa2 st.length sc2, .int .i64 ro, .slice va2 vs.length vc2, .slice (some ⟨g, 0, none⟩) 7 nc2, .slice (some ⟨h, 0, none⟩) 7 mc2, .int .i64 cm, .int .i64 el, .int .i64 wt, .bool up], mv])) (hO : NoO B w' (.slice la2 lg.length lc2) (.slice sa2 st.length sc2) (.slice va2 vs.length vc2) (.slice (some ⟨g, 0, none⟩) 7 nc2) (.slice (some ⟨h, 0, none⟩) 7 mc2) lg st vs nx mt) (hN : Ns mgS W.heap.size w' mv 0 []) (hb : ∀ q, NoT [.slice la2 lg.length lc2, .slice sa2 st.length sc2, .slice va2 vs.length vc2, .slice (some ⟨g, 0, none⟩) 7 nc2, .slice (some ⟨h, 0, none⟩) 7 mc2] q → q < W.heap.size) (hT : Touch (fun q => B ≤ q) w w') (hB : B ≤ W.heap.size := by omega) : ElAns B (⟨id, tm, vo, ro, cm, el, wt, up, lg, st, vs, nx, mt⟩ : NoD) [] w e w' := by
  refine ⟨la2, lc2, sa2, sc2, va2, vc2, some ⟨g, 0, none⟩, nc2, some ⟨h, 0, none⟩, mc2, mv, [], ?_, ?_, hN.down hB, rfl, ?_, hT⟩
  · simp only [hnx, hmt]; exact he
  · simp only [hnx, hmt]; exact hO
  · simp only [hnx, hmt]; exact fun q hq e => by have := (nsT_ge hN q e).1; have := hb q hq; omega
set_option maxRecDepth 100000 in
set_option maxHeartbeats 4000000 in
theorem l10Tick_a (id tm vo ro cm el wt : Int) (up : Bool) (lg : List En) (st vs nx mt : List Int) (la : Option Addr) (lc : Nat) (sa : Option Addr) (sc : Nat) (va : Option Addr) (vc : Nat) (na : Option Addr) (nc : Nat) (ma : Option Addr) (mc : Nat) (draw : Int) (w : World) (hR : NoR w (.slice la lg.length lc) (.slice sa st.length sc) (.slice va vs.length vc) (.slice na nx.length nc) (.slice ma mt.length mc) lg st vs nx mt) (hz : ∀ i, (lg.getD i default).d.size ≤ 1048576) (hl : lg.length ≤ 60) (hg : CfgOK lg) (hst : mFault st = 0) (hsl : st.length ≤ 7) (hvl : vs.length ≤ 7) (hnx : nx.length = 7) (hmt : mt.length = 7) (hc : 0 ≤ cm) (htm : 0 ≤ tm ∧ tm ≤ 1000000) (hnn : ∀ i, i < 7 → 1 ≤ nx.getD i 0 ∧ nx.getD i 0 ≤ (lg.length : Int) + 1) (hdr : 0 ≤ draw ∧ draw ≤ 1000000) (hel : el + 1 < 1000) (hel0 : 0 ≤ el ∧ el ≤ 1000) :
    Calls Try.prog 22 #[.agg #[.int .i64 id, .int .i64 tm, .int .i64 vo, .slice la lg.length lc, .slice sa st.length sc, .int .i64 ro, .slice va vs.length vc, .slice na nx.length nc, .slice ma mt.length mc, .int .i64 cm, .int .i64 el, .int .i64 wt, .bool up], .int .i64 draw] w fun e w' => ElAns w.heap.size (tickOut ⟨id, tm, vo, ro, cm, el, wt, up, lg, st, vs, nx, mt⟩ draw).1 (tickOut ⟨id, tm, vo, ro, cm, el, wt, up, lg, st, vs, nx, mt⟩ draw).2 w e w' := by
  have B0 := hide (((Below.refl w.heap.size w).alloc (Nat.le_refl _) (.cells #[.int .i64 id, .int .i64 tm, .int .i64 vo, .slice la lg.length lc, .slice sa st.length sc, .int .i64 ro, .slice va vs.length vc, .slice na nx.length nc, .slice ma mt.length mc, .int .i64 cm, .int .i64 el, .int .i64 wt, .bool up] 29)).alloc (by simp) (.cells #[.int .i64 0, .int .i64 0, .int .i64 0, .slice none 0 0, .slice none 0 0, .int .i64 0, .slice none 0 0, .slice none 0 0, .slice none 0 0, .int .i64 0, .int .i64 0, .int .i64 0, .bool false] 29))
  have X0 := hide ((Blk.new w #[.int .i64 id, .int .i64 tm, .int .i64 vo, .slice la lg.length lc, .slice sa st.length sc, .int .i64 ro, .slice va vs.length vc, .slice na nx.length nc, .slice ma mt.length mc, .int .i64 cm, .int .i64 el, .int .i64 wt, .bool up] 29 w.heap.size rfl).alloc (.cells #[.int .i64 0, .int .i64 0, .int .i64 0, .slice none 0 0, .slice none 0 0, .int .i64 0, .slice none 0 0, .slice none 0 0, .slice none 0 0, .int .i64 0, .int .i64 0, .int .i64 0, .bool false] 29))
  have R0 := hide (Blk.new (w.alloc (.cells #[.int .i64 id, .int .i64 tm, .int .i64 vo, .slice la lg.length lc, .slice sa st.length sc, .int .i64 ro, .slice va vs.length vc, .slice na nx.length nc, .slice ma mt.length mc, .int .i64 cm, .int .i64 el, .int .i64 wt, .bool up] 29)) #[.int .i64 0, .int .i64 0, .int .i64 0, .slice none 0 0, .slice none 0 0, .int .i64 0, .slice none 0 0, .slice none 0 0, .slice none 0 0, .int .i64 0, .int .i64 0, .int .i64 0, .bool false] 29 (w.heap.size + 1) (by simp))
  have HOw := hide (fun wx (hx : Below w.heap.size w wx) => l10Own_any id tm vo ro cm el wt up lg st vs nx mt la lc sa sc va vc na nc ma mc wx (hR.below hx) (by omega) (by omega) (by omega) (by omega) (by omega))
  have hT : elT el = (el + 1) := by unfold elT; rw [if_neg (by omega)]
  have HU : Hid (tickOut ⟨id, tm, vo, ro, cm, el, wt, up, lg, st, vs, nx, mt⟩ draw = if ro = 2 then (if (el + 1) < 2 then ((⟨id, tm, vo, ro, cm, (el + 1), wt, up, lg, st, vs, nx, mt⟩ : NoD), []) else ((⟨id, tm, vo, ro, cm, 0, wt, up, lg, st, vs, nx, mt⟩ : NoD), tellL id tm cm lg nx (mbAt lg st lg.length))) else if mayS id tm (el + 1) wt (mbAt lg st lg.length) then standOut ⟨id, tm, vo, ro, cm, (el + 1), wt, up, lg, st, vs, nx, mt⟩ draw else ((⟨id, tm, vo, ro, cm, (el + 1), wt, up, lg, st, vs, nx, mt⟩ : NoD), [])) := hide (by unfold tickOut; simp only [hT])
  have hmb := mb_seven lg st hg hst
  have HNL := hide (And.intro hnx hmt)
  have HS := hide (And.intro hz (And.intro hl (And.intro hg (And.intro hst (And.intro hc (And.intro hnn hmb))))))
  have q0 : IntKind.i64.wrap (el + 1) = el + 1 := wrapSm _ (by omega) (by omega)
  clear hR hz hg hst hsl hvl hc hnn hT hmb hnx hmt
  go_enter Try.func22, Try.ntmps22
  go_upto_region 1 with fail
  generalize (w.alloc (.cells #[.int .i64 id, .int .i64 tm, .int .i64 vo, .slice la lg.length lc, .slice sa st.length sc, .int .i64 ro, .slice va vs.length vc, .slice na nx.length nc, .slice ma mt.length mc, .int .i64 cm, .int .i64 el, .int .i64 wt, .bool up] 29)).alloc (.cells #[.int .i64 0, .int .i64 0, .int .i64 0, .slice none 0 0, .slice none 0 0, .int .i64 0, .slice none 0 0, .slice none 0 0, .slice none 0 0, .int .i64 0, .int .i64 0, .int .i64 0, .bool false] 29) = w0 at *
  have hrw : w.heap.size + 1 < w0.heap.size := (unhide R0).1
  have x0 := (unhide X0).cell 0 rfl
  have x1 := (unhide X0).cell 1 rfl
  have x2 := (unhide X0).cell 2 rfl
  have x3 := (unhide X0).cell 3 rfl
  have x4 := (unhide X0).cell 4 rfl
  have x5 := (unhide X0).cell 5 rfl
  have x6 := (unhide X0).cell 6 rfl
  have x7 := (unhide X0).cell 7 rfl
  have x8 := (unhide X0).cell 8 rfl
  have x9 := (unhide X0).cell 9 rfl
  have x10 := (unhide X0).cell 10 rfl
  have x11 := (unhide X0).cell 11 rfl
  have x12 := (unhide X0).cell 12 rfl
  have HC := hide (unhide HOw w0 (unhide B0))
  go_wp2_with fail
  refine (unhide HC).mono ?_
  rintro e w2 ⟨la2, lc2, sa2, sc2, va2, vc2, na2, nc2, ma2, mc2, rfl, hO, hb⟩
  have hnx := (unhide HNL).1
  have hmt := (unhide HNL).2
  obtain ⟨g, hgE⟩ : ∃ g, na2 = some ⟨g, 0, none⟩ := by
    rcases hO.nx.shape with ⟨_, h0⟩ | ⟨g, c, e⟩
    · rw [h0] at hnx; simp at hnx
    · simp only [Value.slice.injEq] at e; exact ⟨g, e.1⟩
  obtain ⟨h, hhE⟩ : ∃ h, ma2 = some ⟨h, 0, none⟩ := by
    rcases hO.mt.shape with ⟨_, h0⟩ | ⟨h, c, e⟩
    · rw [h0] at hmt; simp at hmt
    · simp only [Value.slice.injEq] at e; exact ⟨h, e.1⟩
  subst hgE
  subst hhE
  rw [hnx, hmt] at hO
  rw [hnx, hmt]
  clear hnx hmt
  have hs2 := hb.size
  have O2 := hide hO
  have R2 := hide ((unhide R0).below hb)
  have K2 := hide ((unhide B0).trans (hb.mono (unhide B0).size))
  have hap : ∀ q, NoT [.slice la2 lg.length lc2, .slice sa2 st.length sc2, .slice va2 vs.length vc2, .slice (some ⟨g, 0, none⟩) 7 nc2, .slice (some ⟨h, 0, none⟩) 7 mc2] q → q ≠ w.heap.size + 1 ∧ q ≠ w2.heap.size := fun q hq => by have := NoO.blk hO q hq; omega
  have HAP := hide hap
  have NZ := Blk.new w2 #[.int .i64 0, .int .i64 0, .int .i64 0, .slice none 0 0, .slice none 0 0, .int .i64 0, .slice none 0 0, .slice none 0 0, .slice none 0 0, .int .i64 0, .int .i64 0, .int .i64 0, .bool false] 29 w2.heap.size rfl
  have zc0 := NZ.cell 0 rfl
  have zc1 := NZ.cell 1 rfl
  have zc2 := NZ.cell 2 rfl
  have zc3 := NZ.cell 3 rfl
  have zc4 := NZ.cell 4 rfl
  have zc5 := NZ.cell 5 rfl
  have zc6 := NZ.cell 6 rfl
  have zc7 := NZ.cell 7 rfl
  have zc8 := NZ.cell 8 rfl
  have zc9 := NZ.cell 9 rfl
  have zc10 := NZ.cell 10 rfl
  have zc11 := NZ.cell 11 rfl
  have zc12 := NZ.cell 12 rfl
  have zf0 := NZ.fro 0
  have zf1 := NZ.fro 1
  have zf2 := NZ.fro 2
  have zf3 := NZ.fro 3
  have zf4 := NZ.fro 4
  have zf5 := NZ.fro 5
  have zf6 := NZ.fro 6
  have zf7 := NZ.fro 7
  have zf8 := NZ.fro 8
  have zf9 := NZ.fro 9
  have zf10 := NZ.fro 10
  have zf11 := NZ.fro 11
  have zf12 := NZ.fro 12
  clear x0 x1 x2 x3 x4 x5 x6 x7 x8 x9 x10 x11 x12 HC hO hb hap NZ R0 X0 HOw
  go_upto_region 2 with fail
  clear zc0 zf0 zc1 zf1 zc2 zf2 zc3 zf3 zc4 zf4 zc5 zf5 zc6 zf6 zc7 zf7 zc8 zf8 zc9 zf9 zc10 zf10 zc11 zf11 zc12 zf12
  have BW := (Below.refl w2.heap.size w2).alloc (Nat.le_refl _) (.cells #[.int .i64 id, .int .i64 tm, .int .i64 vo, .slice la2 lg.length lc2, .slice sa2 st.length sc2, .int .i64 ro, .slice va2 vs.length vc2, .slice (some ⟨g, 0, none⟩) 7 nc2, .slice (some ⟨h, 0, none⟩) 7 mc2, .int .i64 cm, .int .i64 el, .int .i64 wt, .bool up] 29)
  have N3 := hide (Blk.new w2 #[.int .i64 id, .int .i64 tm, .int .i64 vo, .slice la2 lg.length lc2, .slice sa2 st.length sc2, .int .i64 ro, .slice va2 vs.length vc2, .slice (some ⟨g, 0, none⟩) 7 nc2, .slice (some ⟨h, 0, none⟩) 7 mc2, .int .i64 cm, .int .i64 el, .int .i64 wt, .bool up] 29 w2.heap.size rfl)
  have O3 := hide ((unhide O2).below BW)
  have R3 := hide ((unhide R2).below BW)
  have K3 := hide ((unhide K2).trans (BW.mono (unhide K2).size))
  clear BW O2 R2 K2
  generalize (w2.alloc (.cells #[.int .i64 id, .int .i64 tm, .int .i64 vo, .slice la2 lg.length lc2, .slice sa2 st.length sc2, .int .i64 ro, .slice va2 vs.length vc2, .slice (some ⟨g, 0, none⟩) 7 nc2, .slice (some ⟨h, 0, none⟩) 7 mc2, .int .i64 cm, .int .i64 el, .int .i64 wt, .bool up] 29)) = w3 at *
  generalize w2.heap.size = nb at *
  have x10 := (unhide N3).cell 10 rfl
  have f10 := (unhide N3).fro 10
  have T4 := (Touch.refl (fun q => q = nb) w3).setCell ⟨nb, 10, none⟩ (.int .i64 (el + 1)) (fun _ => rfl)
  have N4 := hide ((unhide N3).set 10 (.int .i64 (el + 1)) (by simp))
  have O4 := hide (NoO.keep (unhide O3) T4 (fun q hq => (unhide HAP q hq).2))
  have R4 := hide ((unhide R3).kept T4 (fun e => by omega))
  have hkb := (unhide K3).size
  have hB0 := (unhide B0).size
  have K4 := hide ((unhide K3).trans (T4.below (unhide K3).size (fun q hq e => by omega)))
  simp only [List.set_cons_succ, List.set_cons_zero] at N4
  have hel1 := hel
  clear T4 N3 O3 R3 K3
  go_upto_region 3 with fail
  clear x10 f10
  generalize w3.setCell ⟨nb, 10, none⟩ (.int .i64 (el + 1)) = w4 at *
  have hnb4 : nb < w4.heap.size := (unhide N4).1
  by_cases hro : ro = 2
  · have hro' : 2 = ro := hro.symm
    subst hro'
    by_cases he2 : (el + 1) < 2
    · have RX := unhide R4
      have r0 := RX.cell 0 rfl
      have r1 := RX.cell 1 rfl
      have r2 := RX.cell 2 rfl
      have r3 := RX.cell 3 rfl
      have r4 := RX.cell 4 rfl
      have r5 := RX.cell 5 rfl
      have r6 := RX.cell 6 rfl
      have r7 := RX.cell 7 rfl
      have r8 := RX.cell 8 rfl
      have r9 := RX.cell 9 rfl
      have r10 := RX.cell 10 rfl
      have r11 := RX.cell 11 rfl
      have r12 := RX.cell 12 rfl
      have f0 := RX.fro 0
      have f1 := RX.fro 1
      have f2 := RX.fro 2
      have f3 := RX.fro 3
      have f4 := RX.fro 4
      have f5 := RX.fro 5
      have f6 := RX.fro 6
      have f7 := RX.fro 7
      have f8 := RX.fro 8
      have f9 := RX.fro 9
      have f10 := RX.fro 10
      have f11 := RX.fro 11
      have f12 := RX.fro 12
      have HR9 := hide ((((((((((((((RX.set 0 (.int .i64 id) (by simp)).set 1 (.int .i64 tm) (by simp)).set 2 (.int .i64 vo) (by simp)).set 3 (.slice la2 lg.length lc2) (by simp)).set 4 (.slice sa2 st.length sc2) (by simp)).set 5 (.int .i64 2) (by simp)).set 6 (.slice va2 vs.length vc2) (by simp)).set 7 (.slice (some ⟨g, 0, none⟩) 7 nc2) (by simp)).set 8 (.slice (some ⟨h, 0, none⟩) 7 mc2) (by simp)).set 9 (.int .i64 cm) (by simp)).set 10 (.int .i64 (el + 1)) (by simp)).set 11 (.int .i64 wt) (by simp)).set 12 (.bool up) (by simp)))
      have T9 := ((((((((((((((Touch.refl (fun q => q = w.heap.size + 1) w4).setCell ⟨w.heap.size + 1, 0, none⟩ (.int .i64 id) (fun _ => rfl)).setCell ⟨w.heap.size + 1, 1, none⟩ (.int .i64 tm) (fun _ => rfl)).setCell ⟨w.heap.size + 1, 2, none⟩ (.int .i64 vo) (fun _ => rfl)).setCell ⟨w.heap.size + 1, 3, none⟩ (.slice la2 lg.length lc2) (fun _ => rfl)).setCell ⟨w.heap.size + 1, 4, none⟩ (.slice sa2 st.length sc2) (fun _ => rfl)).setCell ⟨w.heap.size + 1, 5, none⟩ (.int .i64 2) (fun _ => rfl)).setCell ⟨w.heap.size + 1, 6, none⟩ (.slice va2 vs.length vc2) (fun _ => rfl)).setCell ⟨w.heap.size + 1, 7, none⟩ (.slice (some ⟨g, 0, none⟩) 7 nc2) (fun _ => rfl)).setCell ⟨w.heap.size + 1, 8, none⟩ (.slice (some ⟨h, 0, none⟩) 7 mc2) (fun _ => rfl)).setCell ⟨w.heap.size + 1, 9, none⟩ (.int .i64 cm) (fun _ => rfl)).setCell ⟨w.heap.size + 1, 10, none⟩ (.int .i64 (el + 1)) (fun _ => rfl)).setCell ⟨w.heap.size + 1, 11, none⟩ (.int .i64 wt) (fun _ => rfl)).setCell ⟨w.heap.size + 1, 12, none⟩ (.bool up) (fun _ => rfl))
      have HT9 := hide T9
      clear RX T9
      have hrW : w.heap.size + 1 < w4.heap.size := (unhide R4).1
      have hnW : nb < w4.heap.size := (unhide N4).1
      have RA := hide ((unhide HR9).alloc (.cells #[] 59))
      have x0 := (unhide N4).cell 0 rfl
      have x1 := (unhide N4).cell 1 rfl
      have x2 := (unhide N4).cell 2 rfl
      have x3 := (unhide N4).cell 3 rfl
      have x4 := (unhide N4).cell 4 rfl
      have x5 := (unhide N4).cell 5 rfl
      have x6 := (unhide N4).cell 6 rfl
      have x7 := (unhide N4).cell 7 rfl
      have x8 := (unhide N4).cell 8 rfl
      have x9 := (unhide N4).cell 9 rfl
      have x10 := (unhide N4).cell 10 rfl
      have x11 := (unhide N4).cell 11 rfl
      have x12 := (unhide N4).cell 12 rfl
      go_wp2_with fail
      have R9 := unhide RA
      have z0 := R9.cell 0 rfl
      have z1 := R9.cell 1 rfl
      have z2 := R9.cell 2 rfl
      have z3 := R9.cell 3 rfl
      have z4 := R9.cell 4 rfl
      have z5 := R9.cell 5 rfl
      have z6 := R9.cell 6 rfl
      have z7 := R9.cell 7 rfl
      have z8 := R9.cell 8 rfl
      have z9 := R9.cell 9 rfl
      have z10 := R9.cell 10 rfl
      have z11 := R9.cell 11 rfl
      have z12 := R9.cell 12 rfl
      refine bodyPost_ret (v := .tuple #[.agg #[.int .i64 id, .int .i64 tm, .int .i64 vo, .slice la2 lg.length lc2, .slice sa2 st.length sc2, .int .i64 2, .slice va2 vs.length vc2, .slice (some ⟨g, 0, none⟩) 7 nc2, .slice (some ⟨h, 0, none⟩) 7 mc2, .int .i64 cm, .int .i64 (el + 1), .int .i64 wt, .bool up], .slice (some ⟨w4.heap.size, 0, none⟩) 0 0]) (by simp [results, Try.results22, go_sem, z0, z1, z2, z3, z4, z5, z6, z7, z8, z9, z10, z11, z12]) rfl ?_
      rw [unhide HU, if_pos (by first | trivial | rfl), if_pos (by omega)]
      obtain ⟨hnx, hmt⟩ := unhide HNL
      refine ElAns.same (W := w4) hnx hmt rfl (NoO.mono4 ((NoO.keep (unhide O4) (unhide HT9) (fun q hq => (unhide HAP q hq).1)).below ((Below.refl _ _).alloc (Nat.le_refl _) (.cells #[] 59))) (by omega)) ?_ ?_ ((((Touch.ofBelow (T := fun q => w.heap.size ≤ q) (unhide K4)).trans (T' := fun q => q = w.heap.size + 1) (unhide HT9) (fun j hj e => by omega))).alloc (.cells #[] 59))
      · have hn := ns_made mgS _ w4.heap.size (unhide HT9).size
        simp only [World.size_setCell] at hn
        exact hn
      · exact fun q hq => (NoO.blk (unhide O4) q hq).2
    have x10 := (unhide N4).cell 10 rfl
    have f10 := (unhide N4).fro 10
    have x5 := (unhide N4).cell 5 rfl
    have T5 := (Touch.refl (fun q => q = nb) w4).setCell ⟨nb, 10, none⟩ (.int .i64 0) (fun _ => rfl)
    have N5 := hide ((unhide N4).set 10 (.int .i64 0) (by simp))
    have O5 := hide (NoO.keep (unhide O4) T5 (fun q hq => (unhide HAP q hq).2))
    have R5 := hide ((unhide R4).kept T5 (fun e => by omega))
    have K5 := hide ((unhide K4).trans (T5.below (unhide K4).size (fun q hq e => by omega)))
    simp only [List.set_cons_succ, List.set_cons_zero] at N5
    obtain ⟨hz, hl', hg, hst, hc, hnn, hmb⟩ := unhide HS
    obtain ⟨hnx, hmt⟩ := unhide HNL
    have HTl := hide (fun wx (o : NoO w0.heap.size wx (.slice la2 lg.length lc2) (.slice sa2 st.length sc2) (.slice va2 vs.length vc2) (.slice (some ⟨g, 0, none⟩) 7 nc2) (.slice (some ⟨h, 0, none⟩) 7 mc2) lg st vs nx mt) => l10Tell_any id tm vo 2 cm 0 wt up lg st vs nx mt la2 lc2 sa2 sc2 va2 vc2 (some ⟨g, 0, none⟩) nc2 (some ⟨h, 0, none⟩) mc2 wx o.lg.ens o.st.ints (by rw [hnx]; exact o.nx.ints) hz hl hg hnx hmb.1 (fun x hx => ⟨(hmb.2 x hx).1, (hmb.2 x hx).2, fun _ => by have := hmb.2 x hx; exact hnn x.toNat (by omega)⟩))
    rw [hnx, hmt] at HTl
    clear T5 N4 O4 R4 K4 hz hl' hg hst hc hnn hmb hnx hmt
    have he3 : ¬ (el + 1) < 2 := he2
    go_upto_region 7 with fail
    clear x10 f10 x5
    generalize w4.setCell ⟨nb, 10, none⟩ (.int .i64 0) = w5 at *
    have O6 := hide ((unhide O5).drewN 1)
    have R6 := hide ((unhide R5).drewN 1)
    have K6 := hide (below_drewN (unhide K5) 1)
    have N6 := hide ((unhide N5).drewN 1)
    change Hid (NoO _ w5.drew _ _ _ _ _ _ _ _ _ _) at O6
    change Hid (Blk w5.drew (w.heap.size + 1) _) at R6
    change Hid (Below w.heap.size w w5.drew) at K6
    change Hid (Blk w5.drew nb _) at N6
    have x0 := (unhide N5).cell 0 rfl
    have x1 := (unhide N5).cell 1 rfl
    have x2 := (unhide N5).cell 2 rfl
    have x3 := (unhide N5).cell 3 rfl
    have x4 := (unhide N5).cell 4 rfl
    have x5 := (unhide N5).cell 5 rfl
    have x6 := (unhide N5).cell 6 rfl
    have x7 := (unhide N5).cell 7 rfl
    have x8 := (unhide N5).cell 8 rfl
    have x9 := (unhide N5).cell 9 rfl
    have x10 := (unhide N5).cell 10 rfl
    have x11 := (unhide N5).cell 11 rfl
    have x12 := (unhide N5).cell 12 rfl
    refine wp_region_noPanic ?_
    refine wp_region_held_drew (S := (fun wx => wx.cell? ⟨nb, 0, none⟩ = some (.int .i64 id) ∧ wx.cell? ⟨nb, 1, none⟩ = some (.int .i64 tm) ∧ wx.cell? ⟨nb, 2, none⟩ = some (.int .i64 vo) ∧ wx.cell? ⟨nb, 3, none⟩ = some (.slice la2 lg.length lc2) ∧ wx.cell? ⟨nb, 4, none⟩ = some (.slice sa2 st.length sc2) ∧ wx.cell? ⟨nb, 5, none⟩ = some (.int .i64 2) ∧ wx.cell? ⟨nb, 6, none⟩ = some (.slice va2 vs.length vc2) ∧ wx.cell? ⟨nb, 7, none⟩ = some (.slice (some ⟨g, 0, none⟩) 7 nc2) ∧ wx.cell? ⟨nb, 8, none⟩ = some (.slice (some ⟨h, 0, none⟩) 7 mc2) ∧ wx.cell? ⟨nb, 9, none⟩ = some (.int .i64 cm) ∧ wx.cell? ⟨nb, 10, none⟩ = some (.int .i64 0) ∧ wx.cell? ⟨nb, 11, none⟩ = some (.int .i64 wt) ∧ wx.cell? ⟨nb, 12, none⟩ = some (.bool up))) (by kernel_rfl) ?_ (fun hHeld => ?_)
    · exact ⟨x0, x1, x2, x3, x4, x5, x6, x7, x8, x9, x10, x11, x12⟩
    refine wpAnyH_take (i := 0) (oi := _) (v := ?_) rfl (by kernel_rfl) (by kernel_rfl) (by kernel_rfl) (fun _ _ _ h => h) (Or.inl ⟨by rfl, ?_⟩) (by assumption) ?_
    rotate_left 1
    · (intro wq hSw; (try dsimp only at hSw); (try simp only [List.getElem_toArray, List.getElem_cons_succ, List.getElem_cons_zero]); go_simp; try with_reducible rfl)
    (try simp only [Act.put, List.getElem_toArray, List.getElem_cons_succ, List.getElem_cons_zero, List.setIfInBounds_toArray, List.set_cons_zero, List.set_cons_succ])
    refine wpAnyH_take (i := 1) (oi := _) (v := ?_) rfl (by kernel_rfl) (by kernel_rfl) (by kernel_rfl) (fun _ _ _ h => h) (Or.inl ⟨by rfl, ?_⟩) (by assumption) ?_
    rotate_left 1
    · (intro wq hSw; (try dsimp only at hSw); (try simp only [List.getElem_toArray, List.getElem_cons_succ, List.getElem_cons_zero]); go_simp; try with_reducible rfl)
    (try simp only [Act.put, List.getElem_toArray, List.getElem_cons_succ, List.getElem_cons_zero, List.setIfInBounds_toArray, List.set_cons_zero, List.set_cons_succ])
    clear x0 x1 x2 x3 x4 x5 x6 x7 x8 x9 x10 x11 x12 O5 R5 K5 N5
    generalize w5.drew = wz at *
    have hnz : nb < wz.heap.size := (unhide N6).1
    have hrz : w.heap.size + 1 < wz.heap.size := (unhide R6).1
    have hkz := (unhide K6).size
    have x0 := (unhide N6).cell 0 rfl
    have x1 := (unhide N6).cell 1 rfl
    have x2 := (unhide N6).cell 2 rfl
    have x3 := (unhide N6).cell 3 rfl
    have x4 := (unhide N6).cell 4 rfl
    have x5 := (unhide N6).cell 5 rfl
    have x6 := (unhide N6).cell 6 rfl
    have x7 := (unhide N6).cell 7 rfl
    have x8 := (unhide N6).cell 8 rfl
    have x9 := (unhide N6).cell 9 rfl
    have x10 := (unhide N6).cell 10 rfl
    have x11 := (unhide N6).cell 11 rfl
    have x12 := (unhide N6).cell 12 rfl
    refine wpAnyH_ready (rs := [2]) (by kernel_rfl) (by simp) ?_
    refine AllReadyH.cons (o := _) rfl (fun K hK => ?_) AllReadyH.nil
    go_simp
    refine (unhide HTl wz (unhide O6)).mono ?_
    rintro e w9 ⟨mv, l, rfl, hNs, hml, hb9⟩
    have hbX := hb9
    have HNs := hide hNs
    have HML := hide hml
    have HB9 := hide hb9
    go_wp2_with fail
    refine hK.out _ _ ?_ (fun hHeld => ?_)
    · exact ⟨(hbX.cell (p := ⟨nb, 0, none⟩) hnz).trans x0, (hbX.cell (p := ⟨nb, 1, none⟩) hnz).trans x1, (hbX.cell (p := ⟨nb, 2, none⟩) hnz).trans x2, (hbX.cell (p := ⟨nb, 3, none⟩) hnz).trans x3, (hbX.cell (p := ⟨nb, 4, none⟩) hnz).trans x4, (hbX.cell (p := ⟨nb, 5, none⟩) hnz).trans x5, (hbX.cell (p := ⟨nb, 6, none⟩) hnz).trans x6, (hbX.cell (p := ⟨nb, 7, none⟩) hnz).trans x7, (hbX.cell (p := ⟨nb, 8, none⟩) hnz).trans x8, (hbX.cell (p := ⟨nb, 9, none⟩) hnz).trans x9, (hbX.cell (p := ⟨nb, 10, none⟩) hnz).trans x10, (hbX.cell (p := ⟨nb, 11, none⟩) hnz).trans x11, (hbX.cell (p := ⟨nb, 12, none⟩) hnz).trans x12⟩
    clear hK K
    (try simp only [Act.put, List.getElem_toArray, List.getElem_cons_succ, List.getElem_cons_zero, List.setIfInBounds_toArray, List.set_cons_zero, List.set_cons_succ])
    clear hNs hml hb9
    have hs9 := (unhide HB9).size
    have RX := (unhide R6).below (unhide HB9)
    have r0 := RX.cell 0 rfl
    have r1 := RX.cell 1 rfl
    have r2 := RX.cell 2 rfl
    have r3 := RX.cell 3 rfl
    have r4 := RX.cell 4 rfl
    have r5 := RX.cell 5 rfl
    have r6 := RX.cell 6 rfl
    have r7 := RX.cell 7 rfl
    have r8 := RX.cell 8 rfl
    have r9 := RX.cell 9 rfl
    have r10 := RX.cell 10 rfl
    have r11 := RX.cell 11 rfl
    have r12 := RX.cell 12 rfl
    have f0 := RX.fro 0
    have f1 := RX.fro 1
    have f2 := RX.fro 2
    have f3 := RX.fro 3
    have f4 := RX.fro 4
    have f5 := RX.fro 5
    have f6 := RX.fro 6
    have f7 := RX.fro 7
    have f8 := RX.fro 8
    have f9 := RX.fro 9
    have f10 := RX.fro 10
    have f11 := RX.fro 11
    have f12 := RX.fro 12
    have HR9 := hide ((((((((((((((RX.set 0 (.int .i64 id) (by simp)).set 1 (.int .i64 tm) (by simp)).set 2 (.int .i64 vo) (by simp)).set 3 (.slice la2 lg.length lc2) (by simp)).set 4 (.slice sa2 st.length sc2) (by simp)).set 5 (.int .i64 2) (by simp)).set 6 (.slice va2 vs.length vc2) (by simp)).set 7 (.slice (some ⟨g, 0, none⟩) 7 nc2) (by simp)).set 8 (.slice (some ⟨h, 0, none⟩) 7 mc2) (by simp)).set 9 (.int .i64 cm) (by simp)).set 10 (.int .i64 0) (by simp)).set 11 (.int .i64 wt) (by simp)).set 12 (.bool up) (by simp)))
    have T9 := ((((((((((((((Touch.refl (fun q => q = w.heap.size + 1) w9).setCell ⟨w.heap.size + 1, 0, none⟩ (.int .i64 id) (fun _ => rfl)).setCell ⟨w.heap.size + 1, 1, none⟩ (.int .i64 tm) (fun _ => rfl)).setCell ⟨w.heap.size + 1, 2, none⟩ (.int .i64 vo) (fun _ => rfl)).setCell ⟨w.heap.size + 1, 3, none⟩ (.slice la2 lg.length lc2) (fun _ => rfl)).setCell ⟨w.heap.size + 1, 4, none⟩ (.slice sa2 st.length sc2) (fun _ => rfl)).setCell ⟨w.heap.size + 1, 5, none⟩ (.int .i64 2) (fun _ => rfl)).setCell ⟨w.heap.size + 1, 6, none⟩ (.slice va2 vs.length vc2) (fun _ => rfl)).setCell ⟨w.heap.size + 1, 7, none⟩ (.slice (some ⟨g, 0, none⟩) 7 nc2) (fun _ => rfl)).setCell ⟨w.heap.size + 1, 8, none⟩ (.slice (some ⟨h, 0, none⟩) 7 mc2) (fun _ => rfl)).setCell ⟨w.heap.size + 1, 9, none⟩ (.int .i64 cm) (fun _ => rfl)).setCell ⟨w.heap.size + 1, 10, none⟩ (.int .i64 0) (fun _ => rfl)).setCell ⟨w.heap.size + 1, 11, none⟩ (.int .i64 wt) (fun _ => rfl)).setCell ⟨w.heap.size + 1, 12, none⟩ (.bool up) (fun _ => rfl))
    have HT9 := hide T9
    clear RX T9
    have X9 := hide (((unhide N6).below (unhide HB9)).kept (unhide HT9) (fun e => by omega))
    refine wpAnyH_ready (rs := [3]) (by kernel_rfl) (by simp) ?_
    refine AllReadyH.cons (o := _) rfl (fun K hK => ?_) AllReadyH.nil
    go_simp
    refine hK.out _ _ ?_ (fun hHeld => ?_)
    · exact ⟨(unhide X9).cell 0 rfl, (unhide X9).cell 1 rfl, (unhide X9).cell 2 rfl, (unhide X9).cell 3 rfl, (unhide X9).cell 4 rfl, (unhide X9).cell 5 rfl, (unhide X9).cell 6 rfl, (unhide X9).cell 7 rfl, (unhide X9).cell 8 rfl, (unhide X9).cell 9 rfl, (unhide X9).cell 10 rfl, (unhide X9).cell 11 rfl, (unhide X9).cell 12 rfl⟩
    clear hK K
    (try simp only [Act.put, List.getElem_toArray, List.getElem_cons_succ, List.getElem_cons_zero, List.setIfInBounds_toArray, List.set_cons_zero, List.set_cons_succ])
    refine wpAnyH_take (i := 4) (oi := _) (v := ?_) rfl (by kernel_rfl) (by kernel_rfl) (by kernel_rfl) (fun _ _ _ h => h) (Or.inl ⟨by rfl, ?_⟩) (by assumption) ?_
    rotate_left 1
    · (intro wq hSw; (try dsimp only at hSw); (try simp only [List.getElem_toArray, List.getElem_cons_succ, List.getElem_cons_zero]); go_simp; try with_reducible rfl)
    (try simp only [Act.put, List.getElem_toArray, List.getElem_cons_succ, List.getElem_cons_zero, List.setIfInBounds_toArray, List.set_cons_zero, List.set_cons_succ])
    refine wpAnyH_done (by kernel_rfl) (NoPanic.normal ?_) _
    go_wp2_with fail
    have R9 := unhide HR9
    have z0 := R9.cell 0 rfl
    have z1 := R9.cell 1 rfl
    have z2 := R9.cell 2 rfl
    have z3 := R9.cell 3 rfl
    have z4 := R9.cell 4 rfl
    have z5 := R9.cell 5 rfl
    have z6 := R9.cell 6 rfl
    have z7 := R9.cell 7 rfl
    have z8 := R9.cell 8 rfl
    have z9 := R9.cell 9 rfl
    have z10 := R9.cell 10 rfl
    have z11 := R9.cell 11 rfl
    have z12 := R9.cell 12 rfl
    refine bodyPost_ret (v := .tuple #[.agg #[.int .i64 id, .int .i64 tm, .int .i64 vo, .slice la2 lg.length lc2, .slice sa2 st.length sc2, .int .i64 2, .slice va2 vs.length vc2, .slice (some ⟨g, 0, none⟩) 7 nc2, .slice (some ⟨h, 0, none⟩) 7 mc2, .int .i64 cm, .int .i64 0, .int .i64 wt, .bool up], mv]) (by simp [results, Try.results22, go_sem, z0, z1, z2, z3, z4, z5, z6, z7, z8, z9, z10, z11, z12]) rfl ?_
    rw [unhide HU, if_pos (by first | trivial | rfl), if_neg (by omega)]
    obtain ⟨hnx, hmt⟩ := unhide HNL
    have hbk := fun q hq => (NoO.blk (unhide O6) q hq).2
    have hge := fun q hq => (nsT_ge (unhide HNs) q hq).1
    refine ⟨la2, lc2, sa2, sc2, va2, vc2, some ⟨g, 0, none⟩, nc2, some ⟨h, 0, none⟩, mc2, mv, l, ?_, ?_, ((unhide HNs).kept (unhide HT9) (fun q e _ => by omega)).down (by omega), unhide HML, ?_, (Touch.ofBelow (T := fun q => w.heap.size ≤ q) ((unhide K6).trans ((unhide HB9).mono (unhide K6).size))).trans (T' := fun q => q = w.heap.size + 1) (unhide HT9) (fun j hj e => by omega)⟩
    · simp only [hnx, hmt]
    · simp only [hnx, hmt]
      exact NoO.mono4 (NoO.keep ((unhide O6).below (unhide HB9)) (unhide HT9) (fun q hq => (unhide HAP q hq).1)) (by omega)
    · simp only [hnx, hmt]
      exact fun q hq e => by have := hge q e; have := hbk q hq; omega
  · have b1 : (ro == 2) = false := by rw [beq_eq_false_iff_ne]; exact hro
    have x5 := (unhide N4).cell 5 rfl
    obtain ⟨hz, hl', hg, hst, hc, hnn, hmb⟩ := unhide HS
    obtain ⟨hnx, hmt⟩ := unhide HNL
    have HMem := hide (fun wx (o : NoO w0.heap.size wx (.slice la2 lg.length lc2) (.slice sa2 st.length sc2) (.slice va2 vs.length vc2) (.slice (some ⟨g, 0, none⟩) 7 nc2) (.slice (some ⟨h, 0, none⟩) 7 mc2) lg st vs nx mt) => l10Members_any id tm vo ro cm (el + 1) wt up lg st vs nx mt la2 lc2 sa2 sc2 va2 vc2 (some ⟨g, 0, none⟩) nc2 (some ⟨h, 0, none⟩) mc2 wx o.lg.ens o.st.ints hz (by omega) hg)
    have HEl := hide (fun wx (ht : tm < 1000000) (o : NoO w0.heap.size wx (.slice la2 lg.length lc2) (.slice sa2 st.length sc2) (.slice va2 vs.length vc2) (.slice (some ⟨g, 0, none⟩) 7 nc2) (.slice (some ⟨h, 0, none⟩) 7 mc2) lg st vs nx mt) (hBx : w0.heap.size ≤ wx.heap.size) => l10Elect_any w0.heap.size id tm vo ro cm (el + 1) wt up lg st vs nx mt la2 lc2 sa2 sc2 va2 vc2 g nc2 h mc2 draw wx o hBx hz hl hg hst hnx hmt hc ⟨htm.1, ht⟩ hdr)
    rw [hnx, hmt] at HMem
    have hmbl := hmb.1
    clear hz hl' hg hst hc hnn hmb hnx hmt
    generalize mbAt lg st lg.length = mb at *
    go_upto_region 8 with fail
    clear x5
    have O6 := hide ((unhide O4).drewN 1)
    have R6 := hide ((unhide R4).drewN 1)
    have K6 := hide (below_drewN (unhide K4) 1)
    have N6 := hide ((unhide N4).drewN 1)
    change Hid (NoO _ w4.drew _ _ _ _ _ _ _ _ _ _) at O6
    change Hid (Blk w4.drew (w.heap.size + 1) _) at R6
    change Hid (Below w.heap.size w w4.drew) at K6
    change Hid (Blk w4.drew nb _) at N6
    have x0 := (unhide N4).cell 0 rfl
    have x1 := (unhide N4).cell 1 rfl
    have x2 := (unhide N4).cell 2 rfl
    have x3 := (unhide N4).cell 3 rfl
    have x4 := (unhide N4).cell 4 rfl
    have x5 := (unhide N4).cell 5 rfl
    have x6 := (unhide N4).cell 6 rfl
    have x7 := (unhide N4).cell 7 rfl
    have x8 := (unhide N4).cell 8 rfl
    have x9 := (unhide N4).cell 9 rfl
    have x10 := (unhide N4).cell 10 rfl
    have x11 := (unhide N4).cell 11 rfl
    have x12 := (unhide N4).cell 12 rfl
    by_cases c1 : (el + 1) < wt
    · have E : mayS id tm (el + 1) wt mb = false := by unfold mayS; rw [decide_eq_false (by omega)]; rfl
      have HE := hide E
      clear E
      refine wp_region_noPanic ?_
      refine wp_region_held_drew (S := (fun wx => wx.cell? ⟨nb, 0, none⟩ = some (.int .i64 id) ∧ wx.cell? ⟨nb, 1, none⟩ = some (.int .i64 tm) ∧ wx.cell? ⟨nb, 2, none⟩ = some (.int .i64 vo) ∧ wx.cell? ⟨nb, 3, none⟩ = some (.slice la2 lg.length lc2) ∧ wx.cell? ⟨nb, 4, none⟩ = some (.slice sa2 st.length sc2) ∧ wx.cell? ⟨nb, 5, none⟩ = some (.int .i64 ro) ∧ wx.cell? ⟨nb, 6, none⟩ = some (.slice va2 vs.length vc2) ∧ wx.cell? ⟨nb, 7, none⟩ = some (.slice (some ⟨g, 0, none⟩) 7 nc2) ∧ wx.cell? ⟨nb, 8, none⟩ = some (.slice (some ⟨h, 0, none⟩) 7 mc2) ∧ wx.cell? ⟨nb, 9, none⟩ = some (.int .i64 cm) ∧ wx.cell? ⟨nb, 10, none⟩ = some (.int .i64 (el + 1)) ∧ wx.cell? ⟨nb, 11, none⟩ = some (.int .i64 wt) ∧ wx.cell? ⟨nb, 12, none⟩ = some (.bool up))) (by kernel_rfl) ?_ (fun hHeld => ?_)
      · exact ⟨x0, x1, x2, x3, x4, x5, x6, x7, x8, x9, x10, x11, x12⟩
      refine wpAnyH_take (i := 0) (oi := _) (v := ?_) rfl (by kernel_rfl) (by kernel_rfl) (by kernel_rfl) (fun _ _ _ h => h) (Or.inl ⟨by rfl, ?_⟩) (by assumption) ?_
      rotate_left 1
      · (intro wq hSw; (try dsimp only at hSw); (try simp only [List.getElem_toArray, List.getElem_cons_succ, List.getElem_cons_zero]); go_simp; try with_reducible rfl)
      (try simp only [Act.put, List.getElem_toArray, List.getElem_cons_succ, List.getElem_cons_zero, List.setIfInBounds_toArray, List.set_cons_zero, List.set_cons_succ])
      refine wpAnyH_take (i := 1) (oi := _) (v := ?_) rfl (by kernel_rfl) (by kernel_rfl) (by kernel_rfl) (fun _ _ _ h => h) (Or.inl ⟨by rfl, ?_⟩) (by assumption) ?_
      rotate_left 1
      · (intro wq hSw; (try dsimp only at hSw); (try simp only [List.getElem_toArray, List.getElem_cons_succ, List.getElem_cons_zero]); go_simp; try with_reducible rfl)
      (try simp only [Act.put, List.getElem_toArray, List.getElem_cons_succ, List.getElem_cons_zero, List.setIfInBounds_toArray, List.set_cons_zero, List.set_cons_succ])
      refine wpAnyH_take (i := 2) (oi := _) (v := ?_) rfl (by kernel_rfl) (by kernel_rfl) (by kernel_rfl) (fun _ _ _ h => h) (Or.inl ⟨by rfl, ?_⟩) (by assumption) ?_
      rotate_left 1
      · (intro wq hSw; (try dsimp only at hSw); (try simp only [List.getElem_toArray, List.getElem_cons_succ, List.getElem_cons_zero]); go_simp; try with_reducible rfl)
      (try simp only [Act.put, List.getElem_toArray, List.getElem_cons_succ, List.getElem_cons_zero, List.setIfInBounds_toArray, List.set_cons_zero, List.set_cons_succ])
      refine wpAnyH_take (i := 3) (oi := _) (v := ?_) rfl (by kernel_rfl) (by kernel_rfl) (by kernel_rfl) (fun _ _ _ h => h) (Or.inl ⟨by rfl, ?_⟩) (by assumption) ?_
      rotate_left 1
      · (intro wq hSw; (try dsimp only at hSw); (try simp only [List.getElem_toArray, List.getElem_cons_succ, List.getElem_cons_zero]); go_simp; try with_reducible rfl)
      (try simp only [Act.put, List.getElem_toArray, List.getElem_cons_succ, List.getElem_cons_zero, List.setIfInBounds_toArray, List.set_cons_zero, List.set_cons_succ])
      refine wpAnyH_take (i := 4) (oi := _) (v := ?_) rfl (by kernel_rfl) (by kernel_rfl) (by kernel_rfl) (fun _ _ _ h => h) (Or.inl ⟨by rfl, ?_⟩) (by assumption) ?_
      rotate_left 1
      · (intro wq hSw; (try dsimp only at hSw); (try simp only [List.getElem_toArray, List.getElem_cons_succ, List.getElem_cons_zero]); go_simp; try with_reducible rfl)
      (try simp only [Act.put, List.getElem_toArray, List.getElem_cons_succ, List.getElem_cons_zero, List.setIfInBounds_toArray, List.set_cons_zero, List.set_cons_succ])
      refine wpAnyH_take (i := 5) (oi := _) (v := ?_) rfl (by kernel_rfl) (by kernel_rfl) (by kernel_rfl) (fun _ _ _ h => h) (Or.inl ⟨by rfl, ?_⟩) (by assumption) ?_
      rotate_left 1
      · (intro wq hSw; (try dsimp only at hSw); (try simp only [List.getElem_toArray, List.getElem_cons_succ, List.getElem_cons_zero]); go_simp; try with_reducible rfl)
      (try simp only [Act.put, List.getElem_toArray, List.getElem_cons_succ, List.getElem_cons_zero, List.setIfInBounds_toArray, List.set_cons_zero, List.set_cons_succ])
      refine wpAnyH_take (i := 6) (oi := _) (v := undef) rfl (by kernel_rfl) (by kernel_rfl) (by kernel_rfl) (fun _ _ _ h => h) (Or.inr ⟨by rfl, rfl⟩) (by assumption) ?_
      (try simp only [Act.put, List.getElem_toArray, List.getElem_cons_succ, List.getElem_cons_zero, List.setIfInBounds_toArray, List.set_cons_zero, List.set_cons_succ])
      refine wpAnyH_take (i := 7) (oi := _) (v := undef) rfl (by kernel_rfl) (by kernel_rfl) (by kernel_rfl) (fun _ _ _ h => h) (Or.inr ⟨by rfl, rfl⟩) (by assumption) ?_
      (try simp only [Act.put, List.getElem_toArray, List.getElem_cons_succ, List.getElem_cons_zero, List.setIfInBounds_toArray, List.set_cons_zero, List.set_cons_succ])
      refine wpAnyH_take (i := 8) (oi := _) (v := undef) rfl (by kernel_rfl) (by kernel_rfl) (by kernel_rfl) (fun _ _ _ h => h) (Or.inr ⟨by rfl, rfl⟩) (by assumption) ?_
      (try simp only [Act.put, List.getElem_toArray, List.getElem_cons_succ, List.getElem_cons_zero, List.setIfInBounds_toArray, List.set_cons_zero, List.set_cons_succ])
      refine wpAnyH_take (i := 9) (oi := _) (v := undef) rfl (by kernel_rfl) (by kernel_rfl) (by kernel_rfl) (fun _ _ _ h => h) (Or.inr ⟨by rfl, rfl⟩) (by assumption) ?_
      (try simp only [Act.put, List.getElem_toArray, List.getElem_cons_succ, List.getElem_cons_zero, List.setIfInBounds_toArray, List.set_cons_zero, List.set_cons_succ])
      refine wpAnyH_take (i := 10) (oi := _) (v := undef) rfl (by kernel_rfl) (by kernel_rfl) (by kernel_rfl) (fun _ _ _ h => h) (Or.inr ⟨by rfl, rfl⟩) (by assumption) ?_
      (try simp only [Act.put, List.getElem_toArray, List.getElem_cons_succ, List.getElem_cons_zero, List.setIfInBounds_toArray, List.set_cons_zero, List.set_cons_succ])
      refine wpAnyH_take (i := 11) (oi := _) (v := undef) rfl (by kernel_rfl) (by kernel_rfl) (by kernel_rfl) (fun _ _ _ h => h) (Or.inr ⟨by rfl, rfl⟩) (by assumption) ?_
      (try simp only [Act.put, List.getElem_toArray, List.getElem_cons_succ, List.getElem_cons_zero, List.setIfInBounds_toArray, List.set_cons_zero, List.set_cons_succ])
      refine wpAnyH_take (i := 12) (oi := _) (v := ?_) rfl (by kernel_rfl) (by kernel_rfl) (by kernel_rfl) (fun _ _ _ h => h) (Or.inl ⟨by rfl, ?_⟩) (by assumption) ?_
      rotate_left 1
      · (intro wq hSw; (try dsimp only at hSw); (try simp only [List.getElem_toArray, List.getElem_cons_succ, List.getElem_cons_zero]); go_simp; try with_reducible rfl)
      (try simp only [Act.put, List.getElem_toArray, List.getElem_cons_succ, List.getElem_cons_zero, List.setIfInBounds_toArray, List.set_cons_zero, List.set_cons_succ])
      refine wpAnyH_take (i := 13) (oi := _) (v := ?_) rfl (by kernel_rfl) (by kernel_rfl) (by kernel_rfl) (fun _ _ _ h => h) (Or.inl ⟨by rfl, ?_⟩) (by assumption) ?_
      rotate_left 1
      · (intro wq hSw; (try dsimp only at hSw); (try simp only [List.getElem_toArray, List.getElem_cons_succ, List.getElem_cons_zero]); go_simp; try with_reducible rfl)
      (try simp only [Act.put, List.getElem_toArray, List.getElem_cons_succ, List.getElem_cons_zero, List.setIfInBounds_toArray, List.set_cons_zero, List.set_cons_succ])
      refine wpAnyH_take (i := 14) (oi := _) (v := undef) rfl (by kernel_rfl) (by kernel_rfl) (by kernel_rfl) (fun _ _ _ h => h) (Or.inr ⟨by rfl, rfl⟩) (by assumption) ?_
      (try simp only [Act.put, List.getElem_toArray, List.getElem_cons_succ, List.getElem_cons_zero, List.setIfInBounds_toArray, List.set_cons_zero, List.set_cons_succ])
      refine wpAnyH_take (i := 15) (oi := _) (v := undef) rfl (by kernel_rfl) (by kernel_rfl) (by kernel_rfl) (fun _ _ _ h => h) (Or.inr ⟨by rfl, rfl⟩) (by assumption) ?_
      (try simp only [Act.put, List.getElem_toArray, List.getElem_cons_succ, List.getElem_cons_zero, List.setIfInBounds_toArray, List.set_cons_zero, List.set_cons_succ])
      refine wpAnyH_take (i := 16) (oi := _) (v := undef) rfl (by kernel_rfl) (by kernel_rfl) (by kernel_rfl) (fun _ _ _ h => h) (Or.inr ⟨by rfl, rfl⟩) (by assumption) ?_
      (try simp only [Act.put, List.getElem_toArray, List.getElem_cons_succ, List.getElem_cons_zero, List.setIfInBounds_toArray, List.set_cons_zero, List.set_cons_succ])
      refine wpAnyH_take (i := 17) (oi := _) (v := ?_) rfl (by kernel_rfl) (by kernel_rfl) (by kernel_rfl) (fun _ _ _ h => h) (Or.inl ⟨by rfl, ?_⟩) (by assumption) ?_
      rotate_left 1
      · (intro wq hSw; (try dsimp only at hSw); (try simp only [List.getElem_toArray, List.getElem_cons_succ, List.getElem_cons_zero]); go_simp; try with_reducible rfl)
      (try simp only [Act.put, List.getElem_toArray, List.getElem_cons_succ, List.getElem_cons_zero, List.setIfInBounds_toArray, List.set_cons_zero, List.set_cons_succ])
      clear x0 x1 x2 x3 x4 x5 x6 x7 x8 x9 x10 x11 x12 O4 R4 K4 N4
      have hk6 := (unhide K6).size
      generalize w4.drew = wz at *
      refine wpAnyH_done (by kernel_rfl) (NoPanic.normal ?_) _
      have RX := unhide R6
      have r0 := RX.cell 0 rfl
      have r1 := RX.cell 1 rfl
      have r2 := RX.cell 2 rfl
      have r3 := RX.cell 3 rfl
      have r4 := RX.cell 4 rfl
      have r5 := RX.cell 5 rfl
      have r6 := RX.cell 6 rfl
      have r7 := RX.cell 7 rfl
      have r8 := RX.cell 8 rfl
      have r9 := RX.cell 9 rfl
      have r10 := RX.cell 10 rfl
      have r11 := RX.cell 11 rfl
      have r12 := RX.cell 12 rfl
      have f0 := RX.fro 0
      have f1 := RX.fro 1
      have f2 := RX.fro 2
      have f3 := RX.fro 3
      have f4 := RX.fro 4
      have f5 := RX.fro 5
      have f6 := RX.fro 6
      have f7 := RX.fro 7
      have f8 := RX.fro 8
      have f9 := RX.fro 9
      have f10 := RX.fro 10
      have f11 := RX.fro 11
      have f12 := RX.fro 12
      have HR9 := hide ((((((((((((((RX.set 0 (.int .i64 id) (by simp)).set 1 (.int .i64 tm) (by simp)).set 2 (.int .i64 vo) (by simp)).set 3 (.slice la2 lg.length lc2) (by simp)).set 4 (.slice sa2 st.length sc2) (by simp)).set 5 (.int .i64 ro) (by simp)).set 6 (.slice va2 vs.length vc2) (by simp)).set 7 (.slice (some ⟨g, 0, none⟩) 7 nc2) (by simp)).set 8 (.slice (some ⟨h, 0, none⟩) 7 mc2) (by simp)).set 9 (.int .i64 cm) (by simp)).set 10 (.int .i64 (el + 1)) (by simp)).set 11 (.int .i64 wt) (by simp)).set 12 (.bool up) (by simp)))
      have T9 := ((((((((((((((Touch.refl (fun q => q = w.heap.size + 1) wz).setCell ⟨w.heap.size + 1, 0, none⟩ (.int .i64 id) (fun _ => rfl)).setCell ⟨w.heap.size + 1, 1, none⟩ (.int .i64 tm) (fun _ => rfl)).setCell ⟨w.heap.size + 1, 2, none⟩ (.int .i64 vo) (fun _ => rfl)).setCell ⟨w.heap.size + 1, 3, none⟩ (.slice la2 lg.length lc2) (fun _ => rfl)).setCell ⟨w.heap.size + 1, 4, none⟩ (.slice sa2 st.length sc2) (fun _ => rfl)).setCell ⟨w.heap.size + 1, 5, none⟩ (.int .i64 ro) (fun _ => rfl)).setCell ⟨w.heap.size + 1, 6, none⟩ (.slice va2 vs.length vc2) (fun _ => rfl)).setCell ⟨w.heap.size + 1, 7, none⟩ (.slice (some ⟨g, 0, none⟩) 7 nc2) (fun _ => rfl)).setCell ⟨w.heap.size + 1, 8, none⟩ (.slice (some ⟨h, 0, none⟩) 7 mc2) (fun _ => rfl)).setCell ⟨w.heap.size + 1, 9, none⟩ (.int .i64 cm) (fun _ => rfl)).setCell ⟨w.heap.size + 1, 10, none⟩ (.int .i64 (el + 1)) (fun _ => rfl)).setCell ⟨w.heap.size + 1, 11, none⟩ (.int .i64 wt) (fun _ => rfl)).setCell ⟨w.heap.size + 1, 12, none⟩ (.bool up) (fun _ => rfl))
      have HT9 := hide T9
      clear RX T9
      have hrW : w.heap.size + 1 < wz.heap.size := (unhide R6).1
      have hnW : nb < wz.heap.size := (unhide N6).1
      have RA := hide ((unhide HR9).alloc (.cells #[] 59))
      have x0 := (unhide N6).cell 0 rfl
      have x1 := (unhide N6).cell 1 rfl
      have x2 := (unhide N6).cell 2 rfl
      have x3 := (unhide N6).cell 3 rfl
      have x4 := (unhide N6).cell 4 rfl
      have x5 := (unhide N6).cell 5 rfl
      have x6 := (unhide N6).cell 6 rfl
      have x7 := (unhide N6).cell 7 rfl
      have x8 := (unhide N6).cell 8 rfl
      have x9 := (unhide N6).cell 9 rfl
      have x10 := (unhide N6).cell 10 rfl
      have x11 := (unhide N6).cell 11 rfl
      have x12 := (unhide N6).cell 12 rfl
      go_wp2_with fail
      have R9 := unhide RA
      have z0 := R9.cell 0 rfl
      have z1 := R9.cell 1 rfl
      have z2 := R9.cell 2 rfl
      have z3 := R9.cell 3 rfl
      have z4 := R9.cell 4 rfl
      have z5 := R9.cell 5 rfl
      have z6 := R9.cell 6 rfl
      have z7 := R9.cell 7 rfl
      have z8 := R9.cell 8 rfl
      have z9 := R9.cell 9 rfl
      have z10 := R9.cell 10 rfl
      have z11 := R9.cell 11 rfl
      have z12 := R9.cell 12 rfl
      refine bodyPost_ret (v := .tuple #[.agg #[.int .i64 id, .int .i64 tm, .int .i64 vo, .slice la2 lg.length lc2, .slice sa2 st.length sc2, .int .i64 ro, .slice va2 vs.length vc2, .slice (some ⟨g, 0, none⟩) 7 nc2, .slice (some ⟨h, 0, none⟩) 7 mc2, .int .i64 cm, .int .i64 (el + 1), .int .i64 wt, .bool up], .slice (some ⟨wz.heap.size, 0, none⟩) 0 0]) (by simp [results, Try.results22, go_sem, z0, z1, z2, z3, z4, z5, z6, z7, z8, z9, z10, z11, z12]) rfl ?_
      rw [unhide HU, if_neg hro, unhide HE]
      obtain ⟨hnx, hmt⟩ := unhide HNL
      refine ElAns.same (W := wz) hnx hmt rfl (NoO.mono4 ((NoO.keep (unhide O6) (unhide HT9) (fun q hq => (unhide HAP q hq).1)).below ((Below.refl _ _).alloc (Nat.le_refl _) (.cells #[] 59))) (by omega)) ?_ ?_ ((((Touch.ofBelow (T := fun q => w.heap.size ≤ q) (unhide K6)).trans (T' := fun q => q = w.heap.size + 1) (unhide HT9) (fun j hj e => by omega))).alloc (.cells #[] 59))
      · have hn := ns_made mgS _ wz.heap.size (unhide HT9).size
        simp only [World.size_setCell] at hn
        exact hn
      · exact fun q hq => (NoO.blk (unhide O6) q hq).2
    have HH := hide (fun v wx (hI : Ints wx v mb) => l10Has_any v mb id wx hI (by omega))
    refine wp_region_noPanic ?_
    refine wp_region_held_drew (S := (fun wx => wx.cell? ⟨nb, 0, none⟩ = some (.int .i64 id) ∧ wx.cell? ⟨nb, 1, none⟩ = some (.int .i64 tm) ∧ wx.cell? ⟨nb, 2, none⟩ = some (.int .i64 vo) ∧ wx.cell? ⟨nb, 3, none⟩ = some (.slice la2 lg.length lc2) ∧ wx.cell? ⟨nb, 4, none⟩ = some (.slice sa2 st.length sc2) ∧ wx.cell? ⟨nb, 5, none⟩ = some (.int .i64 ro) ∧ wx.cell? ⟨nb, 6, none⟩ = some (.slice va2 vs.length vc2) ∧ wx.cell? ⟨nb, 7, none⟩ = some (.slice (some ⟨g, 0, none⟩) 7 nc2) ∧ wx.cell? ⟨nb, 8, none⟩ = some (.slice (some ⟨h, 0, none⟩) 7 mc2) ∧ wx.cell? ⟨nb, 9, none⟩ = some (.int .i64 cm) ∧ wx.cell? ⟨nb, 10, none⟩ = some (.int .i64 (el + 1)) ∧ wx.cell? ⟨nb, 11, none⟩ = some (.int .i64 wt) ∧ wx.cell? ⟨nb, 12, none⟩ = some (.bool up))) (by kernel_rfl) ?_ (fun hHeld => ?_)
    · exact ⟨x0, x1, x2, x3, x4, x5, x6, x7, x8, x9, x10, x11, x12⟩
    refine wpAnyH_take (i := 0) (oi := _) (v := ?_) rfl (by kernel_rfl) (by kernel_rfl) (by kernel_rfl) (fun _ _ _ h => h) (Or.inl ⟨by rfl, ?_⟩) (by assumption) ?_
    rotate_left 1
    · (intro wq hSw; (try dsimp only at hSw); (try simp only [List.getElem_toArray, List.getElem_cons_succ, List.getElem_cons_zero]); go_simp; try with_reducible rfl)
    (try simp only [Act.put, List.getElem_toArray, List.getElem_cons_succ, List.getElem_cons_zero, List.setIfInBounds_toArray, List.set_cons_zero, List.set_cons_succ])
    refine wpAnyH_take (i := 1) (oi := _) (v := ?_) rfl (by kernel_rfl) (by kernel_rfl) (by kernel_rfl) (fun _ _ _ h => h) (Or.inl ⟨by rfl, ?_⟩) (by assumption) ?_
    rotate_left 1
    · (intro wq hSw; (try dsimp only at hSw); (try simp only [List.getElem_toArray, List.getElem_cons_succ, List.getElem_cons_zero]); go_simp; try with_reducible rfl)
    (try simp only [Act.put, List.getElem_toArray, List.getElem_cons_succ, List.getElem_cons_zero, List.setIfInBounds_toArray, List.set_cons_zero, List.set_cons_succ])
    refine wpAnyH_take (i := 2) (oi := _) (v := ?_) rfl (by kernel_rfl) (by kernel_rfl) (by kernel_rfl) (fun _ _ _ h => h) (Or.inl ⟨by rfl, ?_⟩) (by assumption) ?_
    rotate_left 1
    · (intro wq hSw; (try dsimp only at hSw); (try simp only [List.getElem_toArray, List.getElem_cons_succ, List.getElem_cons_zero]); go_simp; try with_reducible rfl)
    (try simp only [Act.put, List.getElem_toArray, List.getElem_cons_succ, List.getElem_cons_zero, List.setIfInBounds_toArray, List.set_cons_zero, List.set_cons_succ])
    refine wpAnyH_take (i := 3) (oi := _) (v := ?_) rfl (by kernel_rfl) (by kernel_rfl) (by kernel_rfl) (fun _ _ _ h => h) (Or.inl ⟨by rfl, ?_⟩) (by assumption) ?_
    rotate_left 1
    · (intro wq hSw; (try dsimp only at hSw); (try simp only [List.getElem_toArray, List.getElem_cons_succ, List.getElem_cons_zero]); go_simp; try with_reducible rfl)
    (try simp only [Act.put, List.getElem_toArray, List.getElem_cons_succ, List.getElem_cons_zero, List.setIfInBounds_toArray, List.set_cons_zero, List.set_cons_succ])
    refine wpAnyH_take (i := 4) (oi := _) (v := ?_) rfl (by kernel_rfl) (by kernel_rfl) (by kernel_rfl) (fun _ _ _ h => h) (Or.inl ⟨by rfl, ?_⟩) (by assumption) ?_
    rotate_left 1
    · (intro wq hSw; (try dsimp only at hSw); (try simp only [List.getElem_toArray, List.getElem_cons_succ, List.getElem_cons_zero]); go_simp; try with_reducible rfl)
    (try simp only [Act.put, List.getElem_toArray, List.getElem_cons_succ, List.getElem_cons_zero, List.setIfInBounds_toArray, List.set_cons_zero, List.set_cons_succ])
    refine wpAnyH_take (i := 5) (oi := _) (v := ?_) rfl (by kernel_rfl) (by kernel_rfl) (by kernel_rfl) (fun _ _ _ h => h) (Or.inl ⟨by rfl, ?_⟩) (by assumption) ?_
    rotate_left 1
    · (intro wq hSw; (try dsimp only at hSw); (try simp only [List.getElem_toArray, List.getElem_cons_succ, List.getElem_cons_zero]); go_simp; try with_reducible rfl)
    (try simp only [Act.put, List.getElem_toArray, List.getElem_cons_succ, List.getElem_cons_zero, List.setIfInBounds_toArray, List.set_cons_zero, List.set_cons_succ])
    refine wpAnyH_take (i := 6) (oi := _) (v := ?_) rfl (by kernel_rfl) (by kernel_rfl) (by kernel_rfl) (fun _ _ _ h => h) (Or.inl ⟨by rfl, ?_⟩) (by assumption) ?_
    rotate_left 1
    · (intro wq hSw; (try dsimp only at hSw); (try simp only [List.getElem_toArray, List.getElem_cons_succ, List.getElem_cons_zero]); go_simp; try with_reducible rfl)
    (try simp only [Act.put, List.getElem_toArray, List.getElem_cons_succ, List.getElem_cons_zero, List.setIfInBounds_toArray, List.set_cons_zero, List.set_cons_succ])
    refine wpAnyH_take (i := 8) (oi := _) (v := ?_) rfl (by kernel_rfl) (by kernel_rfl) (by kernel_rfl) (fun _ _ _ h => h) (Or.inl ⟨by rfl, ?_⟩) (by assumption) ?_
    rotate_left 1
    · (intro wq hSw; (try dsimp only at hSw); (try simp only [List.getElem_toArray, List.getElem_cons_succ, List.getElem_cons_zero]); go_simp; try with_reducible rfl)
    (try simp only [Act.put, List.getElem_toArray, List.getElem_cons_succ, List.getElem_cons_zero, List.setIfInBounds_toArray, List.set_cons_zero, List.set_cons_succ])
    refine wpAnyH_take (i := 9) (oi := _) (v := ?_) rfl (by kernel_rfl) (by kernel_rfl) (by kernel_rfl) (fun _ _ _ h => h) (Or.inl ⟨by rfl, ?_⟩) (by assumption) ?_
    rotate_left 1
    · (intro wq hSw; (try dsimp only at hSw); (try simp only [List.getElem_toArray, List.getElem_cons_succ, List.getElem_cons_zero]); go_simp; try with_reducible rfl)
    (try simp only [Act.put, List.getElem_toArray, List.getElem_cons_succ, List.getElem_cons_zero, List.setIfInBounds_toArray, List.set_cons_zero, List.set_cons_succ])
    clear x0 x1 x2 x3 x4 x5 x6 x7 x8 x9 x10 x11 x12 O4 R4 K4 N4
    have hk6 := (unhide K6).size
    generalize w4.drew = wz at *
    have hnz : nb < wz.heap.size := (unhide N6).1
    have x0 := (unhide N6).cell 0 rfl
    have x1 := (unhide N6).cell 1 rfl
    have x2 := (unhide N6).cell 2 rfl
    have x3 := (unhide N6).cell 3 rfl
    have x4 := (unhide N6).cell 4 rfl
    have x5 := (unhide N6).cell 5 rfl
    have x6 := (unhide N6).cell 6 rfl
    have x7 := (unhide N6).cell 7 rfl
    have x8 := (unhide N6).cell 8 rfl
    have x9 := (unhide N6).cell 9 rfl
    have x10 := (unhide N6).cell 10 rfl
    have x11 := (unhide N6).cell 11 rfl
    have x12 := (unhide N6).cell 12 rfl
    refine wpAnyH_ready (rs := [7]) (by kernel_rfl) (by simp) ?_
    refine AllReadyH.cons (o := _) rfl (fun K hK => ?_) AllReadyH.nil
    go_simp
    refine (unhide HMem wz (unhide O6)).mono ?_
    rintro e w5 ⟨lv, rfl, hlv, hb5⟩
    have hbX := hb5
    have HB5 := hide hb5
    have HI := hide (unhide HH lv w5 hlv)
    go_wp2_with fail
    refine hK.out _ _ ?_ (fun hHeld => ?_)
    · exact ⟨(hbX.cell (p := ⟨nb, 0, none⟩) hnz).trans x0, (hbX.cell (p := ⟨nb, 1, none⟩) hnz).trans x1, (hbX.cell (p := ⟨nb, 2, none⟩) hnz).trans x2, (hbX.cell (p := ⟨nb, 3, none⟩) hnz).trans x3, (hbX.cell (p := ⟨nb, 4, none⟩) hnz).trans x4, (hbX.cell (p := ⟨nb, 5, none⟩) hnz).trans x5, (hbX.cell (p := ⟨nb, 6, none⟩) hnz).trans x6, (hbX.cell (p := ⟨nb, 7, none⟩) hnz).trans x7, (hbX.cell (p := ⟨nb, 8, none⟩) hnz).trans x8, (hbX.cell (p := ⟨nb, 9, none⟩) hnz).trans x9, (hbX.cell (p := ⟨nb, 10, none⟩) hnz).trans x10, (hbX.cell (p := ⟨nb, 11, none⟩) hnz).trans x11, (hbX.cell (p := ⟨nb, 12, none⟩) hnz).trans x12⟩
    clear hK K
    (try simp only [Act.put, List.getElem_toArray, List.getElem_cons_succ, List.getElem_cons_zero, List.setIfInBounds_toArray, List.set_cons_zero, List.set_cons_succ])
    clear hlv hb5 x0 x1 x2 x3 x4 x5 x6 x7 x8 x9 x10 x11 x12
    have O7 := hide ((unhide O6).below (unhide HB5))
    have R7 := hide ((unhide R6).below (unhide HB5))
    have N7 := hide ((unhide N6).below (unhide HB5))
    have K7 := hide ((unhide K6).trans ((unhide HB5).mono (unhide K6).size))
    have hs5 := (unhide HB5).size
    clear O6 R6 N6 K6 HB5
    have x0 := (unhide N7).cell 0 rfl
    have x1 := (unhide N7).cell 1 rfl
    have x2 := (unhide N7).cell 2 rfl
    have x3 := (unhide N7).cell 3 rfl
    have x4 := (unhide N7).cell 4 rfl
    have x5 := (unhide N7).cell 5 rfl
    have x6 := (unhide N7).cell 6 rfl
    have x7 := (unhide N7).cell 7 rfl
    have x8 := (unhide N7).cell 8 rfl
    have x9 := (unhide N7).cell 9 rfl
    have x10 := (unhide N7).cell 10 rfl
    have x11 := (unhide N7).cell 11 rfl
    have x12 := (unhide N7).cell 12 rfl
    have HMy : Hid (mayS id tm (el + 1) wt mb = (decide (tm < 1000000) && decide (id ∈ mb))) := hide (by unfold mayS; rw [decide_eq_true (show wt ≤ (el + 1) by omega)]; rfl)
    generalize decide (id ∈ mb) = bo at *
    refine wpAnyH_ready (rs := [10]) (by kernel_rfl) (by simp) ?_
    refine AllReadyH.cons (o := _) rfl (fun K hK => ?_) AllReadyH.nil
    go_simp
    refine (unhide HI).mono ?_
    rintro e w' ⟨rfl, hw'⟩
    have hw2 := hw'.symm
    clear hw'
    subst hw2
    go_wp2_with fail
    refine hK.out _ _ ?_ (fun hHeld => ?_)
    · exact ⟨x0, x1, x2, x3, x4, x5, x6, x7, x8, x9, x10, x11, x12⟩
    clear hK K
    (try simp only [Act.put, List.getElem_toArray, List.getElem_cons_succ, List.getElem_cons_zero, List.setIfInBounds_toArray, List.set_cons_zero, List.set_cons_succ])
    cases bo
    · have HE := hide (show mayS id tm (el + 1) wt mb = false by rw [unhide HMy]; simp)
      refine wpAnyH_take (i := 11) (oi := _) (v := ?_) rfl (by kernel_rfl) (by kernel_rfl) (by kernel_rfl) (fun _ _ _ h => h) (Or.inl ⟨by rfl, ?_⟩) (by assumption) ?_
      rotate_left 1
      · (intro wq hSw; (try dsimp only at hSw); (try simp only [List.getElem_toArray, List.getElem_cons_succ, List.getElem_cons_zero]); go_simp; try with_reducible rfl)
      (try simp only [Act.put, List.getElem_toArray, List.getElem_cons_succ, List.getElem_cons_zero, List.setIfInBounds_toArray, List.set_cons_zero, List.set_cons_succ])
      refine wpAnyH_take (i := 12) (oi := _) (v := ?_) rfl (by kernel_rfl) (by kernel_rfl) (by kernel_rfl) (fun _ _ _ h => h) (Or.inl ⟨by rfl, ?_⟩) (by assumption) ?_
      rotate_left 1
      · (intro wq hSw; (try dsimp only at hSw); (try simp only [List.getElem_toArray, List.getElem_cons_succ, List.getElem_cons_zero]); go_simp; try with_reducible rfl)
      (try simp only [Act.put, List.getElem_toArray, List.getElem_cons_succ, List.getElem_cons_zero, List.setIfInBounds_toArray, List.set_cons_zero, List.set_cons_succ])
      refine wpAnyH_take (i := 13) (oi := _) (v := ?_) rfl (by kernel_rfl) (by kernel_rfl) (by kernel_rfl) (fun _ _ _ h => h) (Or.inl ⟨by rfl, ?_⟩) (by assumption) ?_
      rotate_left 1
      · (intro wq hSw; (try dsimp only at hSw); (try simp only [List.getElem_toArray, List.getElem_cons_succ, List.getElem_cons_zero]); go_simp; try with_reducible rfl)
      (try simp only [Act.put, List.getElem_toArray, List.getElem_cons_succ, List.getElem_cons_zero, List.setIfInBounds_toArray, List.set_cons_zero, List.set_cons_succ])
      refine wpAnyH_take (i := 14) (oi := _) (v := undef) rfl (by kernel_rfl) (by kernel_rfl) (by kernel_rfl) (fun _ _ _ h => h) (Or.inr ⟨by rfl, rfl⟩) (by assumption) ?_
      (try simp only [Act.put, List.getElem_toArray, List.getElem_cons_succ, List.getElem_cons_zero, List.setIfInBounds_toArray, List.set_cons_zero, List.set_cons_succ])
      refine wpAnyH_take (i := 15) (oi := _) (v := undef) rfl (by kernel_rfl) (by kernel_rfl) (by kernel_rfl) (fun _ _ _ h => h) (Or.inr ⟨by rfl, rfl⟩) (by assumption) ?_
      (try simp only [Act.put, List.getElem_toArray, List.getElem_cons_succ, List.getElem_cons_zero, List.setIfInBounds_toArray, List.set_cons_zero, List.set_cons_succ])
      refine wpAnyH_take (i := 16) (oi := _) (v := undef) rfl (by kernel_rfl) (by kernel_rfl) (by kernel_rfl) (fun _ _ _ h => h) (Or.inr ⟨by rfl, rfl⟩) (by assumption) ?_
      (try simp only [Act.put, List.getElem_toArray, List.getElem_cons_succ, List.getElem_cons_zero, List.setIfInBounds_toArray, List.set_cons_zero, List.set_cons_succ])
      refine wpAnyH_take (i := 17) (oi := _) (v := ?_) rfl (by kernel_rfl) (by kernel_rfl) (by kernel_rfl) (fun _ _ _ h => h) (Or.inl ⟨by rfl, ?_⟩) (by assumption) ?_
      rotate_left 1
      · (intro wq hSw; (try dsimp only at hSw); (try simp only [List.getElem_toArray, List.getElem_cons_succ, List.getElem_cons_zero]); go_simp; try with_reducible rfl)
      (try simp only [Act.put, List.getElem_toArray, List.getElem_cons_succ, List.getElem_cons_zero, List.setIfInBounds_toArray, List.set_cons_zero, List.set_cons_succ])
      refine wpAnyH_done (by kernel_rfl) (NoPanic.normal ?_) _
      clear x0 x1 x2 x3 x4 x5 x6 x7 x8 x9 x10 x11 x12
      have RX := unhide R7
      have r0 := RX.cell 0 rfl
      have r1 := RX.cell 1 rfl
      have r2 := RX.cell 2 rfl
      have r3 := RX.cell 3 rfl
      have r4 := RX.cell 4 rfl
      have r5 := RX.cell 5 rfl
      have r6 := RX.cell 6 rfl
      have r7 := RX.cell 7 rfl
      have r8 := RX.cell 8 rfl
      have r9 := RX.cell 9 rfl
      have r10 := RX.cell 10 rfl
      have r11 := RX.cell 11 rfl
      have r12 := RX.cell 12 rfl
      have f0 := RX.fro 0
      have f1 := RX.fro 1
      have f2 := RX.fro 2
      have f3 := RX.fro 3
      have f4 := RX.fro 4
      have f5 := RX.fro 5
      have f6 := RX.fro 6
      have f7 := RX.fro 7
      have f8 := RX.fro 8
      have f9 := RX.fro 9
      have f10 := RX.fro 10
      have f11 := RX.fro 11
      have f12 := RX.fro 12
      have HR9 := hide ((((((((((((((RX.set 0 (.int .i64 id) (by simp)).set 1 (.int .i64 tm) (by simp)).set 2 (.int .i64 vo) (by simp)).set 3 (.slice la2 lg.length lc2) (by simp)).set 4 (.slice sa2 st.length sc2) (by simp)).set 5 (.int .i64 ro) (by simp)).set 6 (.slice va2 vs.length vc2) (by simp)).set 7 (.slice (some ⟨g, 0, none⟩) 7 nc2) (by simp)).set 8 (.slice (some ⟨h, 0, none⟩) 7 mc2) (by simp)).set 9 (.int .i64 cm) (by simp)).set 10 (.int .i64 (el + 1)) (by simp)).set 11 (.int .i64 wt) (by simp)).set 12 (.bool up) (by simp)))
      have T9 := ((((((((((((((Touch.refl (fun q => q = w.heap.size + 1) w5).setCell ⟨w.heap.size + 1, 0, none⟩ (.int .i64 id) (fun _ => rfl)).setCell ⟨w.heap.size + 1, 1, none⟩ (.int .i64 tm) (fun _ => rfl)).setCell ⟨w.heap.size + 1, 2, none⟩ (.int .i64 vo) (fun _ => rfl)).setCell ⟨w.heap.size + 1, 3, none⟩ (.slice la2 lg.length lc2) (fun _ => rfl)).setCell ⟨w.heap.size + 1, 4, none⟩ (.slice sa2 st.length sc2) (fun _ => rfl)).setCell ⟨w.heap.size + 1, 5, none⟩ (.int .i64 ro) (fun _ => rfl)).setCell ⟨w.heap.size + 1, 6, none⟩ (.slice va2 vs.length vc2) (fun _ => rfl)).setCell ⟨w.heap.size + 1, 7, none⟩ (.slice (some ⟨g, 0, none⟩) 7 nc2) (fun _ => rfl)).setCell ⟨w.heap.size + 1, 8, none⟩ (.slice (some ⟨h, 0, none⟩) 7 mc2) (fun _ => rfl)).setCell ⟨w.heap.size + 1, 9, none⟩ (.int .i64 cm) (fun _ => rfl)).setCell ⟨w.heap.size + 1, 10, none⟩ (.int .i64 (el + 1)) (fun _ => rfl)).setCell ⟨w.heap.size + 1, 11, none⟩ (.int .i64 wt) (fun _ => rfl)).setCell ⟨w.heap.size + 1, 12, none⟩ (.bool up) (fun _ => rfl))
      have HT9 := hide T9
      clear RX T9
      have hrW : w.heap.size + 1 < w5.heap.size := (unhide R7).1
      have hnW : nb < w5.heap.size := (unhide N7).1
      have RA := hide ((unhide HR9).alloc (.cells #[] 59))
      have x0 := (unhide N7).cell 0 rfl
      have x1 := (unhide N7).cell 1 rfl
      have x2 := (unhide N7).cell 2 rfl
      have x3 := (unhide N7).cell 3 rfl
      have x4 := (unhide N7).cell 4 rfl
      have x5 := (unhide N7).cell 5 rfl
      have x6 := (unhide N7).cell 6 rfl
      have x7 := (unhide N7).cell 7 rfl
      have x8 := (unhide N7).cell 8 rfl
      have x9 := (unhide N7).cell 9 rfl
      have x10 := (unhide N7).cell 10 rfl
      have x11 := (unhide N7).cell 11 rfl
      have x12 := (unhide N7).cell 12 rfl
      go_wp2_with fail
      have R9 := unhide RA
      have z0 := R9.cell 0 rfl
      have z1 := R9.cell 1 rfl
      have z2 := R9.cell 2 rfl
      have z3 := R9.cell 3 rfl
      have z4 := R9.cell 4 rfl
      have z5 := R9.cell 5 rfl
      have z6 := R9.cell 6 rfl
      have z7 := R9.cell 7 rfl
      have z8 := R9.cell 8 rfl
      have z9 := R9.cell 9 rfl
      have z10 := R9.cell 10 rfl
      have z11 := R9.cell 11 rfl
      have z12 := R9.cell 12 rfl
      refine bodyPost_ret (v := .tuple #[.agg #[.int .i64 id, .int .i64 tm, .int .i64 vo, .slice la2 lg.length lc2, .slice sa2 st.length sc2, .int .i64 ro, .slice va2 vs.length vc2, .slice (some ⟨g, 0, none⟩) 7 nc2, .slice (some ⟨h, 0, none⟩) 7 mc2, .int .i64 cm, .int .i64 (el + 1), .int .i64 wt, .bool up], .slice (some ⟨w5.heap.size, 0, none⟩) 0 0]) (by simp [results, Try.results22, go_sem, z0, z1, z2, z3, z4, z5, z6, z7, z8, z9, z10, z11, z12]) rfl ?_
      rw [unhide HU, if_neg hro, unhide HE]
      obtain ⟨hnx, hmt⟩ := unhide HNL
      refine ElAns.same (W := w5) hnx hmt rfl (NoO.mono4 ((NoO.keep (unhide O7) (unhide HT9) (fun q hq => (unhide HAP q hq).1)).below ((Below.refl _ _).alloc (Nat.le_refl _) (.cells #[] 59))) (by omega)) ?_ ?_ ((((Touch.ofBelow (T := fun q => w.heap.size ≤ q) (unhide K7)).trans (T' := fun q => q = w.heap.size + 1) (unhide HT9) (fun j hj e => by omega))).alloc (.cells #[] 59))
      · have hn := ns_made mgS _ w5.heap.size (unhide HT9).size
        simp only [World.size_setCell] at hn
        exact hn
      · exact fun q hq => (NoO.blk (unhide O7) q hq).2
    by_cases c2 : tm = 1000000
    · have HE := hide (show mayS id tm (el + 1) wt mb = false by rw [unhide HMy, decide_eq_false (by omega)]; rfl)
      have b2 : (tm == 1000000) = true := by rw [c2]; rfl
      have HTM := hide c2
      clear c2
      refine wpAnyH_take (i := 11) (oi := _) (v := ?_) rfl (by kernel_rfl) (by kernel_rfl) (by kernel_rfl) (fun _ _ _ h => h) (Or.inl ⟨by rfl, ?_⟩) (by assumption) ?_
      rotate_left 1
      · (intro wq hSw; (try dsimp only at hSw); (try simp only [List.getElem_toArray, List.getElem_cons_succ, List.getElem_cons_zero]); go_simp; try with_reducible rfl)
      (try simp only [Act.put, List.getElem_toArray, List.getElem_cons_succ, List.getElem_cons_zero, List.setIfInBounds_toArray, List.set_cons_zero, List.set_cons_succ])
      refine wpAnyH_take (i := 12) (oi := _) (v := ?_) rfl (by kernel_rfl) (by kernel_rfl) (by kernel_rfl) (fun _ _ _ h => h) (Or.inl ⟨by rfl, ?_⟩) (by assumption) ?_
      rotate_left 1
      · (intro wq hSw; (try dsimp only at hSw); (try simp only [List.getElem_toArray, List.getElem_cons_succ, List.getElem_cons_zero]); go_simp; try with_reducible rfl)
      (try simp only [Act.put, List.getElem_toArray, List.getElem_cons_succ, List.getElem_cons_zero, List.setIfInBounds_toArray, List.set_cons_zero, List.set_cons_succ])
      refine wpAnyH_take (i := 13) (oi := _) (v := ?_) rfl (by kernel_rfl) (by kernel_rfl) (by kernel_rfl) (fun _ _ _ h => h) (Or.inl ⟨by rfl, ?_⟩) (by assumption) ?_
      rotate_left 1
      · (intro wq hSw; (try dsimp only at hSw); (try simp only [List.getElem_toArray, List.getElem_cons_succ, List.getElem_cons_zero]); go_simp; try with_reducible rfl)
      (try simp only [Act.put, List.getElem_toArray, List.getElem_cons_succ, List.getElem_cons_zero, List.setIfInBounds_toArray, List.set_cons_zero, List.set_cons_succ])
      refine wpAnyH_take (i := 14) (oi := _) (v := ?_) rfl (by kernel_rfl) (by kernel_rfl) (by kernel_rfl) (fun _ _ _ h => h) (Or.inl ⟨by rfl, ?_⟩) (by assumption) ?_
      rotate_left 1
      · (intro wq hSw; (try dsimp only at hSw); (try simp only [List.getElem_toArray, List.getElem_cons_succ, List.getElem_cons_zero]); go_simp; try with_reducible rfl)
      (try simp only [Act.put, List.getElem_toArray, List.getElem_cons_succ, List.getElem_cons_zero, List.setIfInBounds_toArray, List.set_cons_zero, List.set_cons_succ])
      refine wpAnyH_take (i := 15) (oi := _) (v := ?_) rfl (by kernel_rfl) (by kernel_rfl) (by kernel_rfl) (fun _ _ _ h => h) (Or.inl ⟨by rfl, ?_⟩) (by assumption) ?_
      rotate_left 1
      · (intro wq hSw; (try dsimp only at hSw); (try simp only [List.getElem_toArray, List.getElem_cons_succ, List.getElem_cons_zero]); go_simp; try with_reducible rfl)
      (try simp only [Act.put, List.getElem_toArray, List.getElem_cons_succ, List.getElem_cons_zero, List.setIfInBounds_toArray, List.set_cons_zero, List.set_cons_succ])
      refine wpAnyH_take (i := 16) (oi := _) (v := ?_) rfl (by kernel_rfl) (by kernel_rfl) (by kernel_rfl) (fun _ _ _ h => h) (Or.inl ⟨by rfl, ?_⟩) (by assumption) ?_
      rotate_left 1
      · (intro wq hSw; (try dsimp only at hSw); (try simp only [List.getElem_toArray, List.getElem_cons_succ, List.getElem_cons_zero]); go_simp; try with_reducible rfl)
      (try simp only [Act.put, List.getElem_toArray, List.getElem_cons_succ, List.getElem_cons_zero, List.setIfInBounds_toArray, List.set_cons_zero, List.set_cons_succ])
      refine wpAnyH_take (i := 17) (oi := _) (v := ?_) rfl (by kernel_rfl) (by kernel_rfl) (by kernel_rfl) (fun _ _ _ h => h) (Or.inl ⟨by rfl, ?_⟩) (by assumption) ?_
      rotate_left 1
      · (intro wq hSw; (try dsimp only at hSw); (try simp only [List.getElem_toArray, List.getElem_cons_succ, List.getElem_cons_zero]); go_simp; try with_reducible rfl)
      (try simp only [Act.put, List.getElem_toArray, List.getElem_cons_succ, List.getElem_cons_zero, List.setIfInBounds_toArray, List.set_cons_zero, List.set_cons_succ])
      refine wpAnyH_done (by kernel_rfl) (NoPanic.normal ?_) _
      clear x0 x1 x2 x3 x4 x5 x6 x7 x8 x9 x10 x11 x12
      have RX := unhide R7
      have r0 := RX.cell 0 rfl
      have r1 := RX.cell 1 rfl
      have r2 := RX.cell 2 rfl
      have r3 := RX.cell 3 rfl
      have r4 := RX.cell 4 rfl
      have r5 := RX.cell 5 rfl
      have r6 := RX.cell 6 rfl
      have r7 := RX.cell 7 rfl
      have r8 := RX.cell 8 rfl
      have r9 := RX.cell 9 rfl
      have r10 := RX.cell 10 rfl
      have r11 := RX.cell 11 rfl
      have r12 := RX.cell 12 rfl
      have f0 := RX.fro 0
      have f1 := RX.fro 1
      have f2 := RX.fro 2
      have f3 := RX.fro 3
      have f4 := RX.fro 4
      have f5 := RX.fro 5
      have f6 := RX.fro 6
      have f7 := RX.fro 7
      have f8 := RX.fro 8
      have f9 := RX.fro 9
      have f10 := RX.fro 10
      have f11 := RX.fro 11
      have f12 := RX.fro 12
      have HR9 := hide ((((((((((((((RX.set 0 (.int .i64 id) (by simp)).set 1 (.int .i64 tm) (by simp)).set 2 (.int .i64 vo) (by simp)).set 3 (.slice la2 lg.length lc2) (by simp)).set 4 (.slice sa2 st.length sc2) (by simp)).set 5 (.int .i64 ro) (by simp)).set 6 (.slice va2 vs.length vc2) (by simp)).set 7 (.slice (some ⟨g, 0, none⟩) 7 nc2) (by simp)).set 8 (.slice (some ⟨h, 0, none⟩) 7 mc2) (by simp)).set 9 (.int .i64 cm) (by simp)).set 10 (.int .i64 (el + 1)) (by simp)).set 11 (.int .i64 wt) (by simp)).set 12 (.bool up) (by simp)))
      have T9 := ((((((((((((((Touch.refl (fun q => q = w.heap.size + 1) w5).setCell ⟨w.heap.size + 1, 0, none⟩ (.int .i64 id) (fun _ => rfl)).setCell ⟨w.heap.size + 1, 1, none⟩ (.int .i64 tm) (fun _ => rfl)).setCell ⟨w.heap.size + 1, 2, none⟩ (.int .i64 vo) (fun _ => rfl)).setCell ⟨w.heap.size + 1, 3, none⟩ (.slice la2 lg.length lc2) (fun _ => rfl)).setCell ⟨w.heap.size + 1, 4, none⟩ (.slice sa2 st.length sc2) (fun _ => rfl)).setCell ⟨w.heap.size + 1, 5, none⟩ (.int .i64 ro) (fun _ => rfl)).setCell ⟨w.heap.size + 1, 6, none⟩ (.slice va2 vs.length vc2) (fun _ => rfl)).setCell ⟨w.heap.size + 1, 7, none⟩ (.slice (some ⟨g, 0, none⟩) 7 nc2) (fun _ => rfl)).setCell ⟨w.heap.size + 1, 8, none⟩ (.slice (some ⟨h, 0, none⟩) 7 mc2) (fun _ => rfl)).setCell ⟨w.heap.size + 1, 9, none⟩ (.int .i64 cm) (fun _ => rfl)).setCell ⟨w.heap.size + 1, 10, none⟩ (.int .i64 (el + 1)) (fun _ => rfl)).setCell ⟨w.heap.size + 1, 11, none⟩ (.int .i64 wt) (fun _ => rfl)).setCell ⟨w.heap.size + 1, 12, none⟩ (.bool up) (fun _ => rfl))
      have HT9 := hide T9
      clear RX T9
      have hrW : w.heap.size + 1 < w5.heap.size := (unhide R7).1
      have hnW : nb < w5.heap.size := (unhide N7).1
      have RA := hide ((unhide HR9).alloc (.cells #[] 59))
      have x0 := (unhide N7).cell 0 rfl
      have x1 := (unhide N7).cell 1 rfl
      have x2 := (unhide N7).cell 2 rfl
      have x3 := (unhide N7).cell 3 rfl
      have x4 := (unhide N7).cell 4 rfl
      have x5 := (unhide N7).cell 5 rfl
      have x6 := (unhide N7).cell 6 rfl
      have x7 := (unhide N7).cell 7 rfl
      have x8 := (unhide N7).cell 8 rfl
      have x9 := (unhide N7).cell 9 rfl
      have x10 := (unhide N7).cell 10 rfl
      have x11 := (unhide N7).cell 11 rfl
      have x12 := (unhide N7).cell 12 rfl
      go_wp2_with fail
      have R9 := unhide RA
      have z0 := R9.cell 0 rfl
      have z1 := R9.cell 1 rfl
      have z2 := R9.cell 2 rfl
      have z3 := R9.cell 3 rfl
      have z4 := R9.cell 4 rfl
      have z5 := R9.cell 5 rfl
      have z6 := R9.cell 6 rfl
      have z7 := R9.cell 7 rfl
      have z8 := R9.cell 8 rfl
      have z9 := R9.cell 9 rfl
      have z10 := R9.cell 10 rfl
      have z11 := R9.cell 11 rfl
      have z12 := R9.cell 12 rfl
      refine bodyPost_ret (v := .tuple #[.agg #[.int .i64 id, .int .i64 tm, .int .i64 vo, .slice la2 lg.length lc2, .slice sa2 st.length sc2, .int .i64 ro, .slice va2 vs.length vc2, .slice (some ⟨g, 0, none⟩) 7 nc2, .slice (some ⟨h, 0, none⟩) 7 mc2, .int .i64 cm, .int .i64 (el + 1), .int .i64 wt, .bool up], .slice (some ⟨w5.heap.size, 0, none⟩) 0 0]) (by simp [results, Try.results22, go_sem, z0, z1, z2, z3, z4, z5, z6, z7, z8, z9, z10, z11, z12]) rfl ?_
      rw [unhide HU, if_neg hro, unhide HE]
      obtain ⟨hnx, hmt⟩ := unhide HNL
      refine ElAns.same (W := w5) hnx hmt rfl (NoO.mono4 ((NoO.keep (unhide O7) (unhide HT9) (fun q hq => (unhide HAP q hq).1)).below ((Below.refl _ _).alloc (Nat.le_refl _) (.cells #[] 59))) (by omega)) ?_ ?_ ((((Touch.ofBelow (T := fun q => w.heap.size ≤ q) (unhide K7)).trans (T' := fun q => q = w.heap.size + 1) (unhide HT9) (fun j hj e => by omega))).alloc (.cells #[] 59))
      · have hn := ns_made mgS _ w5.heap.size (unhide HT9).size
        simp only [World.size_setCell] at hn
        exact hn
      · exact fun q hq => (NoO.blk (unhide O7) q hq).2
    have HE := hide (show mayS id tm (el + 1) wt mb = true by rw [unhide HMy, decide_eq_true (by omega)]; rfl)
    have b2 : (tm == 1000000) = false := by rw [beq_eq_false_iff_ne]; exact c2
    refine wpAnyH_take (i := 11) (oi := _) (v := ?_) rfl (by kernel_rfl) (by kernel_rfl) (by kernel_rfl) (fun _ _ _ h => h) (Or.inl ⟨by rfl, ?_⟩) (by assumption) ?_
    rotate_left 1
    · (intro wq hSw; (try dsimp only at hSw); (try simp only [List.getElem_toArray, List.getElem_cons_succ, List.getElem_cons_zero]); go_simp; try with_reducible rfl)
    (try simp only [Act.put, List.getElem_toArray, List.getElem_cons_succ, List.getElem_cons_zero, List.setIfInBounds_toArray, List.set_cons_zero, List.set_cons_succ])
    refine wpAnyH_take (i := 12) (oi := _) (v := ?_) rfl (by kernel_rfl) (by kernel_rfl) (by kernel_rfl) (fun _ _ _ h => h) (Or.inl ⟨by rfl, ?_⟩) (by assumption) ?_
    rotate_left 1
    · (intro wq hSw; (try dsimp only at hSw); (try simp only [List.getElem_toArray, List.getElem_cons_succ, List.getElem_cons_zero]); go_simp; try with_reducible rfl)
    (try simp only [Act.put, List.getElem_toArray, List.getElem_cons_succ, List.getElem_cons_zero, List.setIfInBounds_toArray, List.set_cons_zero, List.set_cons_succ])
    refine wpAnyH_take (i := 13) (oi := _) (v := ?_) rfl (by kernel_rfl) (by kernel_rfl) (by kernel_rfl) (fun _ _ _ h => h) (Or.inl ⟨by rfl, ?_⟩) (by assumption) ?_
    rotate_left 1
    · (intro wq hSw; (try dsimp only at hSw); (try simp only [List.getElem_toArray, List.getElem_cons_succ, List.getElem_cons_zero]); go_simp; try with_reducible rfl)
    (try simp only [Act.put, List.getElem_toArray, List.getElem_cons_succ, List.getElem_cons_zero, List.setIfInBounds_toArray, List.set_cons_zero, List.set_cons_succ])
    refine wpAnyH_take (i := 14) (oi := _) (v := ?_) rfl (by kernel_rfl) (by kernel_rfl) (by kernel_rfl) (fun _ _ _ h => h) (Or.inl ⟨by rfl, ?_⟩) (by assumption) ?_
    rotate_left 1
    · (intro wq hSw; (try dsimp only at hSw); (try simp only [List.getElem_toArray, List.getElem_cons_succ, List.getElem_cons_zero]); go_simp; try with_reducible rfl)
    (try simp only [Act.put, List.getElem_toArray, List.getElem_cons_succ, List.getElem_cons_zero, List.setIfInBounds_toArray, List.set_cons_zero, List.set_cons_succ])
    refine wpAnyH_take (i := 15) (oi := _) (v := ?_) rfl (by kernel_rfl) (by kernel_rfl) (by kernel_rfl) (fun _ _ _ h => h) (Or.inl ⟨by rfl, ?_⟩) (by assumption) ?_
    rotate_left 1
    · (intro wq hSw; (try dsimp only at hSw); (try simp only [List.getElem_toArray, List.getElem_cons_succ, List.getElem_cons_zero]); go_simp; try with_reducible rfl)
    (try simp only [Act.put, List.getElem_toArray, List.getElem_cons_succ, List.getElem_cons_zero, List.setIfInBounds_toArray, List.set_cons_zero, List.set_cons_succ])
    refine wpAnyH_take (i := 16) (oi := _) (v := ?_) rfl (by kernel_rfl) (by kernel_rfl) (by kernel_rfl) (fun _ _ _ h => h) (Or.inl ⟨by rfl, ?_⟩) (by assumption) ?_
    rotate_left 1
    · (intro wq hSw; (try dsimp only at hSw); (try simp only [List.getElem_toArray, List.getElem_cons_succ, List.getElem_cons_zero]); go_simp; try with_reducible rfl)
    (try simp only [Act.put, List.getElem_toArray, List.getElem_cons_succ, List.getElem_cons_zero, List.setIfInBounds_toArray, List.set_cons_zero, List.set_cons_succ])
    refine wpAnyH_take (i := 17) (oi := _) (v := ?_) rfl (by kernel_rfl) (by kernel_rfl) (by kernel_rfl) (fun _ _ _ h => h) (Or.inl ⟨by rfl, ?_⟩) (by assumption) ?_
    rotate_left 1
    · (intro wq hSw; (try dsimp only at hSw); (try simp only [List.getElem_toArray, List.getElem_cons_succ, List.getElem_cons_zero]); go_simp; try with_reducible rfl)
    (try simp only [Act.put, List.getElem_toArray, List.getElem_cons_succ, List.getElem_cons_zero, List.setIfInBounds_toArray, List.set_cons_zero, List.set_cons_succ])
    refine wpAnyH_done (by kernel_rfl) (NoPanic.normal ?_) _
    have HC := hide (unhide HEl w5 (by omega) (unhide O7) (by omega))
    generalize standOut ⟨id, tm, vo, ro, cm, (el + 1), wt, up, lg, st, vs, nx, mt⟩ draw = out at *
    obtain ⟨n, ms⟩ := out
    dsimp only at HC
    go_wp2_with fail
    refine (unhide HC).mono ?_
    rintro e w6 ⟨la, lc, sa, sc, va, vc, na, nc, ma, mc, mv, l, rfl, g1, g2, g3, g4, g5⟩
    have hs6 := g5.size
    have R8 := (unhide R7).kept g5 (fun e => by omega)
    have T8 := hide ((Touch.ofBelow (T := fun q => w.heap.size ≤ q) (unhide K7)).trans (T' := fun q => w.heap.size ≤ q) (g5.wide (fun q e => by omega)) (fun _ _ e => e))
    have HG := hide (And.intro g1 (And.intro g2 (And.intro g3 g4)))
    clear g1 g2 g3 g4 g5 x0 x1 x2 x3 x4 x5 x6 x7 x8 x9 x10 x11 x12 HC
    have RX := R8
    have r0 := RX.cell 0 rfl
    have r1 := RX.cell 1 rfl
    have r2 := RX.cell 2 rfl
    have r3 := RX.cell 3 rfl
    have r4 := RX.cell 4 rfl
    have r5 := RX.cell 5 rfl
    have r6 := RX.cell 6 rfl
    have r7 := RX.cell 7 rfl
    have r8 := RX.cell 8 rfl
    have r9 := RX.cell 9 rfl
    have r10 := RX.cell 10 rfl
    have r11 := RX.cell 11 rfl
    have r12 := RX.cell 12 rfl
    have f0 := RX.fro 0
    have f1 := RX.fro 1
    have f2 := RX.fro 2
    have f3 := RX.fro 3
    have f4 := RX.fro 4
    have f5 := RX.fro 5
    have f6 := RX.fro 6
    have f7 := RX.fro 7
    have f8 := RX.fro 8
    have f9 := RX.fro 9
    have f10 := RX.fro 10
    have f11 := RX.fro 11
    have f12 := RX.fro 12
    have HR9 := hide ((((((((((((((RX.set 0 (.int .i64 n.id) (by simp)).set 1 (.int .i64 n.tm) (by simp)).set 2 (.int .i64 n.vo) (by simp)).set 3 (.slice la n.lg.length lc) (by simp)).set 4 (.slice sa n.st.length sc) (by simp)).set 5 (.int .i64 n.ro) (by simp)).set 6 (.slice va n.vs.length vc) (by simp)).set 7 (.slice na n.nx.length nc) (by simp)).set 8 (.slice ma n.mt.length mc) (by simp)).set 9 (.int .i64 n.cm) (by simp)).set 10 (.int .i64 n.el) (by simp)).set 11 (.int .i64 n.wt) (by simp)).set 12 (.bool n.up) (by simp)))
    have T9 := ((((((((((((((Touch.refl (fun q => q = w.heap.size + 1) w6).setCell ⟨w.heap.size + 1, 0, none⟩ (.int .i64 n.id) (fun _ => rfl)).setCell ⟨w.heap.size + 1, 1, none⟩ (.int .i64 n.tm) (fun _ => rfl)).setCell ⟨w.heap.size + 1, 2, none⟩ (.int .i64 n.vo) (fun _ => rfl)).setCell ⟨w.heap.size + 1, 3, none⟩ (.slice la n.lg.length lc) (fun _ => rfl)).setCell ⟨w.heap.size + 1, 4, none⟩ (.slice sa n.st.length sc) (fun _ => rfl)).setCell ⟨w.heap.size + 1, 5, none⟩ (.int .i64 n.ro) (fun _ => rfl)).setCell ⟨w.heap.size + 1, 6, none⟩ (.slice va n.vs.length vc) (fun _ => rfl)).setCell ⟨w.heap.size + 1, 7, none⟩ (.slice na n.nx.length nc) (fun _ => rfl)).setCell ⟨w.heap.size + 1, 8, none⟩ (.slice ma n.mt.length mc) (fun _ => rfl)).setCell ⟨w.heap.size + 1, 9, none⟩ (.int .i64 n.cm) (fun _ => rfl)).setCell ⟨w.heap.size + 1, 10, none⟩ (.int .i64 n.el) (fun _ => rfl)).setCell ⟨w.heap.size + 1, 11, none⟩ (.int .i64 n.wt) (fun _ => rfl)).setCell ⟨w.heap.size + 1, 12, none⟩ (.bool n.up) (fun _ => rfl))
    have HT9 := hide T9
    clear RX T9
    clear R8
    go_wp2_with fail
    have R9 := unhide HR9
    have z0 := R9.cell 0 rfl
    have z1 := R9.cell 1 rfl
    have z2 := R9.cell 2 rfl
    have z3 := R9.cell 3 rfl
    have z4 := R9.cell 4 rfl
    have z5 := R9.cell 5 rfl
    have z6 := R9.cell 6 rfl
    have z7 := R9.cell 7 rfl
    have z8 := R9.cell 8 rfl
    have z9 := R9.cell 9 rfl
    have z10 := R9.cell 10 rfl
    have z11 := R9.cell 11 rfl
    have z12 := R9.cell 12 rfl
    refine bodyPost_ret (v := .tuple #[.agg #[.int .i64 n.id, .int .i64 n.tm, .int .i64 n.vo, .slice la n.lg.length lc, .slice sa n.st.length sc, .int .i64 n.ro, .slice va n.vs.length vc, .slice na n.nx.length nc, .slice ma n.mt.length mc, .int .i64 n.cm, .int .i64 n.el, .int .i64 n.wt, .bool n.up], mv]) (by simp [results, Try.results22, go_sem, z0, z1, z2, z3, z4, z5, z6, z7, z8, z9, z10, z11, z12]) rfl ?_
    rw [unhide HU, if_neg hro, unhide HE]
    obtain ⟨g1, g2, g3, g4⟩ := unhide HG
    simp only [if_true]
    exact ⟨la, lc, sa, sc, va, vc, na, nc, ma, mc, mv, l, rfl, NoO.mono4 (g1.kept (unhide HT9) (fun k e _ => by omega)) (by omega), (g2.kept (unhide HT9) (fun k e _ => by omega)).down (by omega), g3, g4, (unhide T8).trans (T' := fun q => q = w.heap.size + 1) (unhide HT9) (fun j hj e => by omega)⟩
end Go.Proofs.Ytljolldacpkeeaa
