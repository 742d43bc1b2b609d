/- spec.l10Propose, walked. (Written by py/npm.py.) spec.NodePropose, walked. (Written by py/npm.py.) Nodes: laws.szNode. (Written by py/nod.py.) Nodes: laws.toNode. (Written by py/nod.py.) Nodes: laws.eqNode; a node that came in, opened. (Written by py/nod.py.) -/
import Derived.Test.YtglkgmijcefjkaaGvaa
import Derived.Test.YtglkgmijcefjkaaNodP
import Derived.Test.YtglkgmijcefjkaaNod
namespace Go.Proofs.Ytglkgmijcefjkaa
open Go.ChangeShapes Go.WideShapes Go.ChangeAt Go.RowKit Go.Deep
set_option linter.unusedVariables false
set_option linter.unusedSimpArgs false

/-- A node that can be read, messages of the call's own, and a code come out. -/
def LAns (B : Nat) (n : NoD) (ms : List MV) (code : Int) (w : World) (e : Ending) (w' : World) : Prop :=
  ∃ la lc sa sc va vc na nc ma mc mv l, e = .returned (.tuple #[.agg #[.int .i64 n.id, .int .i64 n.tm, .int .i64 n.vo, .slice la n.lg.length lc, .slice sa n.st.length sc, .int .i64 n.ro, .slice va n.vs.length vc, .slice na n.nx.length nc, .slice ma n.mt.length mc, .int .i64 n.cm, .int .i64 n.el, .int .i64 n.wt, .bool n.up], mv, .int .i64 code]) ∧ NoR w' (.slice la n.lg.length lc) (.slice sa n.st.length sc) (.slice va n.vs.length vc) (.slice na n.nx.length nc) (.slice ma n.mt.length mc) n.lg n.st n.vs n.nx n.mt ∧ Ns mgS B w' mv l.length l ∧ l.map bareM = ms ∧ Below w.heap.size w w'
theorem NoR.keep {T : Nat → Prop} {w w' : World} {lv sv vv nv mv : Value} {lg : List En} {st vs nx mt : List Int} (h : NoR w lv sv vv nv mv lg st vs nx mt) (ht : Touch T w w') (hn : ∀ k, NoT [lv, sv, vv, nv, mv] k → ¬ T k) : NoR w' lv sv vv nv mv lg st vs nx mt :=
  ⟨Ens.kept h.lg ht (fun k hk => hn k ⟨_, by simp, hk⟩), h.st.kept ht (fun k hk => hn k ⟨sv, by simp, hk⟩), h.vs.kept ht (fun k hk => hn k ⟨vv, by simp, hk⟩), h.nx.kept ht (fun k hk => hn k ⟨nv, by simp, hk⟩), h.mt.kept ht (fun k hk => hn k ⟨mv, by simp, hk⟩)⟩
theorem infoEnt_ : True := trivial
set_option maxRecDepth 100000 in
set_option maxHeartbeats 4000000 in
theorem l10Propose_any (id tm vo ro cm el wt : Int) (up : Bool) (lg : List En) (st vs nx mt : List Int) (la : Option Addr) (lc : Nat) (sa : Option Addr) (sc : Nat) (va : Option Addr) (vc : Nat) (na : Option Addr) (nc : Nat) (ma : Option Addr) (mc : Nat) (t0 k : Int) (d : ByteArray) (w : World) (h : NoR w (.slice la lg.length lc) (.slice sa st.length sc) (.slice va vs.length vc) (.slice na nx.length nc) (.slice ma mt.length mc) lg st vs nx mt) (hz : ∀ i, (lg.getD i default).d.size ≤ 1048576) (hd : d.size ≤ 1048576) (hk2 : k ≠ 2) (hl : lg.length ≤ 60) (hg : CfgOK lg) (hst : mFault st = 0) (hsl : st.length ≤ 7) (hvl : vs.length ≤ 7) (hnx : nx.length = 7) (hmt : mt.length = 7) (hc : 0 ≤ cm) (hnn : ∀ i, i < 7 → 1 ≤ nx.getD i 0 ∧ nx.getD i 0 ≤ (lg.length : Int) + 1) :
    Calls Try.prog 37 #[.agg #[.int .i64 id, .int .i64 tm, .int .i64 vo, .slice la lg.length lc, .slice sa st.length sc, .int .i64 ro, .slice va vs.length vc, .slice na nx.length nc, .slice ma mt.length mc, .int .i64 cm, .int .i64 el, .int .i64 wt, .bool up], .agg #[.int .i64 t0, .int .i64 k, .string d]] w fun e w' => LAns w.heap.size (prOut ⟨id, tm, vo, ro, cm, el, wt, up, lg, st, vs, nx, mt⟩ k d).1 (prOut ⟨id, tm, vo, ro, cm, el, wt, up, lg, st, vs, nx, mt⟩ k d).2.1 (prOut ⟨id, tm, vo, ro, cm, el, wt, up, lg, st, vs, nx, mt⟩ k d).2.2 w e w' := by
  obtain ⟨i0, hi, hz0, hz1, hz2⟩ := info_parts infoEn
  have B0 := hide ((((Below.refl w.heap.size w).alloc (Nat.le_refl _) (.cells #[.int .i64 id, .int .i64 tm, .int .i64 vo, .slice la lg.length lc, .slice sa st.length sc, .int .i64 ro, .slice va vs.length vc, .slice na nx.length nc, .slice ma mt.length mc, .int .i64 cm, .int .i64 el, .int .i64 wt, .bool up] 29)).alloc (by simp) (.cells #[.int .i64 t0, .int .i64 k, .string d] 63)).alloc (by simp; omega) (.cells #[.int .i64 0, .int .i64 0, .int .i64 0, .slice none 0 0, .slice none 0 0, .int .i64 0, .slice none 0 0, .slice none 0 0, .slice none 0 0, .int .i64 0, .int .i64 0, .int .i64 0, .bool false] 29))
  have X0 := hide (((Blk.new w #[.int .i64 id, .int .i64 tm, .int .i64 vo, .slice la lg.length lc, .slice sa st.length sc, .int .i64 ro, .slice va vs.length vc, .slice na nx.length nc, .slice ma mt.length mc, .int .i64 cm, .int .i64 el, .int .i64 wt, .bool up] 29 w.heap.size rfl).alloc (.cells #[.int .i64 t0, .int .i64 k, .string d] 63)).alloc (.cells #[.int .i64 0, .int .i64 0, .int .i64 0, .slice none 0 0, .slice none 0 0, .int .i64 0, .slice none 0 0, .slice none 0 0, .slice none 0 0, .int .i64 0, .int .i64 0, .int .i64 0, .bool false] 29))
  have E0 := hide ((Blk.new (w.alloc (.cells #[.int .i64 id, .int .i64 tm, .int .i64 vo, .slice la lg.length lc, .slice sa st.length sc, .int .i64 ro, .slice va vs.length vc, .slice na nx.length nc, .slice ma mt.length mc, .int .i64 cm, .int .i64 el, .int .i64 wt, .bool up] 29)) #[.int .i64 t0, .int .i64 k, .string d] 63 (w.heap.size + 1) (by simp)).alloc (.cells #[.int .i64 0, .int .i64 0, .int .i64 0, .slice none 0 0, .slice none 0 0, .int .i64 0, .slice none 0 0, .slice none 0 0, .slice none 0 0, .int .i64 0, .int .i64 0, .int .i64 0, .bool false] 29))
  have R0 := hide (Blk.new ((w.alloc (.cells #[.int .i64 id, .int .i64 tm, .int .i64 vo, .slice la lg.length lc, .slice sa st.length sc, .int .i64 ro, .slice va vs.length vc, .slice na nx.length nc, .slice ma mt.length mc, .int .i64 cm, .int .i64 el, .int .i64 wt, .bool up] 29)).alloc (.cells #[.int .i64 t0, .int .i64 k, .string d] 63)) #[.int .i64 0, .int .i64 0, .int .i64 0, .slice none 0 0, .slice none 0 0, .int .i64 0, .slice none 0 0, .slice none 0 0, .slice none 0 0, .int .i64 0, .int .i64 0, .int .i64 0, .bool false] 29 (w.heap.size + 1 + 1) (by simp))
  have HOw := hide (fun wx (hx : Below w.heap.size w wx) => l10Own_any id tm vo ro cm el wt up lg st vs nx mt la lc sa sc va vc na nc ma mc wx (h.below hx) (by omega) (by omega) (by omega) (by omega) (by omega))
  have HF := hide h
  have HU : Hid (prOut ⟨id, tm, vo, ro, cm, el, wt, up, lg, st, vs, nx, mt⟩ k d = if up then (if ro = 2 then (if lg.length < 60 then
        ((⟨id, tm, vo, ro, advTo id tm cm (lg ++ [(⟨tm, k, d⟩ : En)]) mt (mbAt (lg ++ [(⟨tm, k, d⟩ : En)]) st (lg ++ [(⟨tm, k, d⟩ : En)]).length) (lg ++ [(⟨tm, k, d⟩ : En)]).length, el, wt, up, lg ++ [(⟨tm, k, d⟩ : En)], st, vs, nx, mt⟩ : NoD),
          tellL id tm (advTo id tm cm (lg ++ [(⟨tm, k, d⟩ : En)]) mt (mbAt (lg ++ [(⟨tm, k, d⟩ : En)]) st (lg ++ [(⟨tm, k, d⟩ : En)]).length) (lg ++ [(⟨tm, k, d⟩ : En)]).length) (lg ++ [(⟨tm, k, d⟩ : En)]) nx (mbAt (lg ++ [(⟨tm, k, d⟩ : En)]) st (lg ++ [(⟨tm, k, d⟩ : En)]).length), 0) else (⟨id, tm, vo, ro, cm, el, wt, up, lg, st, vs, nx, mt⟩, [], 7)) else (⟨id, tm, vo, ro, cm, el, wt, up, lg, st, vs, nx, mt⟩, [], 14)) else (⟨id, tm, vo, ro, cm, el, wt, up, lg, st, vs, nx, mt⟩, [], 5)) := hide rfl
  have HS := hide (And.intro hz (And.intro hd (And.intro hk2 (And.intro hg (And.intro hst (And.intro hnx (And.intro hmt (And.intro hc hnn))))))))
  clear h hz hd hk2 hg hst hsl hvl hnx hmt hc hnn
  have x0 := (unhide X0).cell 0 rfl
  have x1 := (unhide X0).cell 1 rfl
  have x2 := (unhide X0).cell 2 rfl
  have x3 := (unhide X0).cell 3 rfl
  have x4 := (unhide X0).cell 4 rfl
  have x5 := (unhide X0).cell 5 rfl
  have x6 := (unhide X0).cell 6 rfl
  have x7 := (unhide X0).cell 7 rfl
  have x8 := (unhide X0).cell 8 rfl
  have x9 := (unhide X0).cell 9 rfl
  have x10 := (unhide X0).cell 10 rfl
  have x11 := (unhide X0).cell 11 rfl
  have x12 := (unhide X0).cell 12 rfl
  go_enter Try.func37, Try.ntmps37
  go_upto_region 1 with fail
  clear x0 x1 x2 x3 x4 x5 x6 x7 x8 x9 x10 x11 x12
  generalize ((w.alloc (.cells #[.int .i64 id, .int .i64 tm, .int .i64 vo, .slice la lg.length lc, .slice sa st.length sc, .int .i64 ro, .slice va vs.length vc, .slice na nx.length nc, .slice ma mt.length mc, .int .i64 cm, .int .i64 el, .int .i64 wt, .bool up] 29)).alloc (.cells #[.int .i64 t0, .int .i64 k, .string d] 63)).alloc (.cells #[.int .i64 0, .int .i64 0, .int .i64 0, .slice none 0 0, .slice none 0 0, .int .i64 0, .slice none 0 0, .slice none 0 0, .slice none 0 0, .int .i64 0, .int .i64 0, .int .i64 0, .bool false] 29) = w0 at *
  have hw0 : w.heap.size + 1 + 1 < w0.heap.size := (unhide R0).1
  have x0 := (unhide X0).cell 0 rfl
  have x1 := (unhide X0).cell 1 rfl
  have x2 := (unhide X0).cell 2 rfl
  have x3 := (unhide X0).cell 3 rfl
  have x4 := (unhide X0).cell 4 rfl
  have x5 := (unhide X0).cell 5 rfl
  have x6 := (unhide X0).cell 6 rfl
  have x7 := (unhide X0).cell 7 rfl
  have x8 := (unhide X0).cell 8 rfl
  have x9 := (unhide X0).cell 9 rfl
  have x10 := (unhide X0).cell 10 rfl
  have x11 := (unhide X0).cell 11 rfl
  have x12 := (unhide X0).cell 12 rfl
  cases up
  · have HU2 := hide (show prOut ⟨id, tm, vo, ro, cm, el, wt, false, lg, st, vs, nx, mt⟩ k d = (⟨id, tm, vo, ro, cm, el, wt, false, lg, st, vs, nx, mt⟩, [], 5) by rw [unhide HU]; rfl)
    have RX := unhide R0
    have r0 := RX.cell 0 rfl
    have r1 := RX.cell 1 rfl
    have r2 := RX.cell 2 rfl
    have r3 := RX.cell 3 rfl
    have r4 := RX.cell 4 rfl
    have r5 := RX.cell 5 rfl
    have r6 := RX.cell 6 rfl
    have r7 := RX.cell 7 rfl
    have r8 := RX.cell 8 rfl
    have r9 := RX.cell 9 rfl
    have r10 := RX.cell 10 rfl
    have r11 := RX.cell 11 rfl
    have r12 := RX.cell 12 rfl
    have f0 := RX.fro 0
    have f1 := RX.fro 1
    have f2 := RX.fro 2
    have f3 := RX.fro 3
    have f4 := RX.fro 4
    have f5 := RX.fro 5
    have f6 := RX.fro 6
    have f7 := RX.fro 7
    have f8 := RX.fro 8
    have f9 := RX.fro 9
    have f10 := RX.fro 10
    have f11 := RX.fro 11
    have f12 := RX.fro 12
    have HR9 := hide ((((((((((((((RX.set 0 (.int .i64 id) (by simp)).set 1 (.int .i64 tm) (by simp)).set 2 (.int .i64 vo) (by simp)).set 3 (.slice la lg.length lc) (by simp)).set 4 (.slice sa st.length sc) (by simp)).set 5 (.int .i64 ro) (by simp)).set 6 (.slice va vs.length vc) (by simp)).set 7 (.slice na nx.length nc) (by simp)).set 8 (.slice ma mt.length mc) (by simp)).set 9 (.int .i64 cm) (by simp)).set 10 (.int .i64 el) (by simp)).set 11 (.int .i64 wt) (by simp)).set 12 (.bool false) (by simp)))
    have T9 := ((((((((((((((Touch.refl (fun q => q = w.heap.size + 1 + 1) w0).setCell ⟨w.heap.size + 1 + 1, 0, none⟩ (.int .i64 id) (fun _ => rfl)).setCell ⟨w.heap.size + 1 + 1, 1, none⟩ (.int .i64 tm) (fun _ => rfl)).setCell ⟨w.heap.size + 1 + 1, 2, none⟩ (.int .i64 vo) (fun _ => rfl)).setCell ⟨w.heap.size + 1 + 1, 3, none⟩ (.slice la lg.length lc) (fun _ => rfl)).setCell ⟨w.heap.size + 1 + 1, 4, none⟩ (.slice sa st.length sc) (fun _ => rfl)).setCell ⟨w.heap.size + 1 + 1, 5, none⟩ (.int .i64 ro) (fun _ => rfl)).setCell ⟨w.heap.size + 1 + 1, 6, none⟩ (.slice va vs.length vc) (fun _ => rfl)).setCell ⟨w.heap.size + 1 + 1, 7, none⟩ (.slice na nx.length nc) (fun _ => rfl)).setCell ⟨w.heap.size + 1 + 1, 8, none⟩ (.slice ma mt.length mc) (fun _ => rfl)).setCell ⟨w.heap.size + 1 + 1, 9, none⟩ (.int .i64 cm) (fun _ => rfl)).setCell ⟨w.heap.size + 1 + 1, 10, none⟩ (.int .i64 el) (fun _ => rfl)).setCell ⟨w.heap.size + 1 + 1, 11, none⟩ (.int .i64 wt) (fun _ => rfl)).setCell ⟨w.heap.size + 1 + 1, 12, none⟩ (.bool false) (fun _ => rfl))
    have KW := unhide B0
    have K9 := hide (KW.trans (T9.below KW.size (fun k hk e => by omega)))
    have HT9 := hide T9
    clear RX T9 KW
    have RA := hide ((unhide HR9).alloc (.cells #[] 59))
    have KA := hide ((unhide K9).alloc (unhide K9).size (.cells #[] 59))
    go_wp2_with fail
    have R9 := unhide RA
    have z0 := R9.cell 0 rfl
    have z1 := R9.cell 1 rfl
    have z2 := R9.cell 2 rfl
    have z3 := R9.cell 3 rfl
    have z4 := R9.cell 4 rfl
    have z5 := R9.cell 5 rfl
    have z6 := R9.cell 6 rfl
    have z7 := R9.cell 7 rfl
    have z8 := R9.cell 8 rfl
    have z9 := R9.cell 9 rfl
    have z10 := R9.cell 10 rfl
    have z11 := R9.cell 11 rfl
    have z12 := R9.cell 12 rfl
    refine bodyPost_ret (v := .tuple #[.agg #[.int .i64 id, .int .i64 tm, .int .i64 vo, .slice la lg.length lc, .slice sa st.length sc, .int .i64 ro, .slice va vs.length vc, .slice na nx.length nc, .slice ma mt.length mc, .int .i64 cm, .int .i64 el, .int .i64 wt, .bool false], .slice (some ⟨w0.heap.size, 0, none⟩) 0 0, .int .i64 5]) (by simp [results, Try.results37, go_sem, z0, z1, z2, z3, z4, z5, z6, z7, z8, z9, z10, z11, z12]) rfl ?_
    rw [unhide HU2]
    refine ⟨la, lc, sa, sc, va, vc, na, nc, ma, mc, .slice (some ⟨w0.heap.size, 0, none⟩) 0 0, [], rfl, (unhide HF).below (unhide KA), ?_, rfl, unhide KA⟩
    have hn := ns_made mgS _ w.heap.size (unhide K9).size
    simp only [World.size_setCell] at hn
    exact hn
  by_cases hro : ro = 2
  case neg =>
    have b1 : (ro == 2) = false := by rw [beq_eq_false_iff_ne]; exact hro
    have b2 : (ro != 2) = true := by simp [bne, b1]
    have HRO := hide hro
    have HU2 := hide (show prOut ⟨id, tm, vo, ro, cm, el, wt, true, lg, st, vs, nx, mt⟩ k d = (⟨id, tm, vo, ro, cm, el, wt, true, lg, st, vs, nx, mt⟩, [], 14) by rw [unhide HU]; rw [if_pos rfl, if_neg (unhide HRO)])
    have RX := unhide R0
    have r0 := RX.cell 0 rfl
    have r1 := RX.cell 1 rfl
    have r2 := RX.cell 2 rfl
    have r3 := RX.cell 3 rfl
    have r4 := RX.cell 4 rfl
    have r5 := RX.cell 5 rfl
    have r6 := RX.cell 6 rfl
    have r7 := RX.cell 7 rfl
    have r8 := RX.cell 8 rfl
    have r9 := RX.cell 9 rfl
    have r10 := RX.cell 10 rfl
    have r11 := RX.cell 11 rfl
    have r12 := RX.cell 12 rfl
    have f0 := RX.fro 0
    have f1 := RX.fro 1
    have f2 := RX.fro 2
    have f3 := RX.fro 3
    have f4 := RX.fro 4
    have f5 := RX.fro 5
    have f6 := RX.fro 6
    have f7 := RX.fro 7
    have f8 := RX.fro 8
    have f9 := RX.fro 9
    have f10 := RX.fro 10
    have f11 := RX.fro 11
    have f12 := RX.fro 12
    have HR9 := hide ((((((((((((((RX.set 0 (.int .i64 id) (by simp)).set 1 (.int .i64 tm) (by simp)).set 2 (.int .i64 vo) (by simp)).set 3 (.slice la lg.length lc) (by simp)).set 4 (.slice sa st.length sc) (by simp)).set 5 (.int .i64 ro) (by simp)).set 6 (.slice va vs.length vc) (by simp)).set 7 (.slice na nx.length nc) (by simp)).set 8 (.slice ma mt.length mc) (by simp)).set 9 (.int .i64 cm) (by simp)).set 10 (.int .i64 el) (by simp)).set 11 (.int .i64 wt) (by simp)).set 12 (.bool true) (by simp)))
    have T9 := ((((((((((((((Touch.refl (fun q => q = w.heap.size + 1 + 1) w0).setCell ⟨w.heap.size + 1 + 1, 0, none⟩ (.int .i64 id) (fun _ => rfl)).setCell ⟨w.heap.size + 1 + 1, 1, none⟩ (.int .i64 tm) (fun _ => rfl)).setCell ⟨w.heap.size + 1 + 1, 2, none⟩ (.int .i64 vo) (fun _ => rfl)).setCell ⟨w.heap.size + 1 + 1, 3, none⟩ (.slice la lg.length lc) (fun _ => rfl)).setCell ⟨w.heap.size + 1 + 1, 4, none⟩ (.slice sa st.length sc) (fun _ => rfl)).setCell ⟨w.heap.size + 1 + 1, 5, none⟩ (.int .i64 ro) (fun _ => rfl)).setCell ⟨w.heap.size + 1 + 1, 6, none⟩ (.slice va vs.length vc) (fun _ => rfl)).setCell ⟨w.heap.size + 1 + 1, 7, none⟩ (.slice na nx.length nc) (fun _ => rfl)).setCell ⟨w.heap.size + 1 + 1, 8, none⟩ (.slice ma mt.length mc) (fun _ => rfl)).setCell ⟨w.heap.size + 1 + 1, 9, none⟩ (.int .i64 cm) (fun _ => rfl)).setCell ⟨w.heap.size + 1 + 1, 10, none⟩ (.int .i64 el) (fun _ => rfl)).setCell ⟨w.heap.size + 1 + 1, 11, none⟩ (.int .i64 wt) (fun _ => rfl)).setCell ⟨w.heap.size + 1 + 1, 12, none⟩ (.bool true) (fun _ => rfl))
    have KW := unhide B0
    have K9 := hide (KW.trans (T9.below KW.size (fun k hk e => by omega)))
    have HT9 := hide T9
    clear RX T9 KW
    have RA := hide ((unhide HR9).alloc (.cells #[] 59))
    have KA := hide ((unhide K9).alloc (unhide K9).size (.cells #[] 59))
    go_wp2_with fail
    have R9 := unhide RA
    have z0 := R9.cell 0 rfl
    have z1 := R9.cell 1 rfl
    have z2 := R9.cell 2 rfl
    have z3 := R9.cell 3 rfl
    have z4 := R9.cell 4 rfl
    have z5 := R9.cell 5 rfl
    have z6 := R9.cell 6 rfl
    have z7 := R9.cell 7 rfl
    have z8 := R9.cell 8 rfl
    have z9 := R9.cell 9 rfl
    have z10 := R9.cell 10 rfl
    have z11 := R9.cell 11 rfl
    have z12 := R9.cell 12 rfl
    refine bodyPost_ret (v := .tuple #[.agg #[.int .i64 id, .int .i64 tm, .int .i64 vo, .slice la lg.length lc, .slice sa st.length sc, .int .i64 ro, .slice va vs.length vc, .slice na nx.length nc, .slice ma mt.length mc, .int .i64 cm, .int .i64 el, .int .i64 wt, .bool true], .slice (some ⟨w0.heap.size, 0, none⟩) 0 0, .int .i64 14]) (by simp [results, Try.results37, go_sem, z0, z1, z2, z3, z4, z5, z6, z7, z8, z9, z10, z11, z12]) rfl ?_
    rw [unhide HU2]
    refine ⟨la, lc, sa, sc, va, vc, na, nc, ma, mc, .slice (some ⟨w0.heap.size, 0, none⟩) 0 0, [], rfl, (unhide HF).below (unhide KA), ?_, rfl, unhide KA⟩
    have hn := ns_made mgS _ w.heap.size (unhide K9).size
    simp only [World.size_setCell] at hn
    exact hn
  have hro' : 2 = ro := hro.symm
  subst hro'
  by_cases h60 : lg.length = 60
  case pos =>
    have b1 : ((lg.length : Int) == 60) = true := by rw [h60]; rfl
    have b2 : (lg.length == 60) = true := by rw [h60]; rfl
    have H60 := hide h60
    clear h60
    have HU2 := hide (show prOut ⟨id, tm, vo, 2, cm, el, wt, true, lg, st, vs, nx, mt⟩ k d = (⟨id, tm, vo, 2, cm, el, wt, true, lg, st, vs, nx, mt⟩, [], 7) by rw [unhide HU]; rw [if_pos rfl, if_pos rfl, if_neg (by have := unhide H60; omega)])
    have RX := unhide R0
    have r0 := RX.cell 0 rfl
    have r1 := RX.cell 1 rfl
    have r2 := RX.cell 2 rfl
    have r3 := RX.cell 3 rfl
    have r4 := RX.cell 4 rfl
    have r5 := RX.cell 5 rfl
    have r6 := RX.cell 6 rfl
    have r7 := RX.cell 7 rfl
    have r8 := RX.cell 8 rfl
    have r9 := RX.cell 9 rfl
    have r10 := RX.cell 10 rfl
    have r11 := RX.cell 11 rfl
    have r12 := RX.cell 12 rfl
    have f0 := RX.fro 0
    have f1 := RX.fro 1
    have f2 := RX.fro 2
    have f3 := RX.fro 3
    have f4 := RX.fro 4
    have f5 := RX.fro 5
    have f6 := RX.fro 6
    have f7 := RX.fro 7
    have f8 := RX.fro 8
    have f9 := RX.fro 9
    have f10 := RX.fro 10
    have f11 := RX.fro 11
    have f12 := RX.fro 12
    have HR9 := hide ((((((((((((((RX.set 0 (.int .i64 id) (by simp)).set 1 (.int .i64 tm) (by simp)).set 2 (.int .i64 vo) (by simp)).set 3 (.slice la lg.length lc) (by simp)).set 4 (.slice sa st.length sc) (by simp)).set 5 (.int .i64 2) (by simp)).set 6 (.slice va vs.length vc) (by simp)).set 7 (.slice na nx.length nc) (by simp)).set 8 (.slice ma mt.length mc) (by simp)).set 9 (.int .i64 cm) (by simp)).set 10 (.int .i64 el) (by simp)).set 11 (.int .i64 wt) (by simp)).set 12 (.bool true) (by simp)))
    have T9 := ((((((((((((((Touch.refl (fun q => q = w.heap.size + 1 + 1) w0).setCell ⟨w.heap.size + 1 + 1, 0, none⟩ (.int .i64 id) (fun _ => rfl)).setCell ⟨w.heap.size + 1 + 1, 1, none⟩ (.int .i64 tm) (fun _ => rfl)).setCell ⟨w.heap.size + 1 + 1, 2, none⟩ (.int .i64 vo) (fun _ => rfl)).setCell ⟨w.heap.size + 1 + 1, 3, none⟩ (.slice la lg.length lc) (fun _ => rfl)).setCell ⟨w.heap.size + 1 + 1, 4, none⟩ (.slice sa st.length sc) (fun _ => rfl)).setCell ⟨w.heap.size + 1 + 1, 5, none⟩ (.int .i64 2) (fun _ => rfl)).setCell ⟨w.heap.size + 1 + 1, 6, none⟩ (.slice va vs.length vc) (fun _ => rfl)).setCell ⟨w.heap.size + 1 + 1, 7, none⟩ (.slice na nx.length nc) (fun _ => rfl)).setCell ⟨w.heap.size + 1 + 1, 8, none⟩ (.slice ma mt.length mc) (fun _ => rfl)).setCell ⟨w.heap.size + 1 + 1, 9, none⟩ (.int .i64 cm) (fun _ => rfl)).setCell ⟨w.heap.size + 1 + 1, 10, none⟩ (.int .i64 el) (fun _ => rfl)).setCell ⟨w.heap.size + 1 + 1, 11, none⟩ (.int .i64 wt) (fun _ => rfl)).setCell ⟨w.heap.size + 1 + 1, 12, none⟩ (.bool true) (fun _ => rfl))
    have KW := unhide B0
    have K9 := hide (KW.trans (T9.below KW.size (fun k hk e => by omega)))
    have HT9 := hide T9
    clear RX T9 KW
    have RA := hide ((unhide HR9).alloc (.cells #[] 59))
    have KA := hide ((unhide K9).alloc (unhide K9).size (.cells #[] 59))
    go_wp2_with fail
    have R9 := unhide RA
    have z0 := R9.cell 0 rfl
    have z1 := R9.cell 1 rfl
    have z2 := R9.cell 2 rfl
    have z3 := R9.cell 3 rfl
    have z4 := R9.cell 4 rfl
    have z5 := R9.cell 5 rfl
    have z6 := R9.cell 6 rfl
    have z7 := R9.cell 7 rfl
    have z8 := R9.cell 8 rfl
    have z9 := R9.cell 9 rfl
    have z10 := R9.cell 10 rfl
    have z11 := R9.cell 11 rfl
    have z12 := R9.cell 12 rfl
    refine bodyPost_ret (v := .tuple #[.agg #[.int .i64 id, .int .i64 tm, .int .i64 vo, .slice la lg.length lc, .slice sa st.length sc, .int .i64 2, .slice va vs.length vc, .slice na nx.length nc, .slice ma mt.length mc, .int .i64 cm, .int .i64 el, .int .i64 wt, .bool true], .slice (some ⟨w0.heap.size, 0, none⟩) 0 0, .int .i64 7]) (by simp [results, Try.results37, go_sem, z0, z1, z2, z3, z4, z5, z6, z7, z8, z9, z10, z11, z12]) rfl ?_
    rw [unhide HU2]
    refine ⟨la, lc, sa, sc, va, vc, na, nc, ma, mc, .slice (some ⟨w0.heap.size, 0, none⟩) 0 0, [], rfl, (unhide HF).below (unhide KA), ?_, rfl, unhide KA⟩
    have hn := ns_made mgS _ w.heap.size (unhide K9).size
    simp only [World.size_setCell] at hn
    exact hn
  have h60' : lg.length < 60 := by omega
  have b1 : ((lg.length : Int) == 60) = false := by rw [beq_eq_false_iff_ne]; omega
  have b2 : (lg.length == 60) = false := by rw [beq_eq_false_iff_ne]; exact h60
  have HC := hide (unhide HOw w0 (unhide B0))
  clear h60
  go_wp2_with fail
  refine (unhide HC).mono ?_
  rintro e w2 ⟨la2, lc2, sa2, sc2, va2, vc2, na2, nc2, ma2, mc2, rfl, hO, hb⟩
  have O2 := hide hO
  have E2 := hide ((unhide E0).below hb)
  have R2 := hide ((unhide R0).below hb)
  have K2 := hide ((unhide B0).trans (hb.mono (unhide B0).size))
  have hs2 := hb.size
  have NZ := Blk.new w2 #[.int .i64 0, .int .i64 0, .int .i64 0, .slice none 0 0, .slice none 0 0, .int .i64 0, .slice none 0 0, .slice none 0 0, .slice none 0 0, .int .i64 0, .int .i64 0, .int .i64 0, .bool false] 29 w2.heap.size rfl
  have zc0 := NZ.cell 0 rfl
  have zc1 := NZ.cell 1 rfl
  have zc2 := NZ.cell 2 rfl
  have zc3 := NZ.cell 3 rfl
  have zc4 := NZ.cell 4 rfl
  have zc5 := NZ.cell 5 rfl
  have zc6 := NZ.cell 6 rfl
  have zc7 := NZ.cell 7 rfl
  have zc8 := NZ.cell 8 rfl
  have zc9 := NZ.cell 9 rfl
  have zc10 := NZ.cell 10 rfl
  have zc11 := NZ.cell 11 rfl
  have zc12 := NZ.cell 12 rfl
  have zf0 := NZ.fro 0
  have zf1 := NZ.fro 1
  have zf2 := NZ.fro 2
  have zf3 := NZ.fro 3
  have zf4 := NZ.fro 4
  have zf5 := NZ.fro 5
  have zf6 := NZ.fro 6
  have zf7 := NZ.fro 7
  have zf8 := NZ.fro 8
  have zf9 := NZ.fro 9
  have zf10 := NZ.fro 10
  have zf11 := NZ.fro 11
  have zf12 := NZ.fro 12
  have N3 := hide (Blk.new w2 #[.int .i64 id, .int .i64 tm, .int .i64 vo, .slice la2 lg.length lc2, .slice sa2 st.length sc2, .int .i64 2, .slice va2 vs.length vc2, .slice na2 nx.length nc2, .slice ma2 mt.length mc2, .int .i64 cm, .int .i64 el, .int .i64 wt, .bool true] 29 w2.heap.size rfl)
  have n1 := (unhide N3).cell 1 rfl
  have E3 := (unhide E2).alloc (.cells #[.int .i64 id, .int .i64 tm, .int .i64 vo, .slice la2 lg.length lc2, .slice sa2 st.length sc2, .int .i64 2, .slice va2 vs.length vc2, .slice na2 nx.length nc2, .slice ma2 mt.length mc2, .int .i64 cm, .int .i64 el, .int .i64 wt, .bool true] 29)
  have e0 := E3.cell 0 rfl
  have g0 := E3.fro 0
  clear x0 x1 x2 x3 x4 x5 x6 x7 x8 x9 x10 x11 x12 HC hO hb E3 NZ X0 HOw
  go_upto_region 9 with fail
  have T4 := ((Touch.refl (fun q => q = w.heap.size + 1) w2).alloc (.cells #[.int .i64 id, .int .i64 tm, .int .i64 vo, .slice la2 lg.length lc2, .slice sa2 st.length sc2, .int .i64 2, .slice va2 vs.length vc2, .slice na2 nx.length nc2, .slice ma2 mt.length mc2, .int .i64 cm, .int .i64 el, .int .i64 wt, .bool true] 29)).setCell ⟨w.heap.size + 1, 0, none⟩ (.int .i64 tm) (fun _ => rfl)
  have N4 := hide ((unhide N3).other (C := w.heap.size + 1) 0 (.int .i64 tm) (by omega))
  have E4 := hide (((unhide E2).alloc (.cells #[.int .i64 id, .int .i64 tm, .int .i64 vo, .slice la2 lg.length lc2, .slice sa2 st.length sc2, .int .i64 2, .slice va2 vs.length vc2, .slice na2 nx.length nc2, .slice ma2 mt.length mc2, .int .i64 cm, .int .i64 el, .int .i64 wt, .bool true] 29)).set 0 (.int .i64 tm) (by simp))
  have R4 := hide (((unhide R2).alloc (.cells #[.int .i64 id, .int .i64 tm, .int .i64 vo, .slice la2 lg.length lc2, .slice sa2 st.length sc2, .int .i64 2, .slice va2 vs.length vc2, .slice na2 nx.length nc2, .slice ma2 mt.length mc2, .int .i64 cm, .int .i64 el, .int .i64 wt, .bool true] 29)).other (C := w.heap.size + 1) 0 (.int .i64 tm) (by omega))
  have O4 := hide ((unhide O2).kept T4 (fun k e _ => by omega))
  have K4 := hide ((unhide K2).trans (T4.below (unhide K2).size (fun k hk e => by omega)))
  have hlv := hide (fun q (e : NoT [.slice la2 lg.length lc2, .slice sa2 st.length sc2, .slice va2 vs.length vc2, .slice na2 nx.length nc2, .slice ma2 mt.length mc2] q) => (NoO.blk (unhide O2) q e).2)
  clear T4 zc0 zf0 zc1 zf1 zc2 zf2 zc3 zf3 zc4 zf4 zc5 zf5 zc6 zf6 zc7 zf7 zc8 zf8 zc9 zf9 zc10 zf10 zc11 zf11 zc12 zf12 n1 e0 g0 N3 E2 R2 O2 K2
  generalize (w2.alloc (.cells #[.int .i64 id, .int .i64 tm, .int .i64 vo, .slice la2 lg.length lc2, .slice sa2 st.length sc2, .int .i64 2, .slice va2 vs.length vc2, .slice na2 nx.length nc2, .slice ma2 mt.length mc2, .int .i64 cm, .int .i64 el, .int .i64 wt, .bool true] 29)).setCell ⟨w.heap.size + 1, 0, none⟩ (.int .i64 tm) = w4 at *
  generalize w2.heap.size = nb at *
  have hn4 : nb < w4.heap.size := (unhide N4).1
  have n3 := (unhide N4).cell 3 rfl
  simp only [List.set_cons_succ, List.set_cons_zero] at E4
  have e0 := (unhide E4).cell 0 rfl
  have e1 := (unhide E4).cell 1 rfl
  have e2 := (unhide E4).cell 2 rfl
  go_upto_region 10 with (at_builtin; refine wpList_append_lies _ rfl _ _ _ rfl w0.heap.size 63 i0 _ 3 32 Try.underlying27 hi hz0 hz1 hz2 rfl (by omega) (.slice la2 lg.length lc2) lg.length _ rfl (World.ownsRow.alloc (unhide O4).lg _) ⟨w4.heap.size, 0, none⟩ 1 1 [_, _, _] rfl rfl (World.news_of_block (cs := #[_, _, _]) (t := 63) (fr := (0, 0)) (heap_alloc_new w4 _)) (by simp [Value.oneCell']) (by omega) (by unfold maxLen; omega) (by omega) (by simp; omega) _ rfl ?_; intro g5 cap5 w5 hown5 hgrow5 hat5 hlt5; have R5 := hide (And.intro hown5 (And.intro hgrow5 hat5)); have N5 := hide ((Blk.alloc (unhide N4) (.cells #[.int .i64 tm, .int .i64 k, .string d] 63)).kept ((Touch.refl (fun q => (Value.slice la2 lg.length lc2).ownBlock = some q) _).grown hgrow5 (fun q e _ => e)) (fun e => by have := unhide hlv nb ⟨_, by simp, e⟩; omega)); have C5 := (unhide N5).cell 3 rfl; have F5 := (unhide N5).fro 3; clear hown5 hgrow5 hat5 hlt5)
  obtain ⟨hown5, hgrow5, hat5⟩ := unhide R5
  have hsw : (w4.alloc (.cells #[.int .i64 tm, .int .i64 k, .string d] 63)).heap.size = w4.heap.size + 1 := by simp
  have hO5 : NoO w0.heap.size w5 (.slice (some ⟨g5, 0, none⟩) (lg.length + 1) cap5) (.slice sa2 st.length sc2) (.slice va2 vs.length vc2) (.slice na2 nx.length nc2) (.slice ma2 mt.length mc2) (lg ++ [(⟨tm, k, d⟩ : En)]) st vs nx mt := NoO.log ((unhide O4).below ((Below.refl w4.heap.size w4).alloc (Nat.le_refl _) (.cells #[.int .i64 tm, .int .i64 k, .string d] 63))) hgrow5 (by unfold OwnE; rw [List.length_append, ensC_push]; exact hown5) (hat5.elim (fun h => .inl (by rw [h]; rfl)) (fun h => .inr (by rw [← h]; rfl)))
  have hap6 : ∀ q, NoT [.slice (some ⟨g5, 0, none⟩) (lg.length + 1) cap5, .slice sa2 st.length sc2, .slice va2 vs.length vc2, .slice na2 nx.length nc2, .slice ma2 mt.length mc2] q → q ≠ nb ∧ q ≠ w.heap.size + 1 + 1 := fun q hq => by
    have h1 := (NoO.blk hO5 q hq).1
    refine ⟨fun e => ?_, by omega⟩
    obtain ⟨v, hv, hvq⟩ := hq
    rcases List.mem_cons.1 hv with rfl | hv
    · have hqg : q = g5 := by simp [Value.ownBlock] at hvq; omega
      rcases hat5 with h | h
      · have := unhide hlv g5 ⟨_, by simp, h⟩; omega
      · omega
    · have := unhide hlv q ⟨v, List.mem_cons_of_mem _ hv, hvq⟩; omega
  have TT := (Touch.refl (fun q => (Value.slice la2 lg.length lc2).ownBlock = some q) (w4.alloc (.cells #[.int .i64 tm, .int .i64 k, .string d] 63))).grown hgrow5 (fun q e _ => e)
  have hlo : ∀ q, (Value.slice la2 lg.length lc2).ownBlock = some q → w0.heap.size ≤ q := fun q e => (NoO.blk (unhide O4) q ⟨_, by simp, e⟩).1
  have R6 := hide ((((unhide R4).alloc (.cells #[.int .i64 tm, .int .i64 k, .string d] 63)).kept TT (fun e => by have := hlo _ e; omega)).other (C := nb) 3 (.slice (some ⟨g5, 0, none⟩) (lg.length + 1) cap5) (by omega))
  have T6 := ((Touch.refl (fun q => w0.heap.size ≤ q) w4).alloc (.cells #[.int .i64 tm, .int .i64 k, .string d] 63)).grown hgrow5 (fun q e _ => hlo q e)
  have T6b := T6.setCell ⟨nb, 3, none⟩ (.slice (some ⟨g5, 0, none⟩) (lg.length + 1) cap5) (fun _ => hs2)
  have K6 := hide ((unhide K4).trans (T6b.below (unhide K4).size (fun q hq e => by have := (unhide B0).size; omega)))
  have O6 := hide (NoO.keep hO5 ((Touch.refl (fun q => q = nb) w5).setCell ⟨nb, 3, none⟩ (.slice (some ⟨g5, 0, none⟩) (lg.length + 1) cap5) (fun _ => rfl)) (fun q hq => (hap6 q hq).1))
  have N6 := hide ((unhide N5).set 3 (.slice (some ⟨g5, 0, none⟩) (lg.length + 1) cap5) (by simp))
  have HA6 := hide hap6
  simp only [List.set_cons_succ, List.set_cons_zero] at N6
  have hs6 := T6b.size
  clear hown5 hgrow5 hat5 R5 N5 C5 F5 hO5 hap6 TT hlo T6 T6b R4 K4 O4 N4 E4 n3 e0 e1 e2 hsw hlv
  generalize w5.setCell ⟨nb, 3, none⟩ (.slice (some ⟨g5, 0, none⟩) (lg.length + 1) cap5) = w6 at *
  obtain ⟨hz, hd, hk2, hg, hst, hnx, hmt, hc, hnn⟩ := unhide HS
  have hlen : (lg ++ [(⟨tm, k, d⟩ : En)]).length = lg.length + 1 := by simp
  have hg' := cfg_push hg (⟨tm, k, d⟩ : En) hk2
  have hz' := size_push hz (⟨tm, k, d⟩ : En) hd
  have hmb := mb_seven (lg ++ [(⟨tm, k, d⟩ : En)]) st hg' hst
  have hnn' : ∀ x ∈ mbAt (lg ++ [(⟨tm, k, d⟩ : En)]) st (lg ++ [(⟨tm, k, d⟩ : En)]).length, 0 ≤ x ∧ x < 7 ∧ (x ≠ id → 1 ≤ nx.getD x.toNat 0 ∧ nx.getD x.toNat 0 ≤ ((lg ++ [(⟨tm, k, d⟩ : En)]).length : Int) + 1) := fun x hx => ⟨(hmb.2 x hx).1, (hmb.2 x hx).2, fun _ => by have := hmb.2 x hx; have := hnn x.toNat (by omega); rw [hlen]; push_cast; omega⟩
  have hl60 : (lg ++ [(⟨tm, k, d⟩ : En)]).length ≤ 60 := by rw [hlen]; omega
  have hu := unhide HU
  simp only [if_true, eq_self, if_pos h60'] at hu
  have HU6 := hide hu
  clear hu
  rw [← hlen] at N6 O6 HA6
  have HV := hide (And.intro hg' (And.intro hz' (And.intro hmb (And.intro hl60 (And.intro hnx (And.intro hmt (And.intro hc (And.intro hlen hnn'))))))))
  clear hz hd hk2 hg hst hnx hmt hc hnn hg' hz' hmb hnn' hl60 HS HU hlen
  generalize lg ++ [(⟨tm, k, d⟩ : En)] = lgN at *
  obtain ⟨hg', hz', hmb, hl60, hnx, hmt, hc, hlen, hnn'⟩ := unhide HV
  have HLEN := hide hlen
  have HAd := hide (l10Advance_any id tm vo 2 cm el wt true lgN st vs nx mt (some ⟨g5, 0, none⟩) cap5 sa2 sc2 va2 vc2 na2 nc2 ma2 mc2 w6 (unhide O6).lg.ens (unhide O6).st.ints (unhide O6).mt.ints hz' hl60 hg' hmt hmb.1 hc)
  generalize advTo id tm cm lgN mt (mbAt lgN st lgN.length) lgN.length = cmN at *
  have HTl := hide (fun wx (h : NoO w0.heap.size wx (.slice (some ⟨g5, 0, none⟩) lgN.length cap5) (.slice sa2 st.length sc2) (.slice va2 vs.length vc2) (.slice na2 nx.length nc2) (.slice ma2 mt.length mc2) lgN st vs nx mt) => l10Tell_any id tm vo 2 cmN el wt true lgN st vs nx mt (some ⟨g5, 0, none⟩) cap5 sa2 sc2 va2 vc2 na2 nc2 ma2 mc2 wx h.lg.ens h.st.ints h.nx.ints hz' hl60 hg' hnx hmb.1 hnn')
  clear hg' hz' hmb hl60 hnx hmt hc hlen hnn' HV
  have x0 := (unhide N6).cell 0 rfl
  have x1 := (unhide N6).cell 1 rfl
  have x2 := (unhide N6).cell 2 rfl
  have x3 := (unhide N6).cell 3 rfl
  have x4 := (unhide N6).cell 4 rfl
  have x5 := (unhide N6).cell 5 rfl
  have x6 := (unhide N6).cell 6 rfl
  have x7 := (unhide N6).cell 7 rfl
  have x8 := (unhide N6).cell 8 rfl
  have x9 := (unhide N6).cell 9 rfl
  have x10 := (unhide N6).cell 10 rfl
  have x11 := (unhide N6).cell 11 rfl
  have x12 := (unhide N6).cell 12 rfl
  rw [← unhide HLEN]
  go_wp2_with fail
  refine (unhide HAd).mono ?_
  rintro e w7 ⟨rfl, hb7⟩
  have hs7 := hb7.size
  have N7 := (unhide N6).below hb7
  have O7 := hide ((unhide O6).below hb7)
  have R7 := hide ((unhide R6).below hb7)
  have K7 := hide ((unhide K6).trans (hb7.mono (unhide K6).size))
  clear x0 x1 x2 x3 x4 x5 x6 x7 x8 x9 x10 x11 x12 HAd hb7 N6 O6 R6 K6
  have r0 := N7.cell 0 rfl
  have r1 := N7.cell 1 rfl
  have r2 := N7.cell 2 rfl
  have r3 := N7.cell 3 rfl
  have r4 := N7.cell 4 rfl
  have r5 := N7.cell 5 rfl
  have r6 := N7.cell 6 rfl
  have r7 := N7.cell 7 rfl
  have r8 := N7.cell 8 rfl
  have r9 := N7.cell 9 rfl
  have r10 := N7.cell 10 rfl
  have r11 := N7.cell 11 rfl
  have r12 := N7.cell 12 rfl
  have f0 := N7.fro 0
  have f1 := N7.fro 1
  have f2 := N7.fro 2
  have f3 := N7.fro 3
  have f4 := N7.fro 4
  have f5 := N7.fro 5
  have f6 := N7.fro 6
  have f7 := N7.fro 7
  have f8 := N7.fro 8
  have f9 := N7.fro 9
  have f10 := N7.fro 10
  have f11 := N7.fro 11
  have f12 := N7.fro 12
  have N8 := hide ((((((((((((((N7.set 0 (.int .i64 id) (by simp)).set 1 (.int .i64 tm) (by simp)).set 2 (.int .i64 vo) (by simp)).set 3 (.slice (some ⟨g5, 0, none⟩) lgN.length cap5) (by simp)).set 4 (.slice sa2 st.length sc2) (by simp)).set 5 (.int .i64 2) (by simp)).set 6 (.slice va2 vs.length vc2) (by simp)).set 7 (.slice na2 nx.length nc2) (by simp)).set 8 (.slice ma2 mt.length mc2) (by simp)).set 9 (.int .i64 cmN) (by simp)).set 10 (.int .i64 el) (by simp)).set 11 (.int .i64 wt) (by simp)).set 12 (.bool true) (by simp)))
  have T8 := ((((((((((((((Touch.refl (fun q => q = nb) w7).setCell ⟨nb, 0, none⟩ (.int .i64 id) (fun _ => rfl)).setCell ⟨nb, 1, none⟩ (.int .i64 tm) (fun _ => rfl)).setCell ⟨nb, 2, none⟩ (.int .i64 vo) (fun _ => rfl)).setCell ⟨nb, 3, none⟩ (.slice (some ⟨g5, 0, none⟩) lgN.length cap5) (fun _ => rfl)).setCell ⟨nb, 4, none⟩ (.slice sa2 st.length sc2) (fun _ => rfl)).setCell ⟨nb, 5, none⟩ (.int .i64 2) (fun _ => rfl)).setCell ⟨nb, 6, none⟩ (.slice va2 vs.length vc2) (fun _ => rfl)).setCell ⟨nb, 7, none⟩ (.slice na2 nx.length nc2) (fun _ => rfl)).setCell ⟨nb, 8, none⟩ (.slice ma2 mt.length mc2) (fun _ => rfl)).setCell ⟨nb, 9, none⟩ (.int .i64 cmN) (fun _ => rfl)).setCell ⟨nb, 10, none⟩ (.int .i64 el) (fun _ => rfl)).setCell ⟨nb, 11, none⟩ (.int .i64 wt) (fun _ => rfl)).setCell ⟨nb, 12, none⟩ (.bool true) (fun _ => rfl))
  have O8 := hide (NoO.keep (unhide O7) T8 (fun q hq => (unhide HA6 q hq).1))
  have R8 := hide ((unhide R7).kept T8 (fun e => by omega))
  have K8 := hide ((unhide K7).trans (T8.below (unhide K7).size (fun q hq e => by have := (unhide B0).size; omega)))
  have HT8 := hide T8
  clear T8 N7 O7 R7 K7
  go_wp2_with fail
  clear r0 f0 r1 f1 r2 f2 r3 f3 r4 f4 r5 f5 r6 f6 r7 f7 r8 f8 r9 f9 r10 f10 r11 f11 r12 f12 HT8
  simp only [List.set_cons_succ, List.set_cons_zero] at N8
  generalize ((((((((((((w7.setCell ⟨nb, 0, none⟩ (.int .i64 id)).setCell ⟨nb, 1, none⟩ (.int .i64 tm)).setCell ⟨nb, 2, none⟩ (.int .i64 vo)).setCell ⟨nb, 3, none⟩ (.slice (some ⟨g5, 0, none⟩) lgN.length cap5)).setCell ⟨nb, 4, none⟩ (.slice sa2 st.length sc2)).setCell ⟨nb, 5, none⟩ (.int .i64 2)).setCell ⟨nb, 6, none⟩ (.slice va2 vs.length vc2)).setCell ⟨nb, 7, none⟩ (.slice na2 nx.length nc2)).setCell ⟨nb, 8, none⟩ (.slice ma2 mt.length mc2)).setCell ⟨nb, 9, none⟩ (.int .i64 cmN)).setCell ⟨nb, 10, none⟩ (.int .i64 el)).setCell ⟨nb, 11, none⟩ (.int .i64 wt)).setCell ⟨nb, 12, none⟩ (.bool true) = w8 at *
  have x0 := (unhide N8).cell 0 rfl
  have x1 := (unhide N8).cell 1 rfl
  have x2 := (unhide N8).cell 2 rfl
  have x3 := (unhide N8).cell 3 rfl
  have x4 := (unhide N8).cell 4 rfl
  have x5 := (unhide N8).cell 5 rfl
  have x6 := (unhide N8).cell 6 rfl
  have x7 := (unhide N8).cell 7 rfl
  have x8 := (unhide N8).cell 8 rfl
  have x9 := (unhide N8).cell 9 rfl
  have x10 := (unhide N8).cell 10 rfl
  have x11 := (unhide N8).cell 11 rfl
  have x12 := (unhide N8).cell 12 rfl
  have O9 := hide ((unhide O8).drewN 1)
  have R9 := hide ((unhide R8).drewN 1)
  have K9_ := hide (below_drewN (unhide K8) 1)
  have N9 := hide ((unhide N8).drewN 1)
  change Hid (NoO _ w8.drew _ _ _ _ _ _ _ _ _ _) at O9
  change Hid (Blk w8.drew (w.heap.size + 1 + 1) _) at R9
  change Hid (Below w.heap.size w w8.drew) at K9_
  change Hid (Blk w8.drew nb _) at N9
  refine wp_region_noPanic ?_
  refine wp_region_held_drew (S := (fun wx => wx.cell? ⟨nb, 0, none⟩ = some (.int .i64 id) ∧ wx.cell? ⟨nb, 1, none⟩ = some (.int .i64 tm) ∧ wx.cell? ⟨nb, 2, none⟩ = some (.int .i64 vo) ∧ wx.cell? ⟨nb, 3, none⟩ = some (.slice (some ⟨g5, 0, none⟩) lgN.length cap5) ∧ wx.cell? ⟨nb, 4, none⟩ = some (.slice sa2 st.length sc2) ∧ wx.cell? ⟨nb, 5, none⟩ = some (.int .i64 2) ∧ wx.cell? ⟨nb, 6, none⟩ = some (.slice va2 vs.length vc2) ∧ wx.cell? ⟨nb, 7, none⟩ = some (.slice na2 nx.length nc2) ∧ wx.cell? ⟨nb, 8, none⟩ = some (.slice ma2 mt.length mc2) ∧ wx.cell? ⟨nb, 9, none⟩ = some (.int .i64 cmN) ∧ wx.cell? ⟨nb, 10, none⟩ = some (.int .i64 el) ∧ wx.cell? ⟨nb, 11, none⟩ = some (.int .i64 wt) ∧ wx.cell? ⟨nb, 12, none⟩ = some (.bool true))) (by kernel_rfl) ?_ (fun hHeld => ?_)
  · exact ⟨x0, x1, x2, x3, x4, x5, x6, x7, x8, x9, x10, x11, x12⟩
  refine wpAnyH_take (i := 0) (oi := _) (v := ?_) rfl (by kernel_rfl) (by kernel_rfl) (by kernel_rfl) (fun _ _ _ h => h) (Or.inl ⟨by rfl, ?_⟩) (by assumption) ?_
  rotate_left 1
  · (intro wq hSw; (try dsimp only at hSw); (try simp only [List.getElem_toArray, List.getElem_cons_succ, List.getElem_cons_zero]); go_simp; try with_reducible rfl)
  (try simp only [Act.put, List.getElem_toArray, List.getElem_cons_succ, List.getElem_cons_zero, List.setIfInBounds_toArray, List.set_cons_zero, List.set_cons_succ])
  refine wpAnyH_take (i := 1) (oi := _) (v := ?_) rfl (by kernel_rfl) (by kernel_rfl) (by kernel_rfl) (fun _ _ _ h => h) (Or.inl ⟨by rfl, ?_⟩) (by assumption) ?_
  rotate_left 1
  · (intro wq hSw; (try dsimp only at hSw); (try simp only [List.getElem_toArray, List.getElem_cons_succ, List.getElem_cons_zero]); go_simp; try with_reducible rfl)
  (try simp only [Act.put, List.getElem_toArray, List.getElem_cons_succ, List.getElem_cons_zero, List.setIfInBounds_toArray, List.set_cons_zero, List.set_cons_succ])
  clear x0 x1 x2 x3 x4 x5 x6 x7 x8 x9 x10 x11 x12 O8 R8 K8 N8
  generalize w8.drew = wz at *
  have hnz : nb < wz.heap.size := (unhide N9).1
  have x0 := (unhide N9).cell 0 rfl
  have x1 := (unhide N9).cell 1 rfl
  have x2 := (unhide N9).cell 2 rfl
  have x3 := (unhide N9).cell 3 rfl
  have x4 := (unhide N9).cell 4 rfl
  have x5 := (unhide N9).cell 5 rfl
  have x6 := (unhide N9).cell 6 rfl
  have x7 := (unhide N9).cell 7 rfl
  have x8 := (unhide N9).cell 8 rfl
  have x9 := (unhide N9).cell 9 rfl
  have x10 := (unhide N9).cell 10 rfl
  have x11 := (unhide N9).cell 11 rfl
  have x12 := (unhide N9).cell 12 rfl
  refine wpAnyH_ready (rs := [2]) (by kernel_rfl) (by simp) ?_
  refine AllReadyH.cons (o := _) rfl (fun K hK => ?_) AllReadyH.nil
  go_simp
  refine (unhide HTl wz (unhide O9)).mono ?_
  rintro e w9 ⟨mv, l, rfl, hNs, hml, hb9⟩
  have hbX := hb9
  have HNs := hide hNs
  have HML := hide hml
  have HB9 := hide hb9
  go_wp2_with fail
  refine hK.out _ _ ?_ (fun hHeld => ?_)
  · exact ⟨(hbX.cell (p := ⟨nb, 0, none⟩) hnz).trans x0, (hbX.cell (p := ⟨nb, 1, none⟩) hnz).trans x1, (hbX.cell (p := ⟨nb, 2, none⟩) hnz).trans x2, (hbX.cell (p := ⟨nb, 3, none⟩) hnz).trans x3, (hbX.cell (p := ⟨nb, 4, none⟩) hnz).trans x4, (hbX.cell (p := ⟨nb, 5, none⟩) hnz).trans x5, (hbX.cell (p := ⟨nb, 6, none⟩) hnz).trans x6, (hbX.cell (p := ⟨nb, 7, none⟩) hnz).trans x7, (hbX.cell (p := ⟨nb, 8, none⟩) hnz).trans x8, (hbX.cell (p := ⟨nb, 9, none⟩) hnz).trans x9, (hbX.cell (p := ⟨nb, 10, none⟩) hnz).trans x10, (hbX.cell (p := ⟨nb, 11, none⟩) hnz).trans x11, (hbX.cell (p := ⟨nb, 12, none⟩) hnz).trans x12⟩
  clear hK K
  (try simp only [Act.put, List.getElem_toArray, List.getElem_cons_succ, List.getElem_cons_zero, List.setIfInBounds_toArray, List.set_cons_zero, List.set_cons_succ])
  clear hNs hml hb9
  have hs9 := (unhide HB9).size
  have hkz := (unhide K9_).size
  have hrz : w.heap.size + 1 + 1 < wz.heap.size := (unhide R9).1
  have RX := (unhide R9).below (unhide HB9)
  have r0 := RX.cell 0 rfl
  have r1 := RX.cell 1 rfl
  have r2 := RX.cell 2 rfl
  have r3 := RX.cell 3 rfl
  have r4 := RX.cell 4 rfl
  have r5 := RX.cell 5 rfl
  have r6 := RX.cell 6 rfl
  have r7 := RX.cell 7 rfl
  have r8 := RX.cell 8 rfl
  have r9 := RX.cell 9 rfl
  have r10 := RX.cell 10 rfl
  have r11 := RX.cell 11 rfl
  have r12 := RX.cell 12 rfl
  have f0 := RX.fro 0
  have f1 := RX.fro 1
  have f2 := RX.fro 2
  have f3 := RX.fro 3
  have f4 := RX.fro 4
  have f5 := RX.fro 5
  have f6 := RX.fro 6
  have f7 := RX.fro 7
  have f8 := RX.fro 8
  have f9 := RX.fro 9
  have f10 := RX.fro 10
  have f11 := RX.fro 11
  have f12 := RX.fro 12
  have HR9 := hide ((((((((((((((RX.set 0 (.int .i64 id) (by simp)).set 1 (.int .i64 tm) (by simp)).set 2 (.int .i64 vo) (by simp)).set 3 (.slice (some ⟨g5, 0, none⟩) lgN.length cap5) (by simp)).set 4 (.slice sa2 st.length sc2) (by simp)).set 5 (.int .i64 2) (by simp)).set 6 (.slice va2 vs.length vc2) (by simp)).set 7 (.slice na2 nx.length nc2) (by simp)).set 8 (.slice ma2 mt.length mc2) (by simp)).set 9 (.int .i64 cmN) (by simp)).set 10 (.int .i64 el) (by simp)).set 11 (.int .i64 wt) (by simp)).set 12 (.bool true) (by simp)))
  have T9 := ((((((((((((((Touch.refl (fun q => q = w.heap.size + 1 + 1) w9).setCell ⟨w.heap.size + 1 + 1, 0, none⟩ (.int .i64 id) (fun _ => rfl)).setCell ⟨w.heap.size + 1 + 1, 1, none⟩ (.int .i64 tm) (fun _ => rfl)).setCell ⟨w.heap.size + 1 + 1, 2, none⟩ (.int .i64 vo) (fun _ => rfl)).setCell ⟨w.heap.size + 1 + 1, 3, none⟩ (.slice (some ⟨g5, 0, none⟩) lgN.length cap5) (fun _ => rfl)).setCell ⟨w.heap.size + 1 + 1, 4, none⟩ (.slice sa2 st.length sc2) (fun _ => rfl)).setCell ⟨w.heap.size + 1 + 1, 5, none⟩ (.int .i64 2) (fun _ => rfl)).setCell ⟨w.heap.size + 1 + 1, 6, none⟩ (.slice va2 vs.length vc2) (fun _ => rfl)).setCell ⟨w.heap.size + 1 + 1, 7, none⟩ (.slice na2 nx.length nc2) (fun _ => rfl)).setCell ⟨w.heap.size + 1 + 1, 8, none⟩ (.slice ma2 mt.length mc2) (fun _ => rfl)).setCell ⟨w.heap.size + 1 + 1, 9, none⟩ (.int .i64 cmN) (fun _ => rfl)).setCell ⟨w.heap.size + 1 + 1, 10, none⟩ (.int .i64 el) (fun _ => rfl)).setCell ⟨w.heap.size + 1 + 1, 11, none⟩ (.int .i64 wt) (fun _ => rfl)).setCell ⟨w.heap.size + 1 + 1, 12, none⟩ (.bool true) (fun _ => rfl))
  have KW := (unhide K9_).trans ((unhide HB9).mono (unhide K9_).size)
  have K9 := hide (KW.trans (T9.below KW.size (fun k hk e => by omega)))
  have HT9 := hide T9
  clear RX T9 KW
  have X9 := hide (((unhide N9).below (unhide HB9)).kept (unhide HT9) (fun e => by omega))
  refine wpAnyH_ready (rs := [3]) (by kernel_rfl) (by simp) ?_
  refine AllReadyH.cons (o := _) rfl (fun K hK => ?_) AllReadyH.nil
  go_simp
  refine hK.out _ _ ?_ (fun hHeld => ?_)
  · exact ⟨(unhide X9).cell 0 rfl, (unhide X9).cell 1 rfl, (unhide X9).cell 2 rfl, (unhide X9).cell 3 rfl, (unhide X9).cell 4 rfl, (unhide X9).cell 5 rfl, (unhide X9).cell 6 rfl, (unhide X9).cell 7 rfl, (unhide X9).cell 8 rfl, (unhide X9).cell 9 rfl, (unhide X9).cell 10 rfl, (unhide X9).cell 11 rfl, (unhide X9).cell 12 rfl⟩
  clear hK K
  (try simp only [Act.put, List.getElem_toArray, List.getElem_cons_succ, List.getElem_cons_zero, List.setIfInBounds_toArray, List.set_cons_zero, List.set_cons_succ])
  refine wpAnyH_take (i := 4) (oi := _) (v := ?_) rfl (by kernel_rfl) (by kernel_rfl) (by kernel_rfl) (fun _ _ _ h => h) (Or.inl ⟨by rfl, ?_⟩) (by assumption) ?_
  rotate_left 1
  · (intro wq hSw; (try dsimp only at hSw); (try simp only [List.getElem_toArray, List.getElem_cons_succ, List.getElem_cons_zero]); go_simp; try with_reducible rfl)
  (try simp only [Act.put, List.getElem_toArray, List.getElem_cons_succ, List.getElem_cons_zero, List.setIfInBounds_toArray, List.set_cons_zero, List.set_cons_succ])
  refine wpAnyH_take (i := 5) (oi := _) (v := ?_) rfl (by kernel_rfl) (by kernel_rfl) (by kernel_rfl) (fun _ _ _ h => h) (Or.inl ⟨by rfl, ?_⟩) (by assumption) ?_
  rotate_left 1
  · (intro wq hSw; (try dsimp only at hSw); (try simp only [List.getElem_toArray, List.getElem_cons_succ, List.getElem_cons_zero]); go_simp; try with_reducible rfl)
  (try simp only [Act.put, List.getElem_toArray, List.getElem_cons_succ, List.getElem_cons_zero, List.setIfInBounds_toArray, List.set_cons_zero, List.set_cons_succ])
  refine wpAnyH_done (by kernel_rfl) (NoPanic.normal ?_) _
  go_wp2_with fail
  have R9 := unhide HR9
  have z0 := R9.cell 0 rfl
  have z1 := R9.cell 1 rfl
  have z2 := R9.cell 2 rfl
  have z3 := R9.cell 3 rfl
  have z4 := R9.cell 4 rfl
  have z5 := R9.cell 5 rfl
  have z6 := R9.cell 6 rfl
  have z7 := R9.cell 7 rfl
  have z8 := R9.cell 8 rfl
  have z9 := R9.cell 9 rfl
  have z10 := R9.cell 10 rfl
  have z11 := R9.cell 11 rfl
  have z12 := R9.cell 12 rfl
  refine bodyPost_ret (v := .tuple #[.agg #[.int .i64 id, .int .i64 tm, .int .i64 vo, .slice (some ⟨g5, 0, none⟩) lgN.length cap5, .slice sa2 st.length sc2, .int .i64 2, .slice va2 vs.length vc2, .slice na2 nx.length nc2, .slice ma2 mt.length mc2, .int .i64 cmN, .int .i64 el, .int .i64 wt, .bool true], mv, .int .i64 0]) (by simp [results, Try.results37, go_sem, z0, z1, z2, z3, z4, z5, z6, z7, z8, z9, z10, z11, z12]) rfl ?_
  rw [unhide HU6]
  exact ⟨some ⟨g5, 0, none⟩, cap5, sa2, sc2, va2, vc2, na2, nc2, ma2, mc2, mv, l, rfl, (NoO.keep ((unhide O9).below (unhide HB9)) (unhide HT9) (fun q hq => (unhide HA6 q hq).2)).read, ((unhide HNs).kept (unhide HT9) (fun q e _ => by omega)).down (by omega), unhide HML, unhide K9⟩
end Go.Proofs.Ytglkgmijcefjkaa
namespace Go.Proofs.Ytglkgmijcefjkaa
open Go.ChangeShapes Go.WideShapes Go.ChangeAt Go.RowKit Go.Deep
set_option linter.unusedVariables false
set_option linter.unusedSimpArgs false

theorem NoO.mono2 {B B' : Nat} {w : World} {lv sv vv nv mv : Value} {lg : List En} {st vs nx mt : List Int} (h : NoO B w lv sv vv nv mv lg st vs nx mt) (hB : B' ≤ B) : NoO B' w lv sv vv nv mv lg st vs nx mt :=
  ⟨World.ownsRow.mono h.lg hB, h.st.mono hB, h.vs.mono hB, h.nx.mono hB, h.mt.mono hB, h.ap⟩
theorem prOut_small (n : NoD) (k : Int) (d : ByteArray) (h : n.lg.length ≤ 60) : (prOut n k d).1.lg.length ≤ 60 ∧ (prOut n k d).1.st = n.st ∧ (prOut n k d).1.vs = n.vs ∧ (prOut n k d).1.nx = n.nx ∧ (prOut n k d).1.mt = n.mt := by
  unfold prOut
  split
  · split
    · split
      · exact ⟨by simp only [List.length_append, List.length_cons, List.length_nil]; omega, rfl, rfl, rfl, rfl⟩
      · exact ⟨h, rfl, rfl, rfl, rfl⟩
    · exact ⟨h, rfl, rfl, rfl, rfl⟩
  · exact ⟨h, rfl, rfl, rfl, rfl⟩
set_option maxRecDepth 100000 in
set_option maxHeartbeats 4000000 in
theorem specNodePropose_any (id tm vo ro cm el wt : Int) (up : Bool) (lg : List En) (st vs nx mt : List Int) (la : Option Addr) (lc : Nat) (sa : Option Addr) (sc : Nat) (va : Option Addr) (vc : Nat) (na : Option Addr) (nc : Nat) (ma : Option Addr) (mc : Nat) (data : ByteArray) (w : World) (h : NoR w (.slice la lg.length lc) (.slice sa st.length sc) (.slice va vs.length vc) (.slice na nx.length nc) (.slice ma mt.length mc) lg st vs nx mt) (hs : NoS lg st vs nx mt) (hds : data.size ≤ 1048576) :
    Calls Try.prog 15 #[.agg #[.int .i64 id, .int .i64 tm, .int .i64 vo, .slice la lg.length lc, .slice sa st.length sc, .int .i64 ro, .slice va vs.length vc, .slice na nx.length nc, .slice ma mt.length mc, .int .i64 cm, .int .i64 el, .int .i64 wt, .bool up], .string data] w fun e w' => PAns w.heap.size (npOut (nodeB id tm vo ro cm el wt up lg st vs nx mt) ⟨id, tm, vo, ro, cm, el, wt, up, lg, st, vs, nx, mt⟩ data).1 (npOut (nodeB id tm vo ro cm el wt up lg st vs nx mt) ⟨id, tm, vo, ro, cm, el, wt, up, lg, st, vs, nx, mt⟩ data).2.1 (npOut (nodeB id tm vo ro cm el wt up lg st vs nx mt) ⟨id, tm, vo, ro, cm, el, wt, up, lg, st, vs, nx, mt⟩ data).2.2 w e w' := by
  have B0 := hide (((Below.refl w.heap.size w).alloc (Nat.le_refl _) (.cells #[.int .i64 id, .int .i64 tm, .int .i64 vo, .slice la lg.length lc, .slice sa st.length sc, .int .i64 ro, .slice va vs.length vc, .slice na nx.length nc, .slice ma mt.length mc, .int .i64 cm, .int .i64 el, .int .i64 wt, .bool up] 29)).alloc (by simp) (.cells #[.int .i64 0, .int .i64 0, .int .i64 0, .slice none 0 0, .slice none 0 0, .int .i64 0, .slice none 0 0, .slice none 0 0, .slice none 0 0, .int .i64 0, .int .i64 0, .int .i64 0, .bool false] 29))
  have X0 := hide ((Blk.new w #[.int .i64 id, .int .i64 tm, .int .i64 vo, .slice la lg.length lc, .slice sa st.length sc, .int .i64 ro, .slice va vs.length vc, .slice na nx.length nc, .slice ma mt.length mc, .int .i64 cm, .int .i64 el, .int .i64 wt, .bool up] 29 w.heap.size rfl).alloc (.cells #[.int .i64 0, .int .i64 0, .int .i64 0, .slice none 0 0, .slice none 0 0, .int .i64 0, .slice none 0 0, .slice none 0 0, .slice none 0 0, .int .i64 0, .int .i64 0, .int .i64 0, .bool false] 29))
  have R0 := hide (Blk.new (w.alloc (.cells #[.int .i64 id, .int .i64 tm, .int .i64 vo, .slice la lg.length lc, .slice sa st.length sc, .int .i64 ro, .slice va vs.length vc, .slice na nx.length nc, .slice ma mt.length mc, .int .i64 cm, .int .i64 el, .int .i64 wt, .bool up] 29)) #[.int .i64 0, .int .i64 0, .int .i64 0, .slice none 0 0, .slice none 0 0, .int .i64 0, .slice none 0 0, .slice none 0 0, .slice none 0 0, .int .i64 0, .int .i64 0, .int .i64 0, .bool false] 29 (w.heap.size + 1) (by simp))
  have HN := hide (fun wx (hx : Below w.heap.size w wx) => specNodeOK_any id tm vo ro cm el wt up lg st vs nx mt la lc sa sc va vc na nc ma mc wx (h.below hx) hs)
  have HU : Hid (∀ ok, npOut ok ⟨id, tm, vo, ro, cm, el, wt, up, lg, st, vs, nx, mt⟩ data = if 65536 < data.size then (zeroNo, [], 2) else if ok && inB data.size 1 100 then prOut ⟨id, tm, vo, ro, cm, el, wt, up, lg, st, vs, nx, mt⟩ 1 data else (zeroNo, [], 1)) := hide (fun ok => rfl)
  have HPr := hide (fun wx (hx : Below w.heap.size w wx) (hh : nodeB id tm vo ro cm el wt up lg st vs nx mt = true) => l10Propose_any id tm vo ro cm el wt up lg st vs nx mt la lc sa sc va vc na nc ma mc 0 1 data wx (h.below hx) hs.dt hds (by omega) (by have := node_small hh; omega) (cfg_of_node hh) (node_small hh).2.2.2.2.2.1 (by have := node_small hh; omega) (by have := node_small hh; omega) (node_small hh).2.2.2.1 (node_small hh).2.2.2.2.1 (node_next hh).2.1 (node_next hh).1)
  have HSm := hide (fun (hh : nodeB id tm vo ro cm el wt up lg st vs nx mt = true) => And.intro (prOut_small ⟨id, tm, vo, ro, cm, el, wt, up, lg, st, vs, nx, mt⟩ 1 data (node_small hh).1) (node_small hh))
  clear h hs
  generalize nodeB id tm vo ro cm el wt up lg st vs nx mt = ok at *
  go_enter Try.func15, Try.ntmps15
  go_upto_region 1 with fail
  generalize (w.alloc (.cells #[.int .i64 id, .int .i64 tm, .int .i64 vo, .slice la lg.length lc, .slice sa st.length sc, .int .i64 ro, .slice va vs.length vc, .slice na nx.length nc, .slice ma mt.length mc, .int .i64 cm, .int .i64 el, .int .i64 wt, .bool up] 29)).alloc (.cells #[.int .i64 0, .int .i64 0, .int .i64 0, .slice none 0 0, .slice none 0 0, .int .i64 0, .slice none 0 0, .slice none 0 0, .slice none 0 0, .int .i64 0, .int .i64 0, .int .i64 0, .bool false] 29) = w0 at *
  have hrw : w.heap.size + 1 < w0.heap.size := (unhide R0).1
  by_cases hbig : 65536 < data.size
  · have q1 : (65536 : Int) < (data.size : Int) := by omega
    have HU2 := hide (show npOut ok ⟨id, tm, vo, ro, cm, el, wt, up, lg, st, vs, nx, mt⟩ data = (zeroNo, [], 2) by rw [unhide HU, if_pos hbig])
    have RX := unhide R0
    have r0 := RX.cell 0 rfl
    have r1 := RX.cell 1 rfl
    have r2 := RX.cell 2 rfl
    have r3 := RX.cell 3 rfl
    have r4 := RX.cell 4 rfl
    have r5 := RX.cell 5 rfl
    have r6 := RX.cell 6 rfl
    have r7 := RX.cell 7 rfl
    have r8 := RX.cell 8 rfl
    have r9 := RX.cell 9 rfl
    have r10 := RX.cell 10 rfl
    have r11 := RX.cell 11 rfl
    have r12 := RX.cell 12 rfl
    have f0 := RX.fro 0
    have f1 := RX.fro 1
    have f2 := RX.fro 2
    have f3 := RX.fro 3
    have f4 := RX.fro 4
    have f5 := RX.fro 5
    have f6 := RX.fro 6
    have f7 := RX.fro 7
    have f8 := RX.fro 8
    have f9 := RX.fro 9
    have f10 := RX.fro 10
    have f11 := RX.fro 11
    have f12 := RX.fro 12
    have HR9 := hide ((((((((((((((RX.set 0 (.int .i64 0) (by simp)).set 1 (.int .i64 0) (by simp)).set 2 (.int .i64 0) (by simp)).set 3 (.slice none 0 0) (by simp)).set 4 (.slice none 0 0) (by simp)).set 5 (.int .i64 0) (by simp)).set 6 (.slice none 0 0) (by simp)).set 7 (.slice none 0 0) (by simp)).set 8 (.slice none 0 0) (by simp)).set 9 (.int .i64 0) (by simp)).set 10 (.int .i64 0) (by simp)).set 11 (.int .i64 0) (by simp)).set 12 (.bool false) (by simp)))
    have T9 := ((((((((((((((Touch.refl (fun q => q = w.heap.size + 1) w0).setCell ⟨w.heap.size + 1, 0, none⟩ (.int .i64 0) (fun _ => rfl)).setCell ⟨w.heap.size + 1, 1, none⟩ (.int .i64 0) (fun _ => rfl)).setCell ⟨w.heap.size + 1, 2, none⟩ (.int .i64 0) (fun _ => rfl)).setCell ⟨w.heap.size + 1, 3, none⟩ (.slice none 0 0) (fun _ => rfl)).setCell ⟨w.heap.size + 1, 4, none⟩ (.slice none 0 0) (fun _ => rfl)).setCell ⟨w.heap.size + 1, 5, none⟩ (.int .i64 0) (fun _ => rfl)).setCell ⟨w.heap.size + 1, 6, none⟩ (.slice none 0 0) (fun _ => rfl)).setCell ⟨w.heap.size + 1, 7, none⟩ (.slice none 0 0) (fun _ => rfl)).setCell ⟨w.heap.size + 1, 8, none⟩ (.slice none 0 0) (fun _ => rfl)).setCell ⟨w.heap.size + 1, 9, none⟩ (.int .i64 0) (fun _ => rfl)).setCell ⟨w.heap.size + 1, 10, none⟩ (.int .i64 0) (fun _ => rfl)).setCell ⟨w.heap.size + 1, 11, none⟩ (.int .i64 0) (fun _ => rfl)).setCell ⟨w.heap.size + 1, 12, none⟩ (.bool false) (fun _ => rfl))
    have KW := unhide B0
    have K9 := hide (KW.trans (T9.below KW.size (fun k hk e => by omega)))
    have HT9 := hide T9
    clear RX T9 KW
    have RA := hide ((unhide HR9).alloc (.cells #[] 59))
    have KA := hide ((unhide K9).alloc (unhide K9).size (.cells #[] 59))
    go_wp2_with fail
    have R9 := unhide RA
    have z0 := R9.cell 0 rfl
    have z1 := R9.cell 1 rfl
    have z2 := R9.cell 2 rfl
    have z3 := R9.cell 3 rfl
    have z4 := R9.cell 4 rfl
    have z5 := R9.cell 5 rfl
    have z6 := R9.cell 6 rfl
    have z7 := R9.cell 7 rfl
    have z8 := R9.cell 8 rfl
    have z9 := R9.cell 9 rfl
    have z10 := R9.cell 10 rfl
    have z11 := R9.cell 11 rfl
    have z12 := R9.cell 12 rfl
    refine bodyPost_ret (v := .tuple #[.agg #[.int .i64 0, .int .i64 0, .int .i64 0, .slice none 0 0, .slice none 0 0, .int .i64 0, .slice none 0 0, .slice none 0 0, .slice none 0 0, .int .i64 0, .int .i64 0, .int .i64 0, .bool false], .slice (some ⟨w0.heap.size, 0, none⟩) 0 0, .int .i64 2]) (by simp [results, Try.results15, go_sem, z0, z1, z2, z3, z4, z5, z6, z7, z8, z9, z10, z11, z12]) rfl ?_
    rw [unhide HU2]
    refine ⟨none, 0, none, 0, none, 0, none, 0, none, 0, .slice (some ⟨w0.heap.size, 0, none⟩) 0 0, [], rfl, noO_zero _ _, ?_, rfl, fun q hq => ?_, unhide KA⟩
    · have hn := ns_made mgS _ w.heap.size (unhide K9).size
      simp only [World.size_setCell] at hn
      exact hn
    · obtain ⟨v, hv, hvq⟩ := hq
      simp only [List.mem_cons, List.not_mem_nil, or_false] at hv
      rcases hv with rfl | rfl | rfl | rfl | rfl <;> cases hvq
  have q1 : ¬ (65536 : Int) < (data.size : Int) := by omega
  have HU3 := hide (show npOut ok ⟨id, tm, vo, ro, cm, el, wt, up, lg, st, vs, nx, mt⟩ data = if ok && inB data.size 1 100 then prOut ⟨id, tm, vo, ro, cm, el, wt, up, lg, st, vs, nx, mt⟩ 1 data else (zeroNo, [], 1) by rw [unhide HU, if_neg hbig])
  have HIn := hide (l01In_any (data.size : Int) 1 100)
  have x0 := (unhide X0).cell 0 rfl
  have x1 := (unhide X0).cell 1 rfl
  have x2 := (unhide X0).cell 2 rfl
  have x3 := (unhide X0).cell 3 rfl
  have x4 := (unhide X0).cell 4 rfl
  have x5 := (unhide X0).cell 5 rfl
  have x6 := (unhide X0).cell 6 rfl
  have x7 := (unhide X0).cell 7 rfl
  have x8 := (unhide X0).cell 8 rfl
  have x9 := (unhide X0).cell 9 rfl
  have x10 := (unhide X0).cell 10 rfl
  have x11 := (unhide X0).cell 11 rfl
  have x12 := (unhide X0).cell 12 rfl
  clear HU
  go_wp2_with fail
  refine (unhide HN w0 (unhide B0)).mono ?_
  rintro e w1 ⟨rfl, hb⟩
  have K1 := hide ((unhide B0).trans (hb.mono (unhide B0).size))
  have X1 := hide ((unhide X0).below hb)
  have R1 := hide ((unhide R0).below hb)
  have hs1 := hb.size
  have hrw1 : w.heap.size + 1 < w1.heap.size := by omega
  clear hb x0 x1 x2 x3 x4 x5 x6 x7 x8 x9 x10 x11 x12 X0 B0 R0 HN
  cases ok
  · have HU2 := hide (show npOut false ⟨id, tm, vo, ro, cm, el, wt, up, lg, st, vs, nx, mt⟩ data = (zeroNo, [], 1) by rw [unhide HU3]; simp)
    have RX := unhide R1
    have r0 := RX.cell 0 rfl
    have r1 := RX.cell 1 rfl
    have r2 := RX.cell 2 rfl
    have r3 := RX.cell 3 rfl
    have r4 := RX.cell 4 rfl
    have r5 := RX.cell 5 rfl
    have r6 := RX.cell 6 rfl
    have r7 := RX.cell 7 rfl
    have r8 := RX.cell 8 rfl
    have r9 := RX.cell 9 rfl
    have r10 := RX.cell 10 rfl
    have r11 := RX.cell 11 rfl
    have r12 := RX.cell 12 rfl
    have f0 := RX.fro 0
    have f1 := RX.fro 1
    have f2 := RX.fro 2
    have f3 := RX.fro 3
    have f4 := RX.fro 4
    have f5 := RX.fro 5
    have f6 := RX.fro 6
    have f7 := RX.fro 7
    have f8 := RX.fro 8
    have f9 := RX.fro 9
    have f10 := RX.fro 10
    have f11 := RX.fro 11
    have f12 := RX.fro 12
    have HR9 := hide ((((((((((((((RX.set 0 (.int .i64 0) (by simp)).set 1 (.int .i64 0) (by simp)).set 2 (.int .i64 0) (by simp)).set 3 (.slice none 0 0) (by simp)).set 4 (.slice none 0 0) (by simp)).set 5 (.int .i64 0) (by simp)).set 6 (.slice none 0 0) (by simp)).set 7 (.slice none 0 0) (by simp)).set 8 (.slice none 0 0) (by simp)).set 9 (.int .i64 0) (by simp)).set 10 (.int .i64 0) (by simp)).set 11 (.int .i64 0) (by simp)).set 12 (.bool false) (by simp)))
    have T9 := ((((((((((((((Touch.refl (fun q => q = w.heap.size + 1) w1).setCell ⟨w.heap.size + 1, 0, none⟩ (.int .i64 0) (fun _ => rfl)).setCell ⟨w.heap.size + 1, 1, none⟩ (.int .i64 0) (fun _ => rfl)).setCell ⟨w.heap.size + 1, 2, none⟩ (.int .i64 0) (fun _ => rfl)).setCell ⟨w.heap.size + 1, 3, none⟩ (.slice none 0 0) (fun _ => rfl)).setCell ⟨w.heap.size + 1, 4, none⟩ (.slice none 0 0) (fun _ => rfl)).setCell ⟨w.heap.size + 1, 5, none⟩ (.int .i64 0) (fun _ => rfl)).setCell ⟨w.heap.size + 1, 6, none⟩ (.slice none 0 0) (fun _ => rfl)).setCell ⟨w.heap.size + 1, 7, none⟩ (.slice none 0 0) (fun _ => rfl)).setCell ⟨w.heap.size + 1, 8, none⟩ (.slice none 0 0) (fun _ => rfl)).setCell ⟨w.heap.size + 1, 9, none⟩ (.int .i64 0) (fun _ => rfl)).setCell ⟨w.heap.size + 1, 10, none⟩ (.int .i64 0) (fun _ => rfl)).setCell ⟨w.heap.size + 1, 11, none⟩ (.int .i64 0) (fun _ => rfl)).setCell ⟨w.heap.size + 1, 12, none⟩ (.bool false) (fun _ => rfl))
    have KW := unhide K1
    have K9 := hide (KW.trans (T9.below KW.size (fun k hk e => by omega)))
    have HT9 := hide T9
    clear RX T9 KW
    have RA := hide ((unhide HR9).alloc (.cells #[] 59))
    have KA := hide ((unhide K9).alloc (unhide K9).size (.cells #[] 59))
    go_wp2_with fail
    have R9 := unhide RA
    have z0 := R9.cell 0 rfl
    have z1 := R9.cell 1 rfl
    have z2 := R9.cell 2 rfl
    have z3 := R9.cell 3 rfl
    have z4 := R9.cell 4 rfl
    have z5 := R9.cell 5 rfl
    have z6 := R9.cell 6 rfl
    have z7 := R9.cell 7 rfl
    have z8 := R9.cell 8 rfl
    have z9 := R9.cell 9 rfl
    have z10 := R9.cell 10 rfl
    have z11 := R9.cell 11 rfl
    have z12 := R9.cell 12 rfl
    refine bodyPost_ret (v := .tuple #[.agg #[.int .i64 0, .int .i64 0, .int .i64 0, .slice none 0 0, .slice none 0 0, .int .i64 0, .slice none 0 0, .slice none 0 0, .slice none 0 0, .int .i64 0, .int .i64 0, .int .i64 0, .bool false], .slice (some ⟨w1.heap.size, 0, none⟩) 0 0, .int .i64 1]) (by simp [results, Try.results15, go_sem, z0, z1, z2, z3, z4, z5, z6, z7, z8, z9, z10, z11, z12]) rfl ?_
    rw [unhide HU2]
    refine ⟨none, 0, none, 0, none, 0, none, 0, none, 0, .slice (some ⟨w1.heap.size, 0, none⟩) 0 0, [], rfl, noO_zero _ _, ?_, rfl, fun q hq => ?_, unhide KA⟩
    · have hn := ns_made mgS _ w.heap.size (unhide K9).size
      simp only [World.size_setCell] at hn
      exact hn
    · obtain ⟨v, hv, hvq⟩ := hq
      simp only [List.mem_cons, List.not_mem_nil, or_false] at hv
      rcases hv with rfl | rfl | rfl | rfl | rfl <;> cases hvq
  have HU4 := hide (show npOut true ⟨id, tm, vo, ro, cm, el, wt, up, lg, st, vs, nx, mt⟩ data = if inB data.size 1 100 then prOut ⟨id, tm, vo, ro, cm, el, wt, up, lg, st, vs, nx, mt⟩ 1 data else (zeroNo, [], 1) by rw [unhide HU3]; simp)
  clear HU3
  have HIn1 := hide (unhide HIn w1)
  go_wp2_with fail
  refine (unhide HIn1).mono ?_
  generalize inB (data.size : Int) 1 100 = bo at *
  rintro e w' ⟨rfl, hw'⟩
  have hw2 := hw'.symm
  clear hw' HIn1 HIn
  subst hw2
  cases bo
  · have HU2 := hide (show npOut true ⟨id, tm, vo, ro, cm, el, wt, up, lg, st, vs, nx, mt⟩ data = (zeroNo, [], 1) by rw [unhide HU4]; simp)
    have RX := unhide R1
    have r0 := RX.cell 0 rfl
    have r1 := RX.cell 1 rfl
    have r2 := RX.cell 2 rfl
    have r3 := RX.cell 3 rfl
    have r4 := RX.cell 4 rfl
    have r5 := RX.cell 5 rfl
    have r6 := RX.cell 6 rfl
    have r7 := RX.cell 7 rfl
    have r8 := RX.cell 8 rfl
    have r9 := RX.cell 9 rfl
    have r10 := RX.cell 10 rfl
    have r11 := RX.cell 11 rfl
    have r12 := RX.cell 12 rfl
    have f0 := RX.fro 0
    have f1 := RX.fro 1
    have f2 := RX.fro 2
    have f3 := RX.fro 3
    have f4 := RX.fro 4
    have f5 := RX.fro 5
    have f6 := RX.fro 6
    have f7 := RX.fro 7
    have f8 := RX.fro 8
    have f9 := RX.fro 9
    have f10 := RX.fro 10
    have f11 := RX.fro 11
    have f12 := RX.fro 12
    have HR9 := hide ((((((((((((((RX.set 0 (.int .i64 0) (by simp)).set 1 (.int .i64 0) (by simp)).set 2 (.int .i64 0) (by simp)).set 3 (.slice none 0 0) (by simp)).set 4 (.slice none 0 0) (by simp)).set 5 (.int .i64 0) (by simp)).set 6 (.slice none 0 0) (by simp)).set 7 (.slice none 0 0) (by simp)).set 8 (.slice none 0 0) (by simp)).set 9 (.int .i64 0) (by simp)).set 10 (.int .i64 0) (by simp)).set 11 (.int .i64 0) (by simp)).set 12 (.bool false) (by simp)))
    have T9 := ((((((((((((((Touch.refl (fun q => q = w.heap.size + 1) w1).setCell ⟨w.heap.size + 1, 0, none⟩ (.int .i64 0) (fun _ => rfl)).setCell ⟨w.heap.size + 1, 1, none⟩ (.int .i64 0) (fun _ => rfl)).setCell ⟨w.heap.size + 1, 2, none⟩ (.int .i64 0) (fun _ => rfl)).setCell ⟨w.heap.size + 1, 3, none⟩ (.slice none 0 0) (fun _ => rfl)).setCell ⟨w.heap.size + 1, 4, none⟩ (.slice none 0 0) (fun _ => rfl)).setCell ⟨w.heap.size + 1, 5, none⟩ (.int .i64 0) (fun _ => rfl)).setCell ⟨w.heap.size + 1, 6, none⟩ (.slice none 0 0) (fun _ => rfl)).setCell ⟨w.heap.size + 1, 7, none⟩ (.slice none 0 0) (fun _ => rfl)).setCell ⟨w.heap.size + 1, 8, none⟩ (.slice none 0 0) (fun _ => rfl)).setCell ⟨w.heap.size + 1, 9, none⟩ (.int .i64 0) (fun _ => rfl)).setCell ⟨w.heap.size + 1, 10, none⟩ (.int .i64 0) (fun _ => rfl)).setCell ⟨w.heap.size + 1, 11, none⟩ (.int .i64 0) (fun _ => rfl)).setCell ⟨w.heap.size + 1, 12, none⟩ (.bool false) (fun _ => rfl))
    have KW := unhide K1
    have K9 := hide (KW.trans (T9.below KW.size (fun k hk e => by omega)))
    have HT9 := hide T9
    clear RX T9 KW
    have RA := hide ((unhide HR9).alloc (.cells #[] 59))
    have KA := hide ((unhide K9).alloc (unhide K9).size (.cells #[] 59))
    go_wp2_with fail
    have R9 := unhide RA
    have z0 := R9.cell 0 rfl
    have z1 := R9.cell 1 rfl
    have z2 := R9.cell 2 rfl
    have z3 := R9.cell 3 rfl
    have z4 := R9.cell 4 rfl
    have z5 := R9.cell 5 rfl
    have z6 := R9.cell 6 rfl
    have z7 := R9.cell 7 rfl
    have z8 := R9.cell 8 rfl
    have z9 := R9.cell 9 rfl
    have z10 := R9.cell 10 rfl
    have z11 := R9.cell 11 rfl
    have z12 := R9.cell 12 rfl
    refine bodyPost_ret (v := .tuple #[.agg #[.int .i64 0, .int .i64 0, .int .i64 0, .slice none 0 0, .slice none 0 0, .int .i64 0, .slice none 0 0, .slice none 0 0, .slice none 0 0, .int .i64 0, .int .i64 0, .int .i64 0, .bool false], .slice (some ⟨w1.heap.size, 0, none⟩) 0 0, .int .i64 1]) (by simp [results, Try.results15, go_sem, z0, z1, z2, z3, z4, z5, z6, z7, z8, z9, z10, z11, z12]) rfl ?_
    rw [unhide HU2]
    refine ⟨none, 0, none, 0, none, 0, none, 0, none, 0, .slice (some ⟨w1.heap.size, 0, none⟩) 0 0, [], rfl, noO_zero _ _, ?_, rfl, fun q hq => ?_, unhide KA⟩
    · have hn := ns_made mgS _ w.heap.size (unhide K9).size
      simp only [World.size_setCell] at hn
      exact hn
    · obtain ⟨v, hv, hvq⟩ := hq
      simp only [List.mem_cons, List.not_mem_nil, or_false] at hv
      rcases hv with rfl | rfl | rfl | rfl | rfl <;> cases hvq
  have HU5 := hide (show npOut true ⟨id, tm, vo, ro, cm, el, wt, up, lg, st, vs, nx, mt⟩ data = prOut ⟨id, tm, vo, ro, cm, el, wt, up, lg, st, vs, nx, mt⟩ 1 data by rw [unhide HU4]; simp)
  clear HU4
  have x0 := (unhide X1).cell 0 rfl
  have x1 := (unhide X1).cell 1 rfl
  have x2 := (unhide X1).cell 2 rfl
  have x3 := (unhide X1).cell 3 rfl
  have x4 := (unhide X1).cell 4 rfl
  have x5 := (unhide X1).cell 5 rfl
  have x6 := (unhide X1).cell 6 rfl
  have x7 := (unhide X1).cell 7 rfl
  have x8 := (unhide X1).cell 8 rfl
  have x9 := (unhide X1).cell 9 rfl
  have x10 := (unhide X1).cell 10 rfl
  have x11 := (unhide X1).cell 11 rfl
  have x12 := (unhide X1).cell 12 rfl
  have hk1 := (unhide K1).size
  have HC := hide (unhide HPr w1 (unhide K1) (by first | trivial | rfl))
  have HS2 := hide (unhide HSm (by first | trivial | rfl))
  rw [← unhide HU5] at HC HS2
  clear HU5 HPr HSm
  generalize hout : npOut true ⟨id, tm, vo, ro, cm, el, wt, up, lg, st, vs, nx, mt⟩ data = out at *
  obtain ⟨n, ms, code⟩ := out
  have HOUT := hide hout
  clear hout
  dsimp only at HC HS2
  go_wp2_with fail
  refine (unhide HC).mono ?_
  rintro e w2 ⟨la2, lc2, sa2, sc2, va2, vc2, na2, nc2, ma2, mc2, mv, l, rfl, hR, hNs, hms, hb⟩
  have hs2 := hb.size
  have R2 := hide ((unhide R1).below hb)
  have K2 := hide ((unhide K1).trans (hb.mono (unhide K1).size))
  have HR2 := hide hR
  have HNs := hide hNs
  have HMS := hide hms
  have NZ := Blk.new w2 #[.int .i64 0, .int .i64 0, .int .i64 0, .slice none 0 0, .slice none 0 0, .int .i64 0, .slice none 0 0, .slice none 0 0, .slice none 0 0, .int .i64 0, .int .i64 0, .int .i64 0, .bool false] 29 w2.heap.size rfl
  have zc0 := NZ.cell 0 rfl
  have zc1 := NZ.cell 1 rfl
  have zc2 := NZ.cell 2 rfl
  have zc3 := NZ.cell 3 rfl
  have zc4 := NZ.cell 4 rfl
  have zc5 := NZ.cell 5 rfl
  have zc6 := NZ.cell 6 rfl
  have zc7 := NZ.cell 7 rfl
  have zc8 := NZ.cell 8 rfl
  have zc9 := NZ.cell 9 rfl
  have zc10 := NZ.cell 10 rfl
  have zc11 := NZ.cell 11 rfl
  have zc12 := NZ.cell 12 rfl
  have zf0 := NZ.fro 0
  have zf1 := NZ.fro 1
  have zf2 := NZ.fro 2
  have zf3 := NZ.fro 3
  have zf4 := NZ.fro 4
  have zf5 := NZ.fro 5
  have zf6 := NZ.fro 6
  have zf7 := NZ.fro 7
  have zf8 := NZ.fro 8
  have zf9 := NZ.fro 9
  have zf10 := NZ.fro 10
  have zf11 := NZ.fro 11
  have zf12 := NZ.fro 12
  clear x0 x1 x2 x3 x4 x5 x6 x7 x8 x9 x10 x11 x12 HC hR hNs hms hb R1 K1 X1 NZ
  go_upto_region 6 with fail
  clear zc0 zf0 zc1 zf1 zc2 zf2 zc3 zf3 zc4 zf4 zc5 zf5 zc6 zf6 zc7 zf7 zc8 zf8 zc9 zf9 zc10 zf10 zc11 zf11 zc12 zf12
  have N3 := hide (Blk.new w2 #[.int .i64 n.id, .int .i64 n.tm, .int .i64 n.vo, .slice la2 n.lg.length lc2, .slice sa2 n.st.length sc2, .int .i64 n.ro, .slice va2 n.vs.length vc2, .slice na2 n.nx.length nc2, .slice ma2 n.mt.length mc2, .int .i64 n.cm, .int .i64 n.el, .int .i64 n.wt, .bool n.up] 29 w2.heap.size rfl)
  have B3 := hide ((Below.refl w2.heap.size w2).alloc (Nat.le_refl _) (.cells #[.int .i64 n.id, .int .i64 n.tm, .int .i64 n.vo, .slice la2 n.lg.length lc2, .slice sa2 n.st.length sc2, .int .i64 n.ro, .slice va2 n.vs.length vc2, .slice na2 n.nx.length nc2, .slice ma2 n.mt.length mc2, .int .i64 n.cm, .int .i64 n.el, .int .i64 n.wt, .bool n.up] 29))
  generalize w2.alloc (.cells #[.int .i64 n.id, .int .i64 n.tm, .int .i64 n.vo, .slice la2 n.lg.length lc2, .slice sa2 n.st.length sc2, .int .i64 n.ro, .slice va2 n.vs.length vc2, .slice na2 n.nx.length nc2, .slice ma2 n.mt.length mc2, .int .i64 n.cm, .int .i64 n.el, .int .i64 n.wt, .bool n.up] 29) = w3 at *
  have hs3 : w2.heap.size < w3.heap.size := (unhide N3).1
  obtain ⟨⟨p1, p2, p3, p4, p5⟩, p6⟩ := unhide HS2
  have HOw := hide (l10Own_any n.id n.tm n.vo n.ro n.cm n.el n.wt n.up n.lg n.st n.vs n.nx n.mt la2 lc2 sa2 sc2 va2 vc2 na2 nc2 ma2 mc2 w3 ((unhide HR2).below (unhide B3)) (by omega) (by rw [p2]; omega) (by rw [p3]; omega) (by rw [p4]; omega) (by rw [p5]; omega))
  clear p1 p2 p3 p4 p5 p6 HS2
  have x0 := (unhide N3).cell 0 rfl
  have x1 := (unhide N3).cell 1 rfl
  have x2 := (unhide N3).cell 2 rfl
  have x3 := (unhide N3).cell 3 rfl
  have x4 := (unhide N3).cell 4 rfl
  have x5 := (unhide N3).cell 5 rfl
  have x6 := (unhide N3).cell 6 rfl
  have x7 := (unhide N3).cell 7 rfl
  have x8 := (unhide N3).cell 8 rfl
  have x9 := (unhide N3).cell 9 rfl
  have x10 := (unhide N3).cell 10 rfl
  have x11 := (unhide N3).cell 11 rfl
  have x12 := (unhide N3).cell 12 rfl
  go_wp2_with fail
  refine (unhide HOw).mono ?_
  rintro e w4 ⟨la, lc, sa, sc, va, vc, na, nc, ma, mc, rfl, hO, hb4⟩
  have hs4 := hb4.size
  have HO4 := hide hO
  have HB24 := hide ((unhide B3).trans (hb4.mono (unhide B3).size))
  clear x0 x1 x2 x3 x4 x5 x6 x7 x8 x9 x10 x11 x12 HOw hO hb4 B3 N3
  have N4 := hide ((unhide HNs).below (unhide HB24))
  have RX := (unhide R2).below (unhide HB24)
  have r0 := RX.cell 0 rfl
  have r1 := RX.cell 1 rfl
  have r2 := RX.cell 2 rfl
  have r3 := RX.cell 3 rfl
  have r4 := RX.cell 4 rfl
  have r5 := RX.cell 5 rfl
  have r6 := RX.cell 6 rfl
  have r7 := RX.cell 7 rfl
  have r8 := RX.cell 8 rfl
  have r9 := RX.cell 9 rfl
  have r10 := RX.cell 10 rfl
  have r11 := RX.cell 11 rfl
  have r12 := RX.cell 12 rfl
  have f0 := RX.fro 0
  have f1 := RX.fro 1
  have f2 := RX.fro 2
  have f3 := RX.fro 3
  have f4 := RX.fro 4
  have f5 := RX.fro 5
  have f6 := RX.fro 6
  have f7 := RX.fro 7
  have f8 := RX.fro 8
  have f9 := RX.fro 9
  have f10 := RX.fro 10
  have f11 := RX.fro 11
  have f12 := RX.fro 12
  have HR9 := hide ((((((((((((((RX.set 0 (.int .i64 n.id) (by simp)).set 1 (.int .i64 n.tm) (by simp)).set 2 (.int .i64 n.vo) (by simp)).set 3 (.slice la n.lg.length lc) (by simp)).set 4 (.slice sa n.st.length sc) (by simp)).set 5 (.int .i64 n.ro) (by simp)).set 6 (.slice va n.vs.length vc) (by simp)).set 7 (.slice na n.nx.length nc) (by simp)).set 8 (.slice ma n.mt.length mc) (by simp)).set 9 (.int .i64 n.cm) (by simp)).set 10 (.int .i64 n.el) (by simp)).set 11 (.int .i64 n.wt) (by simp)).set 12 (.bool n.up) (by simp)))
  have T9 := ((((((((((((((Touch.refl (fun q => q = w.heap.size + 1) w4).setCell ⟨w.heap.size + 1, 0, none⟩ (.int .i64 n.id) (fun _ => rfl)).setCell ⟨w.heap.size + 1, 1, none⟩ (.int .i64 n.tm) (fun _ => rfl)).setCell ⟨w.heap.size + 1, 2, none⟩ (.int .i64 n.vo) (fun _ => rfl)).setCell ⟨w.heap.size + 1, 3, none⟩ (.slice la n.lg.length lc) (fun _ => rfl)).setCell ⟨w.heap.size + 1, 4, none⟩ (.slice sa n.st.length sc) (fun _ => rfl)).setCell ⟨w.heap.size + 1, 5, none⟩ (.int .i64 n.ro) (fun _ => rfl)).setCell ⟨w.heap.size + 1, 6, none⟩ (.slice va n.vs.length vc) (fun _ => rfl)).setCell ⟨w.heap.size + 1, 7, none⟩ (.slice na n.nx.length nc) (fun _ => rfl)).setCell ⟨w.heap.size + 1, 8, none⟩ (.slice ma n.mt.length mc) (fun _ => rfl)).setCell ⟨w.heap.size + 1, 9, none⟩ (.int .i64 n.cm) (fun _ => rfl)).setCell ⟨w.heap.size + 1, 10, none⟩ (.int .i64 n.el) (fun _ => rfl)).setCell ⟨w.heap.size + 1, 11, none⟩ (.int .i64 n.wt) (fun _ => rfl)).setCell ⟨w.heap.size + 1, 12, none⟩ (.bool n.up) (fun _ => rfl))
  have KW := (unhide K2).trans ((unhide HB24).mono (unhide K2).size)
  have K9 := hide (KW.trans (T9.below KW.size (fun k hk e => by omega)))
  have HT9 := hide T9
  clear RX T9 KW
  go_wp2_with fail
  have R9 := unhide HR9
  have z0 := R9.cell 0 rfl
  have z1 := R9.cell 1 rfl
  have z2 := R9.cell 2 rfl
  have z3 := R9.cell 3 rfl
  have z4 := R9.cell 4 rfl
  have z5 := R9.cell 5 rfl
  have z6 := R9.cell 6 rfl
  have z7 := R9.cell 7 rfl
  have z8 := R9.cell 8 rfl
  have z9 := R9.cell 9 rfl
  have z10 := R9.cell 10 rfl
  have z11 := R9.cell 11 rfl
  have z12 := R9.cell 12 rfl
  refine bodyPost_ret (v := .tuple #[.agg #[.int .i64 n.id, .int .i64 n.tm, .int .i64 n.vo, .slice la n.lg.length lc, .slice sa n.st.length sc, .int .i64 n.ro, .slice va n.vs.length vc, .slice na n.nx.length nc, .slice ma n.mt.length mc, .int .i64 n.cm, .int .i64 n.el, .int .i64 n.wt, .bool n.up], mv, .int .i64 code]) (by simp [results, Try.results15, go_sem, z0, z1, z2, z3, z4, z5, z6, z7, z8, z9, z10, z11, z12]) rfl ?_
  rw [unhide HOUT]
  exact ⟨la, lc, sa, sc, va, vc, na, nc, ma, mc, mv, l, rfl, NoO.mono2 ((unhide HO4).kept (unhide HT9) (fun q e _ => by omega)) (by omega), ((unhide N4).kept (unhide HT9) (fun q e _ => by omega)).down (by omega), unhide HMS, fun q hq e => by have h1 := (NoO.blk (unhide HO4) q hq).1; have h2 := (nsT_ge (unhide HNs) q e).2; omega, unhide K9⟩
end Go.Proofs.Ytglkgmijcefjkaa
namespace Go.Proofs.Ytglkgmijcefjkaa
open Go.ChangeShapes Go.WideShapes Go.ChangeAt Go.RowKit Go.Deep
set_option linter.unusedVariables false
set_option maxRecDepth 100000 in
set_option maxHeartbeats 4000000 in
theorem szNode_any (id tm vo ro cm el wt : Int) (up : Bool) (lg : List En) (st vs nx mt : List Int) (la : Option Addr) (lc : Nat) (sa : Option Addr) (sc : Nat) (va : Option Addr) (vc : Nat) (na : Option Addr) (nc : Nat) (ma : Option Addr) (mc : Nat) (L : Int) (w : World) (h : NoR w (.slice la lg.length lc) (.slice sa st.length sc) (.slice va vs.length vc) (.slice na nx.length nc) (.slice ma mt.length mc) lg st vs nx mt) (hL0 : 0 ≤ L) (hL1 : L ≤ 1048576) (hz : ∀ i, i < lg.length → (lg.getD i default).d.size ≤ maxLen) :
    Calls Try.prog 5 #[.agg #[.int .i64 id, .int .i64 tm, .int .i64 vo, .slice la lg.length lc, .slice sa st.length sc, .int .i64 ro, .slice va vs.length vc, .slice na nx.length nc, .slice ma mt.length mc, .int .i64 cm, .int .i64 el, .int .i64 wt, .bool up], .int .i64 L] w fun e w' => e = .returned (.int .i64 (noszR L lg st.length vs.length nx.length mt.length)) ∧ Below w.heap.size w w' := by
  have B0 := hide ((Below.refl w.heap.size w).alloc (Nat.le_refl _) (.cells #[.int .i64 id, .int .i64 tm, .int .i64 vo, .slice la lg.length lc, .slice sa st.length sc, .int .i64 ro, .slice va vs.length vc, .slice na nx.length nc, .slice ma mt.length mc, .int .i64 cm, .int .i64 el, .int .i64 wt, .bool up] 25))
  have X0 := hide (Blk.new w #[.int .i64 id, .int .i64 tm, .int .i64 vo, .slice la lg.length lc, .slice sa st.length sc, .int .i64 ro, .slice va vs.length vc, .slice na nx.length nc, .slice ma mt.length mc, .int .i64 cm, .int .i64 el, .int .i64 wt, .bool up] 25 w.heap.size rfl)
  have HE := hide (fun wx (hx : Below w.heap.size w wx) => szEntryS_any L hL0 hL1 _ lg wx (h.lg.below hx) hz)
  have Mst : st.length ≤ maxLen := by obtain ⟨a, c, h1, h2, _⟩ := h.st; exact h2
  have Hst := hide (fun (x : Int) (hx0 : 0 ≤ x) (hx1 : x ≤ 1048576) wx => szIntS_any x hx0 hx1 sa st.length sc wx Mst)
  have Mvs : vs.length ≤ maxLen := by obtain ⟨a, c, h1, h2, _⟩ := h.vs; exact h2
  have Hvs := hide (fun (x : Int) (hx0 : 0 ≤ x) (hx1 : x ≤ 1048576) wx => szIntS_any x hx0 hx1 va vs.length vc wx Mvs)
  have Mnx : nx.length ≤ maxLen := by obtain ⟨a, c, h1, h2, _⟩ := h.nx; exact h2
  have Hnx := hide (fun (x : Int) (hx0 : 0 ≤ x) (hx1 : x ≤ 1048576) wx => szIntS_any x hx0 hx1 na nx.length nc wx Mnx)
  have Mmt : mt.length ≤ maxLen := by obtain ⟨a, c, h1, h2, _⟩ := h.mt; exact h2
  have Hmt := hide (fun (x : Int) (hx0 : 0 ≤ x) (hx1 : x ≤ 1048576) wx => szIntS_any x hx0 hx1 ma mt.length mc wx Mmt)
  have HC0 := hide (eszR_cases L lg)
  have HR : Hid (noszR L lg st.length vs.length nx.length mt.length = if eszR L lg < 0 then -1 else if iszR (eszR L lg) st.length < 0 then -1 else if iszR (iszR (eszR L lg) st.length) vs.length < 0 then -1 else if iszR (iszR (iszR (eszR L lg) st.length) vs.length) nx.length < 0 then -1 else iszR (iszR (iszR (iszR (eszR L lg) st.length) vs.length) nx.length) mt.length) := rfl
  generalize noszR L lg st.length vs.length nx.length mt.length = R at *
  generalize eszR L lg = r0 at *
  clear h hz Mst Mvs Mnx Mmt
  go_enter Try.func5, Try.ntmps5
  go_wp2_with fail
  generalize w.alloc (.cells #[.int .i64 id, .int .i64 tm, .int .i64 vo, .slice la lg.length lc, .slice sa st.length sc, .int .i64 ro, .slice va vs.length vc, .slice na nx.length nc, .slice ma mt.length mc, .int .i64 cm, .int .i64 el, .int .i64 wt, .bool up] 25) = w0 at *
  refine (unhide HE w0 (unhide B0)).mono ?_
  rintro e w1 ⟨rfl, hb1⟩
  have K1 := hide ((unhide B0).trans (hb1.mono (unhide B0).size))
  have X1 := (unhide X0).below hb1
  have x4 := X1.cell 4 rfl
  have x6 := X1.cell 6 rfl
  have x7 := X1.cell 7 rfl
  have x8 := X1.cell 8 rfl
  clear hb1 B0 X0 X1 HE
  rcases unhide HC0 with hr | ⟨hr, hrl⟩
  · subst hr
    have E : Hid (R = -1) := hide (by rw [unhide HR]; rfl)
    go_wp2_with fail
    go_ret
    exact ⟨ret_int (unhide E).symm, unhide K1⟩
  have hn0 : ¬ r0 < 0 := by omega
  replace HR := hide ((unhide HR).trans (if_neg hn0))
  have C0 := hide (Hst r0 (by omega) (by omega))
  clear Hst
  have D0 := hide (iszR_cases r0 st.length)
  generalize iszR r0 st.length = r1 at *
  go_wp2_with fail
  refine (unhide C0 w1).mono ?_
  rintro e w' ⟨rfl, hw'⟩
  have hw2 := hw'.symm
  clear hw' C0
  subst hw2
  rcases unhide D0 with hr | ⟨hr0, hre0⟩
  · subst hr
    have E : Hid (R = -1) := hide ((unhide HR).trans (if_pos (by decide)))
    go_wp2_with fail
    go_ret
    exact ⟨ret_int (unhide E).symm, unhide K1⟩
  have hn1 : ¬ r1 < 0 := by omega
  have hle0 : r1 ≤ r0 := by omega
  clear hre0
  replace HR := hide ((unhide HR).trans (if_neg hn1))
  clear D0
  have C1 := hide (Hvs r1 (by omega) (by omega))
  clear Hvs
  have D1 := hide (iszR_cases r1 vs.length)
  generalize iszR r1 vs.length = r2 at *
  go_wp2_with fail
  refine (unhide C1 w1).mono ?_
  rintro e w' ⟨rfl, hw'⟩
  have hw2 := hw'.symm
  clear hw' C1
  subst hw2
  rcases unhide D1 with hr | ⟨hr1, hre1⟩
  · subst hr
    have E : Hid (R = -1) := hide ((unhide HR).trans (if_pos (by decide)))
    go_wp2_with fail
    go_ret
    exact ⟨ret_int (unhide E).symm, unhide K1⟩
  have hn2 : ¬ r2 < 0 := by omega
  have hle1 : r2 ≤ r1 := by omega
  clear hre1
  replace HR := hide ((unhide HR).trans (if_neg hn2))
  clear D1
  have C2 := hide (Hnx r2 (by omega) (by omega))
  clear Hnx
  have D2 := hide (iszR_cases r2 nx.length)
  generalize iszR r2 nx.length = r3 at *
  go_wp2_with fail
  refine (unhide C2 w1).mono ?_
  rintro e w' ⟨rfl, hw'⟩
  have hw2 := hw'.symm
  clear hw' C2
  subst hw2
  rcases unhide D2 with hr | ⟨hr2, hre2⟩
  · subst hr
    have E : Hid (R = -1) := hide ((unhide HR).trans (if_pos (by decide)))
    go_wp2_with fail
    go_ret
    exact ⟨ret_int (unhide E).symm, unhide K1⟩
  have hn3 : ¬ r3 < 0 := by omega
  have hle2 : r3 ≤ r2 := by omega
  clear hre2
  replace HR := hide ((unhide HR).trans (if_neg hn3))
  clear D2
  have C3 := hide (Hmt r3 (by omega) (by omega))
  clear Hmt
  have D3 := hide (iszR_cases r3 mt.length)
  generalize iszR r3 mt.length = r4 at *
  go_wp2_with fail
  refine (unhide C3 w1).mono ?_
  rintro e w' ⟨rfl, hw'⟩
  have hw2 := hw'.symm
  clear hw' C3
  subst hw2
  rcases unhide D3 with hr | ⟨hr3, hre3⟩
  · subst hr
    have E : Hid (R = -1) := HR
    go_wp2_with fail
    go_ret
    exact ⟨ret_int (unhide E).symm, unhide K1⟩
  have hn4 : ¬ r4 < 0 := by omega
  have hle3 : r4 ≤ r3 := by omega
  clear hre3
  go_wp2_with fail
  go_ret
  exact ⟨ret_int (unhide HR).symm, unhide K1⟩
end Go.Proofs.Ytglkgmijcefjkaa
namespace Go.Proofs.Ytglkgmijcefjkaa
open Go.ChangeShapes Go.WideShapes Go.ChangeAt Go.RowKit Go.Deep
set_option linter.unusedVariables false
def ToNR (id tm vo ro cm el wt : Int) (up : Bool) (lg : List En) (st vs nx mt : List Int) (w : World) (e : Ending) (w' : World) : Prop :=
  ∃ gl gs gv gn gm, e = .returned (.agg #[.int .i64 id, .int .i64 tm, .int .i64 vo, .slice (some ⟨gl, 0, none⟩) lg.length lg.length, .slice (some ⟨gs, 0, none⟩) st.length st.length, .int .i64 ro, .slice (some ⟨gv, 0, none⟩) vs.length vs.length, .slice (some ⟨gn, 0, none⟩) nx.length nx.length, .slice (some ⟨gm, 0, none⟩) mt.length mt.length, .int .i64 cm, .int .i64 el, .int .i64 wt, .bool up]) ∧ NoO w.heap.size w' (.slice (some ⟨gl, 0, none⟩) lg.length lg.length) (.slice (some ⟨gs, 0, none⟩) st.length st.length) (.slice (some ⟨gv, 0, none⟩) vs.length vs.length) (.slice (some ⟨gn, 0, none⟩) nx.length nx.length) (.slice (some ⟨gm, 0, none⟩) mt.length mt.length) lg st vs nx mt ∧ Below w.heap.size w w'
set_option maxRecDepth 100000 in
set_option maxHeartbeats 4000000 in
theorem toNode_any (id tm vo ro cm el wt : Int) (up : Bool) (lg : List En) (st vs nx mt : List Int) (la : Option Addr) (lc : Nat) (sa : Option Addr) (sc : Nat) (va : Option Addr) (vc : Nat) (na : Option Addr) (nc : Nat) (ma : Option Addr) (mc : Nat) (w : World) (h : NoR w (.slice la lg.length lc) (.slice sa st.length sc) (.slice va vs.length vc) (.slice na nx.length nc) (.slice ma mt.length mc) lg st vs nx mt) (hs : NoS lg st vs nx mt) :
    Calls Try.prog 7 #[.agg #[.int .i64 id, .int .i64 tm, .int .i64 vo, .slice la lg.length lc, .slice sa st.length sc, .int .i64 ro, .slice va vs.length vc, .slice na nx.length nc, .slice ma mt.length mc, .int .i64 cm, .int .i64 el, .int .i64 wt, .bool up]] w fun e w' => ToNR id tm vo ro cm el wt up lg st vs nx mt w e w' := by
  have Tlg := hide (fun wx (hx : Below w.heap.size w wx) => toEntryS_any _ lg wx (h.lg.below hx) hs.l0)
  have Tst := hide (fun wx (hx : Below w.heap.size w wx) => toIntS_at _ st wx (h.st.below hx) hs.l1)
  have Tvs := hide (fun wx (hx : Below w.heap.size w wx) => toIntS_at _ vs wx (h.vs.below hx) hs.l2)
  have Tnx := hide (fun wx (hx : Below w.heap.size w wx) => toIntS_at _ nx wx (h.nx.below hx) hs.l3)
  have Tmt := hide (fun wx (hx : Below w.heap.size w wx) => toIntS_at _ mt wx (h.mt.below hx) hs.l4)
  have B3 := hide ((((Below.refl w.heap.size w).alloc (Nat.le_refl _) (.cells #[.int .i64 id, .int .i64 tm, .int .i64 vo, .slice la lg.length lc, .slice sa st.length sc, .int .i64 ro, .slice va vs.length vc, .slice na nx.length nc, .slice ma mt.length mc, .int .i64 cm, .int .i64 el, .int .i64 wt, .bool up] 25)).alloc (by simp) (.cells #[.int .i64 0, .int .i64 0, .int .i64 0, .slice none 0 0, .slice none 0 0, .int .i64 0, .slice none 0 0, .slice none 0 0, .slice none 0 0, .int .i64 0, .int .i64 0, .int .i64 0, .bool false] 29)).alloc (by simp; omega) (.cells #[.int .i64 id, .int .i64 tm, .int .i64 vo, .slice none 0 0, .slice none 0 0, .int .i64 0, .slice none 0 0, .slice none 0 0, .slice none 0 0, .int .i64 0, .int .i64 0, .int .i64 0, .bool false] 29))
  have A3 := hide (((Blk.new w #[.int .i64 id, .int .i64 tm, .int .i64 vo, .slice la lg.length lc, .slice sa st.length sc, .int .i64 ro, .slice va vs.length vc, .slice na nx.length nc, .slice ma mt.length mc, .int .i64 cm, .int .i64 el, .int .i64 wt, .bool up] 25 w.heap.size rfl).alloc (.cells #[.int .i64 0, .int .i64 0, .int .i64 0, .slice none 0 0, .slice none 0 0, .int .i64 0, .slice none 0 0, .slice none 0 0, .slice none 0 0, .int .i64 0, .int .i64 0, .int .i64 0, .bool false] 29)).alloc (.cells #[.int .i64 id, .int .i64 tm, .int .i64 vo, .slice none 0 0, .slice none 0 0, .int .i64 0, .slice none 0 0, .slice none 0 0, .slice none 0 0, .int .i64 0, .int .i64 0, .int .i64 0, .bool false] 29))
  have R3 := hide ((Blk.new (w.alloc (.cells #[.int .i64 id, .int .i64 tm, .int .i64 vo, .slice la lg.length lc, .slice sa st.length sc, .int .i64 ro, .slice va vs.length vc, .slice na nx.length nc, .slice ma mt.length mc, .int .i64 cm, .int .i64 el, .int .i64 wt, .bool up] 25)) #[.int .i64 0, .int .i64 0, .int .i64 0, .slice none 0 0, .slice none 0 0, .int .i64 0, .slice none 0 0, .slice none 0 0, .slice none 0 0, .int .i64 0, .int .i64 0, .int .i64 0, .bool false] 29 (w.heap.size + 1) (by simp)).alloc (.cells #[.int .i64 id, .int .i64 tm, .int .i64 vo, .slice none 0 0, .slice none 0 0, .int .i64 0, .slice none 0 0, .slice none 0 0, .slice none 0 0, .int .i64 0, .int .i64 0, .int .i64 0, .bool false] 29))
  have O3 := hide (Blk.new ((w.alloc (.cells #[.int .i64 id, .int .i64 tm, .int .i64 vo, .slice la lg.length lc, .slice sa st.length sc, .int .i64 ro, .slice va vs.length vc, .slice na nx.length nc, .slice ma mt.length mc, .int .i64 cm, .int .i64 el, .int .i64 wt, .bool up] 25)).alloc (.cells #[.int .i64 0, .int .i64 0, .int .i64 0, .slice none 0 0, .slice none 0 0, .int .i64 0, .slice none 0 0, .slice none 0 0, .slice none 0 0, .int .i64 0, .int .i64 0, .int .i64 0, .bool false] 29)) #[.int .i64 id, .int .i64 tm, .int .i64 vo, .slice none 0 0, .slice none 0 0, .int .i64 0, .slice none 0 0, .slice none 0 0, .slice none 0 0, .int .i64 0, .int .i64 0, .int .i64 0, .bool false] 29 (w.heap.size + 1 + 1) (by simp))
  have Z3 := hide (show (((w.alloc (.cells #[.int .i64 id, .int .i64 tm, .int .i64 vo, .slice la lg.length lc, .slice sa st.length sc, .int .i64 ro, .slice va vs.length vc, .slice na nx.length nc, .slice ma mt.length mc, .int .i64 cm, .int .i64 el, .int .i64 wt, .bool up] 25)).alloc (.cells #[.int .i64 0, .int .i64 0, .int .i64 0, .slice none 0 0, .slice none 0 0, .int .i64 0, .slice none 0 0, .slice none 0 0, .slice none 0 0, .int .i64 0, .int .i64 0, .int .i64 0, .bool false] 29)).alloc (.cells #[.int .i64 id, .int .i64 tm, .int .i64 vo, .slice none 0 0, .slice none 0 0, .int .i64 0, .slice none 0 0, .slice none 0 0, .slice none 0 0, .int .i64 0, .int .i64 0, .int .i64 0, .bool false] 29)).heap.size = w.heap.size + 3 by simp)
  clear h hs
  go_enter Try.func7, Try.ntmps7
  go_wp2_with fail
  generalize ((w.alloc (.cells #[.int .i64 id, .int .i64 tm, .int .i64 vo, .slice la lg.length lc, .slice sa st.length sc, .int .i64 ro, .slice va vs.length vc, .slice na nx.length nc, .slice ma mt.length mc, .int .i64 cm, .int .i64 el, .int .i64 wt, .bool up] 25)).alloc (.cells #[.int .i64 0, .int .i64 0, .int .i64 0, .slice none 0 0, .slice none 0 0, .int .i64 0, .slice none 0 0, .slice none 0 0, .slice none 0 0, .int .i64 0, .int .i64 0, .int .i64 0, .bool false] 29)).alloc (.cells #[.int .i64 id, .int .i64 tm, .int .i64 vo, .slice none 0 0, .slice none 0 0, .int .i64 0, .slice none 0 0, .slice none 0 0, .slice none 0 0, .int .i64 0, .int .i64 0, .int .i64 0, .bool false] 29) = w3 at *
  refine (unhide Tlg w3 (unhide B3)).mono ?_
  rintro e w4 ⟨rfl, hO, hb⟩
  have hzl := unhide Z3
  generalize hgl : w3.heap.size = gl at *
  have hlt := World.ownsRow.lt hO
  have hbz : Below w3.heap.size w3 w4 := hgl ▸ hb
  have O4 := (unhide O3).below hbz
  have o3 := O4.cell 3 rfl
  have fo3 := O4.fro 3
  have A5 := (((unhide A3).below hbz).other (C := w.heap.size + 1 + 1) 3 (.slice (some ⟨gl, 0, none⟩) lg.length lg.length) (by omega))
  have R5 := (((unhide R3).below hbz).other (C := w.heap.size + 1 + 1) 3 (.slice (some ⟨gl, 0, none⟩) lg.length lg.length) (by omega))
  have O5 := (O4.set 3 (.slice (some ⟨gl, 0, none⟩) lg.length lg.length) (by simp))
  have B5 := hide (((unhide B3).trans (hb.mono (by omega))).setCell (p := ⟨w.heap.size + 1 + 1, 3, none⟩) (by simp; omega) (.slice (some ⟨gl, 0, none⟩) lg.length lg.length))
  have T5 := ((Touch.refl (fun q => q = w.heap.size + 1 + 1) w4).setCell ⟨w.heap.size + 1 + 1, 3, none⟩ (.slice (some ⟨gl, 0, none⟩) lg.length lg.length) (fun _ => rfl))
  have a4 := A5.cell 4 rfl
  have Ul := hO.kept T5 (fun q hq e => by have := (hlt q hq).1; omega)
  have Gl := hide (show w.heap.size + 1 + 1 < gl ∧ gl < ((w4.setCell ⟨w.heap.size + 1 + 1, 3, none⟩ (.slice (some ⟨gl, 0, none⟩) lg.length lg.length))).heap.size from ⟨by omega, by have := (hlt gl rfl).2; simpa using this⟩)
  have Ql := hide (show w3.heap.size = gl from hgl)
  have HA5 := hide A5
  have HR5 := hide R5
  have HO5 := hide O5
  have Nl := hide Ul
  have hsz : ((w4.setCell ⟨w.heap.size + 1 + 1, 3, none⟩ (.slice (some ⟨gl, 0, none⟩) lg.length lg.length))).heap.size = w4.heap.size := by simp
  have Z4 := hide (show w.heap.size + 3 ≤ ((w4.setCell ⟨w.heap.size + 1 + 1, 3, none⟩ (.slice (some ⟨gl, 0, none⟩) lg.length lg.length))).heap.size by rw [hsz]; have := (unhide Gl); omega)
  clear A5 R5 O5 O4 T5 hO hlt hb hbz Tlg Z3 hzl hgl Ul A3 R3 O3 B3
  go_wp2_with fail
  clear o3 fo3
  generalize (w4.setCell ⟨w.heap.size + 1 + 1, 3, none⟩ (.slice (some ⟨gl, 0, none⟩) lg.length lg.length)) = w5 at *
  have HA := hide (unhide HA5)
  clear HA5
  have HR := hide (unhide HR5)
  clear HR5
  have HO := hide (unhide HO5)
  clear HO5
  have HB := hide (unhide B5)
  clear B5
  have Ml := hide (unhide Nl)
  clear Nl
  clear hsz
  have Z5 := hide (unhide Z4)
  clear Z4
  refine (unhide Tst w5 (unhide HB)).mono ?_
  rintro e w6 ⟨rfl, hO, hb⟩
  have hzs := unhide Z5
  generalize hgs : w5.heap.size = gs at *
  have hlt := hO.lt
  have hbz : Below w5.heap.size w5 w6 := hgs ▸ hb
  have O4 := (unhide HO).below hbz
  have o4 := O4.cell 4 rfl
  have fo4 := O4.fro 4
  have o5 := O4.cell 5 rfl
  have fo5 := O4.fro 5
  have A5 := ((((unhide HA).below hbz).other (C := w.heap.size + 1 + 1) 4 (.slice (some ⟨gs, 0, none⟩) st.length st.length) (by omega)).other (C := w.heap.size + 1 + 1) 5 (.int .i64 ro) (by omega))
  have R5 := ((((unhide HR).below hbz).other (C := w.heap.size + 1 + 1) 4 (.slice (some ⟨gs, 0, none⟩) st.length st.length) (by omega)).other (C := w.heap.size + 1 + 1) 5 (.int .i64 ro) (by omega))
  have O5 := ((O4.set 4 (.slice (some ⟨gs, 0, none⟩) st.length st.length) (by simp)).set 5 (.int .i64 ro) (by simp))
  have B5 := hide ((((unhide HB).trans (hb.mono (by omega))).setCell (p := ⟨w.heap.size + 1 + 1, 4, none⟩) (by simp; omega) (.slice (some ⟨gs, 0, none⟩) st.length st.length)).setCell (p := ⟨w.heap.size + 1 + 1, 5, none⟩) (by simp; omega) (.int .i64 ro))
  have T5 := (((Touch.refl (fun q => q = w.heap.size + 1 + 1) w6).setCell ⟨w.heap.size + 1 + 1, 4, none⟩ (.slice (some ⟨gs, 0, none⟩) st.length st.length) (fun _ => rfl)).setCell ⟨w.heap.size + 1 + 1, 5, none⟩ (.int .i64 ro) (fun _ => rfl))
  have ax5 := ((unhide HA).below hbz).other (C := w.heap.size + 1 + 1) 4 (.slice (some ⟨gs, 0, none⟩) st.length st.length) (by omega)
  have a5 := ax5.cell 5 rfl
  clear ax5
  have a6 := A5.cell 6 rfl
  have Ul := ((unhide Ml).below hbz).kept T5 (fun q hq e => by have hw := (unhide Gl); simp [Value.ownBlock] at hq; omega)
  have Us := hO.kept T5 (fun q hq e => by have := (hlt q hq).1; omega)
  have Gs := hide (show w.heap.size + 1 + 1 < gs ∧ gs < (((w6.setCell ⟨w.heap.size + 1 + 1, 4, none⟩ (.slice (some ⟨gs, 0, none⟩) st.length st.length)).setCell ⟨w.heap.size + 1 + 1, 5, none⟩ (.int .i64 ro))).heap.size from ⟨by omega, by have := (hlt gs rfl).2; simpa using this⟩)
  have Qs := hide (show w5.heap.size = gs from hgs)
  have Fs := hide (show gl < gs from by have := (unhide Gl).2; omega)
  have HA5 := hide A5
  have HR5 := hide R5
  have HO5 := hide O5
  have Nl := hide Ul
  have Ns := hide Us
  have hsz : (((w6.setCell ⟨w.heap.size + 1 + 1, 4, none⟩ (.slice (some ⟨gs, 0, none⟩) st.length st.length)).setCell ⟨w.heap.size + 1 + 1, 5, none⟩ (.int .i64 ro))).heap.size = w6.heap.size := by simp
  have Z6 := hide (show w.heap.size + 3 ≤ (((w6.setCell ⟨w.heap.size + 1 + 1, 4, none⟩ (.slice (some ⟨gs, 0, none⟩) st.length st.length)).setCell ⟨w.heap.size + 1 + 1, 5, none⟩ (.int .i64 ro))).heap.size by rw [hsz]; have := (unhide Gs); omega)
  clear A5 R5 O5 O4 T5 hO hlt hb hbz Tst Z5 hzs hgs Ul Us HA HR HO HB Ml
  go_wp2_with fail
  clear o4 fo4 o5 fo5 a5
  generalize ((w6.setCell ⟨w.heap.size + 1 + 1, 4, none⟩ (.slice (some ⟨gs, 0, none⟩) st.length st.length)).setCell ⟨w.heap.size + 1 + 1, 5, none⟩ (.int .i64 ro)) = w7 at *
  have HA := hide (unhide HA5)
  clear HA5
  have HR := hide (unhide HR5)
  clear HR5
  have HO := hide (unhide HO5)
  clear HO5
  have HB := hide (unhide B5)
  clear B5
  have Ml := hide (unhide Nl)
  clear Nl
  have Ms := hide (unhide Ns)
  clear Ns
  clear hsz
  have Z7 := hide (unhide Z6)
  clear Z6
  refine (unhide Tvs w7 (unhide HB)).mono ?_
  rintro e w8 ⟨rfl, hO, hb⟩
  have hzv := unhide Z7
  generalize hgv : w7.heap.size = gv at *
  have hlt := hO.lt
  have hbz : Below w7.heap.size w7 w8 := hgv ▸ hb
  have O4 := (unhide HO).below hbz
  have o6 := O4.cell 6 rfl
  have fo6 := O4.fro 6
  have A5 := (((unhide HA).below hbz).other (C := w.heap.size + 1 + 1) 6 (.slice (some ⟨gv, 0, none⟩) vs.length vs.length) (by omega))
  have R5 := (((unhide HR).below hbz).other (C := w.heap.size + 1 + 1) 6 (.slice (some ⟨gv, 0, none⟩) vs.length vs.length) (by omega))
  have O5 := (O4.set 6 (.slice (some ⟨gv, 0, none⟩) vs.length vs.length) (by simp))
  have B5 := hide (((unhide HB).trans (hb.mono (by omega))).setCell (p := ⟨w.heap.size + 1 + 1, 6, none⟩) (by simp; omega) (.slice (some ⟨gv, 0, none⟩) vs.length vs.length))
  have T5 := ((Touch.refl (fun q => q = w.heap.size + 1 + 1) w8).setCell ⟨w.heap.size + 1 + 1, 6, none⟩ (.slice (some ⟨gv, 0, none⟩) vs.length vs.length) (fun _ => rfl))
  have a7 := A5.cell 7 rfl
  have Ul := ((unhide Ml).below hbz).kept T5 (fun q hq e => by have hw := (unhide Gl); simp [Value.ownBlock] at hq; omega)
  have Us := ((unhide Ms).below hbz).kept T5 (fun q hq e => by have hw := (unhide Gs); simp [Value.ownBlock] at hq; omega)
  have Uv := hO.kept T5 (fun q hq e => by have := (hlt q hq).1; omega)
  have Gv := hide (show w.heap.size + 1 + 1 < gv ∧ gv < ((w8.setCell ⟨w.heap.size + 1 + 1, 6, none⟩ (.slice (some ⟨gv, 0, none⟩) vs.length vs.length))).heap.size from ⟨by omega, by have := (hlt gv rfl).2; simpa using this⟩)
  have Qv := hide (show w7.heap.size = gv from hgv)
  have Fv := hide (show gs < gv from by have := (unhide Gs).2; omega)
  have HA5 := hide A5
  have HR5 := hide R5
  have HO5 := hide O5
  have Nl := hide Ul
  have Ns := hide Us
  have Nv := hide Uv
  have hsz : ((w8.setCell ⟨w.heap.size + 1 + 1, 6, none⟩ (.slice (some ⟨gv, 0, none⟩) vs.length vs.length))).heap.size = w8.heap.size := by simp
  have Z8 := hide (show w.heap.size + 3 ≤ ((w8.setCell ⟨w.heap.size + 1 + 1, 6, none⟩ (.slice (some ⟨gv, 0, none⟩) vs.length vs.length))).heap.size by rw [hsz]; have := (unhide Gv); omega)
  clear A5 R5 O5 O4 T5 hO hlt hb hbz Tvs Z7 hzv hgv Ul Us Uv HA HR HO HB Ml Ms
  go_wp2_with fail
  clear o6 fo6
  generalize (w8.setCell ⟨w.heap.size + 1 + 1, 6, none⟩ (.slice (some ⟨gv, 0, none⟩) vs.length vs.length)) = w9 at *
  have HA := hide (unhide HA5)
  clear HA5
  have HR := hide (unhide HR5)
  clear HR5
  have HO := hide (unhide HO5)
  clear HO5
  have HB := hide (unhide B5)
  clear B5
  have Ml := hide (unhide Nl)
  clear Nl
  have Ms := hide (unhide Ns)
  clear Ns
  have Mv := hide (unhide Nv)
  clear Nv
  clear hsz
  have Z9 := hide (unhide Z8)
  clear Z8
  refine (unhide Tnx w9 (unhide HB)).mono ?_
  rintro e w10 ⟨rfl, hO, hb⟩
  have hzn := unhide Z9
  generalize hgn : w9.heap.size = gn at *
  have hlt := hO.lt
  have hbz : Below w9.heap.size w9 w10 := hgn ▸ hb
  have O4 := (unhide HO).below hbz
  have o7 := O4.cell 7 rfl
  have fo7 := O4.fro 7
  have A5 := (((unhide HA).below hbz).other (C := w.heap.size + 1 + 1) 7 (.slice (some ⟨gn, 0, none⟩) nx.length nx.length) (by omega))
  have R5 := (((unhide HR).below hbz).other (C := w.heap.size + 1 + 1) 7 (.slice (some ⟨gn, 0, none⟩) nx.length nx.length) (by omega))
  have O5 := (O4.set 7 (.slice (some ⟨gn, 0, none⟩) nx.length nx.length) (by simp))
  have B5 := hide (((unhide HB).trans (hb.mono (by omega))).setCell (p := ⟨w.heap.size + 1 + 1, 7, none⟩) (by simp; omega) (.slice (some ⟨gn, 0, none⟩) nx.length nx.length))
  have T5 := ((Touch.refl (fun q => q = w.heap.size + 1 + 1) w10).setCell ⟨w.heap.size + 1 + 1, 7, none⟩ (.slice (some ⟨gn, 0, none⟩) nx.length nx.length) (fun _ => rfl))
  have a8 := A5.cell 8 rfl
  have Ul := ((unhide Ml).below hbz).kept T5 (fun q hq e => by have hw := (unhide Gl); simp [Value.ownBlock] at hq; omega)
  have Us := ((unhide Ms).below hbz).kept T5 (fun q hq e => by have hw := (unhide Gs); simp [Value.ownBlock] at hq; omega)
  have Uv := ((unhide Mv).below hbz).kept T5 (fun q hq e => by have hw := (unhide Gv); simp [Value.ownBlock] at hq; omega)
  have Un := hO.kept T5 (fun q hq e => by have := (hlt q hq).1; omega)
  have Gn := hide (show w.heap.size + 1 + 1 < gn ∧ gn < ((w10.setCell ⟨w.heap.size + 1 + 1, 7, none⟩ (.slice (some ⟨gn, 0, none⟩) nx.length nx.length))).heap.size from ⟨by omega, by have := (hlt gn rfl).2; simpa using this⟩)
  have Qn := hide (show w9.heap.size = gn from hgn)
  have Fn := hide (show gv < gn from by have := (unhide Gv).2; omega)
  have HA5 := hide A5
  have HR5 := hide R5
  have HO5 := hide O5
  have Nl := hide Ul
  have Ns := hide Us
  have Nv := hide Uv
  have Nn := hide Un
  have hsz : ((w10.setCell ⟨w.heap.size + 1 + 1, 7, none⟩ (.slice (some ⟨gn, 0, none⟩) nx.length nx.length))).heap.size = w10.heap.size := by simp
  have Z10 := hide (show w.heap.size + 3 ≤ ((w10.setCell ⟨w.heap.size + 1 + 1, 7, none⟩ (.slice (some ⟨gn, 0, none⟩) nx.length nx.length))).heap.size by rw [hsz]; have := (unhide Gn); omega)
  clear A5 R5 O5 O4 T5 hO hlt hb hbz Tnx Z9 hzn hgn Ul Us Uv Un HA HR HO HB Ml Ms Mv
  go_wp2_with fail
  clear o7 fo7
  generalize (w10.setCell ⟨w.heap.size + 1 + 1, 7, none⟩ (.slice (some ⟨gn, 0, none⟩) nx.length nx.length)) = w11 at *
  have HA := hide (unhide HA5)
  clear HA5
  have HR := hide (unhide HR5)
  clear HR5
  have HO := hide (unhide HO5)
  clear HO5
  have HB := hide (unhide B5)
  clear B5
  have Ml := hide (unhide Nl)
  clear Nl
  have Ms := hide (unhide Ns)
  clear Ns
  have Mv := hide (unhide Nv)
  clear Nv
  have Mn := hide (unhide Nn)
  clear Nn
  clear hsz
  have Z11 := hide (unhide Z10)
  clear Z10
  refine (unhide Tmt w11 (unhide HB)).mono ?_
  rintro e w12 ⟨rfl, hO, hb⟩
  have hzm := unhide Z11
  generalize hgm : w11.heap.size = gm at *
  have hlt := hO.lt
  have hbz : Below w11.heap.size w11 w12 := hgm ▸ hb
  have O4 := (unhide HO).below hbz
  have o8 := O4.cell 8 rfl
  have fo8 := O4.fro 8
  have o9 := O4.cell 9 rfl
  have fo9 := O4.fro 9
  have o10 := O4.cell 10 rfl
  have fo10 := O4.fro 10
  have o11 := O4.cell 11 rfl
  have fo11 := O4.fro 11
  have o12 := O4.cell 12 rfl
  have fo12 := O4.fro 12
  have A5 := (((((((unhide HA).below hbz).other (C := w.heap.size + 1 + 1) 8 (.slice (some ⟨gm, 0, none⟩) mt.length mt.length) (by omega)).other (C := w.heap.size + 1 + 1) 9 (.int .i64 cm) (by omega)).other (C := w.heap.size + 1 + 1) 10 (.int .i64 el) (by omega)).other (C := w.heap.size + 1 + 1) 11 (.int .i64 wt) (by omega)).other (C := w.heap.size + 1 + 1) 12 (.bool up) (by omega))
  have R5 := (((((((unhide HR).below hbz).other (C := w.heap.size + 1 + 1) 8 (.slice (some ⟨gm, 0, none⟩) mt.length mt.length) (by omega)).other (C := w.heap.size + 1 + 1) 9 (.int .i64 cm) (by omega)).other (C := w.heap.size + 1 + 1) 10 (.int .i64 el) (by omega)).other (C := w.heap.size + 1 + 1) 11 (.int .i64 wt) (by omega)).other (C := w.heap.size + 1 + 1) 12 (.bool up) (by omega))
  have O5 := (((((O4.set 8 (.slice (some ⟨gm, 0, none⟩) mt.length mt.length) (by simp)).set 9 (.int .i64 cm) (by simp)).set 10 (.int .i64 el) (by simp)).set 11 (.int .i64 wt) (by simp)).set 12 (.bool up) (by simp))
  have B5 := hide (((((((unhide HB).trans (hb.mono (by omega))).setCell (p := ⟨w.heap.size + 1 + 1, 8, none⟩) (by simp; omega) (.slice (some ⟨gm, 0, none⟩) mt.length mt.length)).setCell (p := ⟨w.heap.size + 1 + 1, 9, none⟩) (by simp; omega) (.int .i64 cm)).setCell (p := ⟨w.heap.size + 1 + 1, 10, none⟩) (by simp; omega) (.int .i64 el)).setCell (p := ⟨w.heap.size + 1 + 1, 11, none⟩) (by simp; omega) (.int .i64 wt)).setCell (p := ⟨w.heap.size + 1 + 1, 12, none⟩) (by simp; omega) (.bool up))
  have T5 := ((((((Touch.refl (fun q => q = w.heap.size + 1 + 1) w12).setCell ⟨w.heap.size + 1 + 1, 8, none⟩ (.slice (some ⟨gm, 0, none⟩) mt.length mt.length) (fun _ => rfl)).setCell ⟨w.heap.size + 1 + 1, 9, none⟩ (.int .i64 cm) (fun _ => rfl)).setCell ⟨w.heap.size + 1 + 1, 10, none⟩ (.int .i64 el) (fun _ => rfl)).setCell ⟨w.heap.size + 1 + 1, 11, none⟩ (.int .i64 wt) (fun _ => rfl)).setCell ⟨w.heap.size + 1 + 1, 12, none⟩ (.bool up) (fun _ => rfl))
  have a9 := (((unhide HA).below hbz).other (C := w.heap.size + 1 + 1) 8 (.slice (some ⟨gm, 0, none⟩) mt.length mt.length) (by omega)).cell 9 rfl
  have a10 := ((((unhide HA).below hbz).other (C := w.heap.size + 1 + 1) 8 (.slice (some ⟨gm, 0, none⟩) mt.length mt.length) (by omega)).other (C := w.heap.size + 1 + 1) 9 (.int .i64 cm) (by omega)).cell 10 rfl
  have a11 := (((((unhide HA).below hbz).other (C := w.heap.size + 1 + 1) 8 (.slice (some ⟨gm, 0, none⟩) mt.length mt.length) (by omega)).other (C := w.heap.size + 1 + 1) 9 (.int .i64 cm) (by omega)).other (C := w.heap.size + 1 + 1) 10 (.int .i64 el) (by omega)).cell 11 rfl
  have a12 := ((((((unhide HA).below hbz).other (C := w.heap.size + 1 + 1) 8 (.slice (some ⟨gm, 0, none⟩) mt.length mt.length) (by omega)).other (C := w.heap.size + 1 + 1) 9 (.int .i64 cm) (by omega)).other (C := w.heap.size + 1 + 1) 10 (.int .i64 el) (by omega)).other (C := w.heap.size + 1 + 1) 11 (.int .i64 wt) (by omega)).cell 12 rfl
  have Ul := ((unhide Ml).below hbz).kept T5 (fun q hq e => by have hw := (unhide Gl); simp [Value.ownBlock] at hq; omega)
  have Us := ((unhide Ms).below hbz).kept T5 (fun q hq e => by have hw := (unhide Gs); simp [Value.ownBlock] at hq; omega)
  have Uv := ((unhide Mv).below hbz).kept T5 (fun q hq e => by have hw := (unhide Gv); simp [Value.ownBlock] at hq; omega)
  have Un := ((unhide Mn).below hbz).kept T5 (fun q hq e => by have hw := (unhide Gn); simp [Value.ownBlock] at hq; omega)
  have Um := hO.kept T5 (fun q hq e => by have := (hlt q hq).1; omega)
  have Gm := hide (show w.heap.size + 1 + 1 < gm ∧ gm < ((((((w12.setCell ⟨w.heap.size + 1 + 1, 8, none⟩ (.slice (some ⟨gm, 0, none⟩) mt.length mt.length)).setCell ⟨w.heap.size + 1 + 1, 9, none⟩ (.int .i64 cm)).setCell ⟨w.heap.size + 1 + 1, 10, none⟩ (.int .i64 el)).setCell ⟨w.heap.size + 1 + 1, 11, none⟩ (.int .i64 wt)).setCell ⟨w.heap.size + 1 + 1, 12, none⟩ (.bool up))).heap.size from ⟨by omega, by have := (hlt gm rfl).2; simpa using this⟩)
  have Qm := hide (show w11.heap.size = gm from hgm)
  have Fm := hide (show gn < gm from by have := (unhide Gn).2; omega)
  have o50 := O5.cell 0 rfl
  have o51 := O5.cell 1 rfl
  have o52 := O5.cell 2 rfl
  have o53 := O5.cell 3 rfl
  have o54 := O5.cell 4 rfl
  have o55 := O5.cell 5 rfl
  have o56 := O5.cell 6 rfl
  have o57 := O5.cell 7 rfl
  have o58 := O5.cell 8 rfl
  have o59 := O5.cell 9 rfl
  have o510 := O5.cell 10 rfl
  have o511 := O5.cell 11 rfl
  have o512 := O5.cell 12 rfl
  have r50 := R5.cell 0 rfl
  have fr0 := R5.fro 0
  have r51 := R5.cell 1 rfl
  have fr1 := R5.fro 1
  have r52 := R5.cell 2 rfl
  have fr2 := R5.fro 2
  have r53 := R5.cell 3 rfl
  have fr3 := R5.fro 3
  have r54 := R5.cell 4 rfl
  have fr4 := R5.fro 4
  have r55 := R5.cell 5 rfl
  have fr5 := R5.fro 5
  have r56 := R5.cell 6 rfl
  have fr6 := R5.fro 6
  have r57 := R5.cell 7 rfl
  have fr7 := R5.fro 7
  have r58 := R5.cell 8 rfl
  have fr8 := R5.fro 8
  have r59 := R5.cell 9 rfl
  have fr9 := R5.fro 9
  have r510 := R5.cell 10 rfl
  have fr10 := R5.fro 10
  have r511 := R5.cell 11 rfl
  have fr11 := R5.fro 11
  have r512 := R5.cell 12 rfl
  have fr12 := R5.fro 12
  have R9 := (((((((((((((R5.set 0 (.int .i64 id) (by simp)).set 1 (.int .i64 tm) (by simp)).set 2 (.int .i64 vo) (by simp)).set 3 ((.slice (some ⟨gl, 0, none⟩) lg.length lg.length)) (by simp)).set 4 ((.slice (some ⟨gs, 0, none⟩) st.length st.length)) (by simp)).set 5 (.int .i64 ro) (by simp)).set 6 ((.slice (some ⟨gv, 0, none⟩) vs.length vs.length)) (by simp)).set 7 ((.slice (some ⟨gn, 0, none⟩) nx.length nx.length)) (by simp)).set 8 ((.slice (some ⟨gm, 0, none⟩) mt.length mt.length)) (by simp)).set 9 (.int .i64 cm) (by simp)).set 10 (.int .i64 el) (by simp)).set 11 (.int .i64 wt) (by simp)).set 12 (.bool up) (by simp))
  have B9 := hide ((((((((((((((unhide B5).setCell (p := ⟨w.heap.size + 1, 0, none⟩) (by simp) (.int .i64 id)).setCell (p := ⟨w.heap.size + 1, 1, none⟩) (by simp) (.int .i64 tm)).setCell (p := ⟨w.heap.size + 1, 2, none⟩) (by simp) (.int .i64 vo)).setCell (p := ⟨w.heap.size + 1, 3, none⟩) (by simp) ((.slice (some ⟨gl, 0, none⟩) lg.length lg.length))).setCell (p := ⟨w.heap.size + 1, 4, none⟩) (by simp) ((.slice (some ⟨gs, 0, none⟩) st.length st.length))).setCell (p := ⟨w.heap.size + 1, 5, none⟩) (by simp) (.int .i64 ro)).setCell (p := ⟨w.heap.size + 1, 6, none⟩) (by simp) ((.slice (some ⟨gv, 0, none⟩) vs.length vs.length))).setCell (p := ⟨w.heap.size + 1, 7, none⟩) (by simp) ((.slice (some ⟨gn, 0, none⟩) nx.length nx.length))).setCell (p := ⟨w.heap.size + 1, 8, none⟩) (by simp) ((.slice (some ⟨gm, 0, none⟩) mt.length mt.length))).setCell (p := ⟨w.heap.size + 1, 9, none⟩) (by simp) (.int .i64 cm)).setCell (p := ⟨w.heap.size + 1, 10, none⟩) (by simp) (.int .i64 el)).setCell (p := ⟨w.heap.size + 1, 11, none⟩) (by simp) (.int .i64 wt)).setCell (p := ⟨w.heap.size + 1, 12, none⟩) (by simp) (.bool up))
  have T9 := ((((((((((((((Touch.refl (fun q => q = w.heap.size + 1) ((((((w12.setCell ⟨w.heap.size + 1 + 1, 8, none⟩ (.slice (some ⟨gm, 0, none⟩) mt.length mt.length)).setCell ⟨w.heap.size + 1 + 1, 9, none⟩ (.int .i64 cm)).setCell ⟨w.heap.size + 1 + 1, 10, none⟩ (.int .i64 el)).setCell ⟨w.heap.size + 1 + 1, 11, none⟩ (.int .i64 wt)).setCell ⟨w.heap.size + 1 + 1, 12, none⟩ (.bool up)))).setCell ⟨w.heap.size + 1, 0, none⟩ (.int .i64 id) (fun _ => rfl)).setCell ⟨w.heap.size + 1, 1, none⟩ (.int .i64 tm) (fun _ => rfl)).setCell ⟨w.heap.size + 1, 2, none⟩ (.int .i64 vo) (fun _ => rfl)).setCell ⟨w.heap.size + 1, 3, none⟩ ((.slice (some ⟨gl, 0, none⟩) lg.length lg.length)) (fun _ => rfl)).setCell ⟨w.heap.size + 1, 4, none⟩ ((.slice (some ⟨gs, 0, none⟩) st.length st.length)) (fun _ => rfl)).setCell ⟨w.heap.size + 1, 5, none⟩ (.int .i64 ro) (fun _ => rfl)).setCell ⟨w.heap.size + 1, 6, none⟩ ((.slice (some ⟨gv, 0, none⟩) vs.length vs.length)) (fun _ => rfl)).setCell ⟨w.heap.size + 1, 7, none⟩ ((.slice (some ⟨gn, 0, none⟩) nx.length nx.length)) (fun _ => rfl)).setCell ⟨w.heap.size + 1, 8, none⟩ ((.slice (some ⟨gm, 0, none⟩) mt.length mt.length)) (fun _ => rfl)).setCell ⟨w.heap.size + 1, 9, none⟩ (.int .i64 cm) (fun _ => rfl)).setCell ⟨w.heap.size + 1, 10, none⟩ (.int .i64 el) (fun _ => rfl)).setCell ⟨w.heap.size + 1, 11, none⟩ (.int .i64 wt) (fun _ => rfl)).setCell ⟨w.heap.size + 1, 12, none⟩ (.bool up) (fun _ => rfl))
  have Vl := Ul.kept T9 (fun q hq e => by have hw := (unhide Gl); simp [Value.ownBlock] at hq; omega)
  have Vs := Us.kept T9 (fun q hq e => by have hw := (unhide Gs); simp [Value.ownBlock] at hq; omega)
  have Vv := Uv.kept T9 (fun q hq e => by have hw := (unhide Gv); simp [Value.ownBlock] at hq; omega)
  have Vn := Un.kept T9 (fun q hq e => by have hw := (unhide Gn); simp [Value.ownBlock] at hq; omega)
  have Vm := Um.kept T9 (fun q hq e => by have hw := (unhide Gm); simp [Value.ownBlock] at hq; omega)
  have F9 := hide (And.intro Vl (And.intro Vs (And.intro Vv (And.intro Vn Vm))))
  have z0 := R9.cell 0 rfl
  have z1 := R9.cell 1 rfl
  have z2 := R9.cell 2 rfl
  have z3 := R9.cell 3 rfl
  have z4 := R9.cell 4 rfl
  have z5 := R9.cell 5 rfl
  have z6 := R9.cell 6 rfl
  have z7 := R9.cell 7 rfl
  have z8 := R9.cell 8 rfl
  have z9 := R9.cell 9 rfl
  have z10 := R9.cell 10 rfl
  have z11 := R9.cell 11 rfl
  have z12 := R9.cell 12 rfl
  have FF := hide (And.intro (unhide Fs) (And.intro (unhide Fv) (And.intro (unhide Fn) (unhide Fm))))
  have GG := hide (And.intro (unhide Gl).1 (And.intro (unhide Gs).1 (And.intro (unhide Gv).1 (And.intro (unhide Gn).1 (unhide Gm).1))))
  clear A5 R5 O5 O4 T5 T9 R9 hO hlt hb hbz Ul Us Uv Un Um Vl Vs Vv Vn Vm HA HR HO HB Tmt Ml Ms Mv Mn B5 Gl Gs Gv Gn Gm Fs Fv Fn Fm
  clear hgm Ql Qs Qv Qn Qm
  go_wp2_with fail
  refine bodyPost_ret (v := .agg #[.int .i64 id, .int .i64 tm, .int .i64 vo, .slice (some ⟨gl, 0, none⟩) lg.length lg.length, .slice (some ⟨gs, 0, none⟩) st.length st.length, .int .i64 ro, .slice (some ⟨gv, 0, none⟩) vs.length vs.length, .slice (some ⟨gn, 0, none⟩) nx.length nx.length, .slice (some ⟨gm, 0, none⟩) mt.length mt.length, .int .i64 cm, .int .i64 el, .int .i64 wt, .bool up]) (by simp [results, Try.results7, go_sem, z0, z1, z2, z3, z4, z5, z6, z7, z8, z9, z10, z11, z12]) rfl ?_
  refine ⟨gl, gs, gv, gn, gm, rfl, ⟨?_, ?_, ?_, ?_, ?_, ?_⟩, unhide B9⟩
  · exact World.ownsRow_monoE (unhide F9).1 (by have := (unhide GG).1; omega)
  · exact (unhide F9).2.1.mono (by have := (unhide GG).2.1; omega)
  · exact (unhide F9).2.2.1.mono (by have := (unhide GG).2.2.1; omega)
  · exact (unhide F9).2.2.2.1.mono (by have := (unhide GG).2.2.2.1; omega)
  · exact (unhide F9).2.2.2.2.mono (by have := (unhide GG).2.2.2.2; omega)
  · have f := unhide FF
    simp [Apart, Value.ownBlock]
    omega
end Go.Proofs.Ytglkgmijcefjkaa
namespace Go.Proofs.Ytglkgmijcefjkaa
open Go.ChangeShapes Go.WideShapes Go.ChangeAt Go.RowKit Go.Deep
set_option linter.unusedVariables false
set_option maxRecDepth 100000 in
set_option maxHeartbeats 2000000 in
theorem eqNode_any (id tm vo ro cm el wt : Int) (up : Bool) (lg : List En) (st vs nx mt : List Int) (la : Option Addr) (lc : Nat) (sa : Option Addr) (sc : Nat) (va : Option Addr) (vc : Nat) (na : Option Addr) (nc : Nat) (ma : Option Addr) (mc : Nat) (la2 : Option Addr) (lc2 : Nat) (sa2 : Option Addr) (sc2 : Nat) (va2 : Option Addr) (vc2 : Nat) (na2 : Option Addr) (nc2 : Nat) (ma2 : Option Addr) (mc2 : Nat) (w : World) (h : NoR w (.slice la lg.length lc) (.slice sa st.length sc) (.slice va vs.length vc) (.slice na nx.length nc) (.slice ma mt.length mc) lg st vs nx mt) (h' : NoR w (.slice la2 lg.length lc2) (.slice sa2 st.length sc2) (.slice va2 vs.length vc2) (.slice na2 nx.length nc2) (.slice ma2 mt.length mc2) lg st vs nx mt) (hs : NoS lg st vs nx mt) :
    Calls Try.prog 9 #[.agg #[.int .i64 id, .int .i64 tm, .int .i64 vo, .slice la lg.length lc, .slice sa st.length sc, .int .i64 ro, .slice va vs.length vc, .slice na nx.length nc, .slice ma mt.length mc, .int .i64 cm, .int .i64 el, .int .i64 wt, .bool up], .agg #[.int .i64 id, .int .i64 tm, .int .i64 vo, .slice la2 lg.length lc2, .slice sa2 st.length sc2, .int .i64 ro, .slice va2 vs.length vc2, .slice na2 nx.length nc2, .slice ma2 mt.length mc2, .int .i64 cm, .int .i64 el, .int .i64 wt, .bool up]] w fun e w' => e = .returned (.bool true) ∧ Below w.heap.size w w' := by
  have Elg := hide (fun wx (hx : Below w.heap.size w wx) => eqEntryS_any _ _ lg wx (h.lg.below hx) (h'.lg.below hx) hs.l0)
  have Est := hide (fun wx (hx : Below w.heap.size w wx) => eqIntS_any _ _ st wx (h.st.below hx) (h'.st.below hx) hs.l1)
  have Evs := hide (fun wx (hx : Below w.heap.size w wx) => eqIntS_any _ _ vs wx (h.vs.below hx) (h'.vs.below hx) hs.l2)
  have Enx := hide (fun wx (hx : Below w.heap.size w wx) => eqIntS_any _ _ nx wx (h.nx.below hx) (h'.nx.below hx) hs.l3)
  have Emt := hide (fun wx (hx : Below w.heap.size w wx) => eqIntS_any _ _ mt wx (h.mt.below hx) (h'.mt.below hx) hs.l4)
  have B0 := hide (((Below.refl w.heap.size w).alloc (Nat.le_refl _) (.cells #[.int .i64 id, .int .i64 tm, .int .i64 vo, .slice la lg.length lc, .slice sa st.length sc, .int .i64 ro, .slice va vs.length vc, .slice na nx.length nc, .slice ma mt.length mc, .int .i64 cm, .int .i64 el, .int .i64 wt, .bool up] 29)).alloc (by simp) (.cells #[.int .i64 id, .int .i64 tm, .int .i64 vo, .slice la2 lg.length lc2, .slice sa2 st.length sc2, .int .i64 ro, .slice va2 vs.length vc2, .slice na2 nx.length nc2, .slice ma2 mt.length mc2, .int .i64 cm, .int .i64 el, .int .i64 wt, .bool up] 29))
  have X0 := hide ((Blk.new w #[.int .i64 id, .int .i64 tm, .int .i64 vo, .slice la lg.length lc, .slice sa st.length sc, .int .i64 ro, .slice va vs.length vc, .slice na nx.length nc, .slice ma mt.length mc, .int .i64 cm, .int .i64 el, .int .i64 wt, .bool up] 29 w.heap.size rfl).alloc (.cells #[.int .i64 id, .int .i64 tm, .int .i64 vo, .slice la2 lg.length lc2, .slice sa2 st.length sc2, .int .i64 ro, .slice va2 vs.length vc2, .slice na2 nx.length nc2, .slice ma2 mt.length mc2, .int .i64 cm, .int .i64 el, .int .i64 wt, .bool up] 29))
  have Y0 := hide (Blk.new (w.alloc (.cells #[.int .i64 id, .int .i64 tm, .int .i64 vo, .slice la lg.length lc, .slice sa st.length sc, .int .i64 ro, .slice va vs.length vc, .slice na nx.length nc, .slice ma mt.length mc, .int .i64 cm, .int .i64 el, .int .i64 wt, .bool up] 29)) #[.int .i64 id, .int .i64 tm, .int .i64 vo, .slice la2 lg.length lc2, .slice sa2 st.length sc2, .int .i64 ro, .slice va2 vs.length vc2, .slice na2 nx.length nc2, .slice ma2 mt.length mc2, .int .i64 cm, .int .i64 el, .int .i64 wt, .bool up] 29 (w.heap.size + 1) (by simp))
  clear h h' hs
  go_enter Try.func9, Try.ntmps9
  go_wp2_with fail
  generalize (w.alloc (.cells #[.int .i64 id, .int .i64 tm, .int .i64 vo, .slice la lg.length lc, .slice sa st.length sc, .int .i64 ro, .slice va vs.length vc, .slice na nx.length nc, .slice ma mt.length mc, .int .i64 cm, .int .i64 el, .int .i64 wt, .bool up] 29)).alloc (.cells #[.int .i64 id, .int .i64 tm, .int .i64 vo, .slice la2 lg.length lc2, .slice sa2 st.length sc2, .int .i64 ro, .slice va2 vs.length vc2, .slice na2 nx.length nc2, .slice ma2 mt.length mc2, .int .i64 cm, .int .i64 el, .int .i64 wt, .bool up] 29) = w0 at *
  refine (unhide Elg w0 (unhide B0)).mono ?_
  rintro e w1 ⟨rfl, hb⟩
  have K1 := hide ((unhide B0).trans (hb.mono (unhide B0).size))
  have X1 := (unhide X0).below hb
  have Y1 := (unhide Y0).below hb
  have x4 := X1.cell 4 rfl
  have y4 := Y1.cell 4 rfl
  have HX1 := hide X1
  have HY1 := hide Y1
  clear hb X1 Y1 B0 X0 Y0 Elg
  go_wp2_with fail
  refine (unhide Est w1 (unhide K1)).mono ?_
  rintro e w2 ⟨rfl, n1, hn⟩
  have hb : Below w1.heap.size w1 w2 := by rw [hn]; exact below_drewN (Below.refl _ _) n1
  clear hn
  have K2 := hide ((unhide K1).trans (hb.mono (unhide K1).size))
  have X1 := (unhide HX1).below hb
  have Y1 := (unhide HY1).below hb
  clear x4 y4
  have x5 := X1.cell 5 rfl
  have y5 := Y1.cell 5 rfl
  have x6 := X1.cell 6 rfl
  have y6 := Y1.cell 6 rfl
  have HX2 := hide X1
  have HY2 := hide Y1
  clear hb X1 Y1 K1 HX1 HY1 Est
  go_wp2_with fail
  refine (unhide Evs w2 (unhide K2)).mono ?_
  rintro e w3 ⟨rfl, n2, hn⟩
  have hb : Below w2.heap.size w2 w3 := by rw [hn]; exact below_drewN (Below.refl _ _) n2
  clear hn
  have K3 := hide ((unhide K2).trans (hb.mono (unhide K2).size))
  have X1 := (unhide HX2).below hb
  have Y1 := (unhide HY2).below hb
  clear x5 y5 x6 y6
  have x7 := X1.cell 7 rfl
  have y7 := Y1.cell 7 rfl
  have HX3 := hide X1
  have HY3 := hide Y1
  clear hb X1 Y1 K2 HX2 HY2 Evs
  go_wp2_with fail
  refine (unhide Enx w3 (unhide K3)).mono ?_
  rintro e w4 ⟨rfl, n3, hn⟩
  have hb : Below w3.heap.size w3 w4 := by rw [hn]; exact below_drewN (Below.refl _ _) n3
  clear hn
  have K4 := hide ((unhide K3).trans (hb.mono (unhide K3).size))
  have X1 := (unhide HX3).below hb
  have Y1 := (unhide HY3).below hb
  clear x7 y7
  have x8 := X1.cell 8 rfl
  have y8 := Y1.cell 8 rfl
  have HX4 := hide X1
  have HY4 := hide Y1
  clear hb X1 Y1 K3 HX3 HY3 Enx
  go_wp2_with fail
  refine (unhide Emt w4 (unhide K4)).mono ?_
  rintro e w5 ⟨rfl, n4, hn⟩
  have hb : Below w4.heap.size w4 w5 := by rw [hn]; exact below_drewN (Below.refl _ _) n4
  clear hn
  have K5 := hide ((unhide K4).trans (hb.mono (unhide K4).size))
  have X1 := (unhide HX4).below hb
  have Y1 := (unhide HY4).below hb
  clear x8 y8
  have x9 := X1.cell 9 rfl
  have y9 := Y1.cell 9 rfl
  have x10 := X1.cell 10 rfl
  have y10 := Y1.cell 10 rfl
  have x11 := X1.cell 11 rfl
  have y11 := Y1.cell 11 rfl
  have x12 := X1.cell 12 rfl
  have y12 := Y1.cell 12 rfl
  have HX5 := hide X1
  have HY5 := hide Y1
  clear hb X1 Y1 K4 HX4 HY4 Emt
  go_wp2_with fail
  go_ret
  exact ⟨rfl, unhide K5⟩
theorem array13s {c : Array Value} (h : c.size = 13) : ∃ a0 a1 a2 a3 a4 a5 a6 a7 a8 a9 a10 a11 a12, c = #[a0, a1, a2, a3, a4, a5, a6, a7, a8, a9, a10, a11, a12] := by
  match c, h with
  | ⟨[a0, a1, a2, a3, a4, a5, a6, a7, a8, a9, a10, a11, a12]⟩, _ => exact ⟨a0, a1, a2, a3, a4, a5, a6, a7, a8, a9, a10, a11, a12, rfl⟩
set_option maxRecDepth 100000 in
/-- A list of numbers within a struct that came in, opened. -/
theorem open_intsAt {H : Type} {enc : TypeId × Value → H} {W : World} {base : Nat} {sp : Nat → Bool} {held : Bool} {fuel : Nat} {c0 : Value} {x : DataW H × List MemPlace}
    (hf : DataW.trod enc Try.prog W base sp held fuel 23 [c0] = some x) : ∃ l : List Int, Ints W c0 l := by
  rcases open_ints Try.underlying23 Try.underlying3 (by kernel_rfl) hf with ⟨hcs, _⟩ | ⟨x, len0, cap0, zs, hcs, _, hl, hm, hz, _, hcell, hwz⟩
  · simp only [List.cons.injEq, and_true] at hcs
    subst hcs
    exact ⟨[], ⟨none, 0, rfl, by unfold maxLen; simp, .inl rfl⟩⟩
  · simp only [List.cons.injEq, and_true] at hcs
    subst hcs
    have hlz : len0 ≤ zs.length := by rw [hz]; split <;> omega
    have hlen : (zs.take len0).length = len0 := by rw [List.length_take]; omega
    have hget : ∀ i, i < len0 → (zs.take len0).getD i 0 = zs.getD i 0 := fun i hi => by
      simp [List.getD_eq_getElem?_getD, hi]
    refine ⟨zs.take len0, ⟨some x, cap0, by rw [hlen], by rw [hlen]; omega, ?_⟩⟩
    by_cases h0 : len0 = 0
    · exact .inl (by rw [hlen]; exact h0)
    · obtain ⟨b, off, spot⟩ := x
      have hc := hcell 0 (by omega)
      have hspot : spot = none := by simpa [Addr.add] using World.cell?_spot hc
      subst hspot
      have hblk := World.block_lt_of_cell? W _ hc
      have e0 : ∀ i, (⟨b, off, none⟩ : Addr).add i = ⟨b, off + i, none⟩ := fun i => by unfold Addr.add; split <;> simp_all
      rw [e0] at hblk
      refine .inr ⟨b, off, rfl, hblk, fun i hi => ?_⟩
      rw [hlen] at hi
      rw [hget i hi, ← e0, hcell i (by omega)]
set_option maxRecDepth 100000 in
theorem open_node {H : Type} {enc : TypeId × Value → H} {W : World} {base b0 : Nat} {r : Reach} {sp : Nat → Bool} {held : Bool} {v : Value} {d : DataW H} {p : List MemPlace}
    (hv : Value.okWide Try.prog W r b0 25 v) (h : DataW.Trod enc Try.prog W base sp held 25 v d p) :
    ∃ (id tm vo ro cm el wt : Int) (up : Bool) (lv sv vv nv mv : Value) (lg : List En) (st vs nx mt : List Int), v = .agg #[.int .i64 id, .int .i64 tm, .int .i64 vo, lv, sv, .int .i64 ro, vv, nv, mv, .int .i64 cm, .int .i64 el, .int .i64 wt, .bool up] ∧ NoR W lv sv vv nv mv lg st vs nx mt ∧ (∀ i, i < lg.length → (lg.getD i default).d.size ≤ maxLen) := by
  obtain ⟨cs, rfl, hsz⟩ := okWide_struct Try.underlying25 hv
  have hC : Try.prog.cellsOf 25 = 13 := by kernel_rfl
  obtain ⟨c0, c1, c2, c3, c4, c5, c6, c7, c8, c9, c10, c11, c12, rfl⟩ := array13s (hsz.trans hC)
  obtain ⟨fuel, hf⟩ := h
  obtain ⟨xs, n, _, _, _, hlen, hfl⟩ := DataW.trod_struct Try.underlying25 hf
  have i3 : Try.prog.cellsOf 3 = 1 := by kernel_rfl
  have i4 : Try.prog.cellsOf 4 = 1 := by kernel_rfl
  have iI : Try.prog.cellsOf 23 = 1 := by kernel_rfl
  have iE : Try.prog.cellsOf 22 = 1 := by kernel_rfl
  obtain ⟨y0, e0⟩ := get_some hlen (show 0 < 13 by omega)
  obtain ⟨y1, e1⟩ := get_some hlen (show 1 < 13 by omega)
  obtain ⟨y2, e2⟩ := get_some hlen (show 2 < 13 by omega)
  obtain ⟨y3, e3⟩ := get_some hlen (show 3 < 13 by omega)
  obtain ⟨y4, e4⟩ := get_some hlen (show 4 < 13 by omega)
  obtain ⟨y5, e5⟩ := get_some hlen (show 5 < 13 by omega)
  obtain ⟨y6, e6⟩ := get_some hlen (show 6 < 13 by omega)
  obtain ⟨y7, e7⟩ := get_some hlen (show 7 < 13 by omega)
  obtain ⟨y8, e8⟩ := get_some hlen (show 8 < 13 by omega)
  obtain ⟨y9, e9⟩ := get_some hlen (show 9 < 13 by omega)
  obtain ⟨y10, e10⟩ := get_some hlen (show 10 < 13 by omega)
  obtain ⟨y11, e11⟩ := get_some hlen (show 11 < 13 by omega)
  obtain ⟨y12, e12⟩ := get_some hlen (show 12 < 13 by omega)
  have g0 : DataW.trod enc Try.prog W base sp held n 3 [c0] = some y0 := by simpa [Value.cells, i3, i4, iI, iE] using (hfl 0 _ rfl).trans e0
  have g1 : DataW.trod enc Try.prog W base sp held n 3 [c1] = some y1 := by simpa [Value.cells, i3, i4, iI, iE] using (hfl 1 _ rfl).trans e1
  have g2 : DataW.trod enc Try.prog W base sp held n 3 [c2] = some y2 := by simpa [Value.cells, i3, i4, iI, iE] using (hfl 2 _ rfl).trans e2
  have g3 : DataW.trod enc Try.prog W base sp held n 22 [c3] = some y3 := by simpa [Value.cells, i3, i4, iI, iE] using (hfl 3 _ rfl).trans e3
  have g4 : DataW.trod enc Try.prog W base sp held n 23 [c4] = some y4 := by simpa [Value.cells, i3, i4, iI, iE] using (hfl 4 _ rfl).trans e4
  have g5 : DataW.trod enc Try.prog W base sp held n 3 [c5] = some y5 := by simpa [Value.cells, i3, i4, iI, iE] using (hfl 5 _ rfl).trans e5
  have g6 : DataW.trod enc Try.prog W base sp held n 23 [c6] = some y6 := by simpa [Value.cells, i3, i4, iI, iE] using (hfl 6 _ rfl).trans e6
  have g7 : DataW.trod enc Try.prog W base sp held n 23 [c7] = some y7 := by simpa [Value.cells, i3, i4, iI, iE] using (hfl 7 _ rfl).trans e7
  have g8 : DataW.trod enc Try.prog W base sp held n 23 [c8] = some y8 := by simpa [Value.cells, i3, i4, iI, iE] using (hfl 8 _ rfl).trans e8
  have g9 : DataW.trod enc Try.prog W base sp held n 3 [c9] = some y9 := by simpa [Value.cells, i3, i4, iI, iE] using (hfl 9 _ rfl).trans e9
  have g10 : DataW.trod enc Try.prog W base sp held n 3 [c10] = some y10 := by simpa [Value.cells, i3, i4, iI, iE] using (hfl 10 _ rfl).trans e10
  have g11 : DataW.trod enc Try.prog W base sp held n 3 [c11] = some y11 := by simpa [Value.cells, i3, i4, iI, iE] using (hfl 11 _ rfl).trans e11
  have g12 : DataW.trod enc Try.prog W base sp held n 4 [c12] = some y12 := by simpa [Value.cells, i3, i4, iI, iE] using (hfl 12 _ rfl).trans e12
  obtain ⟨a0, k0, _, _⟩ := DataW.trod_int Try.underlying3 g0
  simp only [List.cons.injEq, and_true] at k0
  subst k0
  obtain ⟨a1, k1, _, _⟩ := DataW.trod_int Try.underlying3 g1
  simp only [List.cons.injEq, and_true] at k1
  subst k1
  obtain ⟨a2, k2, _, _⟩ := DataW.trod_int Try.underlying3 g2
  simp only [List.cons.injEq, and_true] at k2
  subst k2
  obtain ⟨lg, hlg, hlz⟩ := open_entries g3
  obtain ⟨l4, h4⟩ := open_intsAt g4
  obtain ⟨a5, k5, _, _⟩ := DataW.trod_int Try.underlying3 g5
  simp only [List.cons.injEq, and_true] at k5
  subst k5
  obtain ⟨l6, h6⟩ := open_intsAt g6
  obtain ⟨l7, h7⟩ := open_intsAt g7
  obtain ⟨l8, h8⟩ := open_intsAt g8
  obtain ⟨a9, k9, _, _⟩ := DataW.trod_int Try.underlying3 g9
  simp only [List.cons.injEq, and_true] at k9
  subst k9
  obtain ⟨a10, k10, _, _⟩ := DataW.trod_int Try.underlying3 g10
  simp only [List.cons.injEq, and_true] at k10
  subst k10
  obtain ⟨a11, k11, _, _⟩ := DataW.trod_int Try.underlying3 g11
  simp only [List.cons.injEq, and_true] at k11
  subst k11
  obtain ⟨a12, k12, _⟩ := DataW.trod_bool Try.underlying4 g12
  simp only [List.cons.injEq, and_true] at k12
  subst k12
  exact ⟨a0, a1, a2, a5, a9, a10, a11, a12, c3, c4, c6, c7, c8, lg, l4, l6, l7, l8, rfl, ⟨hlg, h4, h6, h7, h8⟩, hlz⟩
end Go.Proofs.Ytglkgmijcefjkaa
