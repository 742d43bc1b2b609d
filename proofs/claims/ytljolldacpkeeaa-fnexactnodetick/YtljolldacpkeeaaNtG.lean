/- (*actor).tick, walked. (Written by py/ntg.py.) -/
import Derived.Test.YtljolldacpkeeaaNtF
import Derived.Test.YtljolldacpkeeaaNtE
import Derived.Test.YtljolldacpkeeaaNpK
namespace Go.Proofs.Ytljolldacpkeeaa
open Go.ChangeShapes Go.WideShapes Go.ChangeAt Go.RowKit Go.Deep
set_option linter.unusedVariables false
set_option linter.unusedSimpArgs false

/-- One tick more. -/
def elT (el : Int) : Int := if 1000 < el + 1 then 1000 else el + 1
def tickOut (n : NoD) (draw : Int) : NoD × List MV :=
  if n.ro = 2 then (if elT n.el < 2 then ({ n with el := elT n.el }, []) else ({ n with el := 0 }, tellL n.id n.tm n.cm n.lg n.nx (mbAt n.lg n.st n.lg.length)))
  else if mayS n.id n.tm (elT n.el) n.wt (mbAt n.lg n.st n.lg.length) then standOut { n with el := elT n.el } draw else ({ n with el := elT n.el }, [])
theorem ActR.same {B b : Nat} {id tm vo ro cm el wt : Int} {up : Bool} {lg : List En} {st vs nx mt : List Int} {la : Option Addr} {lc : Nat} {sa : Option Addr} {sc : Nat} {va : Option Addr} {vc : Nat} {g nc h mc : Nat} {w w' : World} (hX : Blk w' b [.int .i64 id, .int .i64 tm, .int .i64 vo, .slice la lg.length lc, .slice sa st.length sc, .int .i64 ro, .slice va vs.length vc, .slice (some ⟨g, 0, none⟩) 7 nc, .slice (some ⟨h, 0, none⟩) 7 mc, .int .i64 cm, .int .i64 el, .int .i64 wt, .bool up, .slice none 0 0]) (hO : NoO B w' (.slice la lg.length lc) (.slice sa st.length sc) (.slice va vs.length vc) (.slice (some ⟨g, 0, none⟩) 7 nc) (.slice (some ⟨h, 0, none⟩) 7 mc) lg st vs nx mt) (hap : ∀ v ∈ ([.slice la lg.length lc, .slice sa st.length sc, .slice va vs.length vc, .slice (some ⟨g, 0, none⟩) 7 nc, .slice (some ⟨h, 0, none⟩) 7 mc] : List Value), v.ownBlock ≠ some b) (hnx : nx.length = 7) (hmt : mt.length = 7) (hT : Touch (fun q => B ≤ q) w w') : ActR B b (⟨id, tm, vo, ro, cm, el, wt, up, lg, st, vs, nx, mt⟩ : NoD) [] w w' :=
  ⟨la, lc, sa, sc, va, vc, some ⟨g, 0, none⟩, nc, some ⟨h, 0, none⟩, mc, .slice none 0 0, [], by simp only [hnx, hmt]; exact hX, by simp only [hnx, hmt]; exact hO, Ns.nil _ _ _, rfl, by simp only [hnx, hmt]; exact fun q hq => ⟨fun e => by obtain ⟨v, hv, hvq⟩ := hq; exact hap v hv (by rw [hvq, e]), nsT_nil q⟩, fun q hq => absurd hq (nsT_nil q), hT⟩
theorem ActR.from {B b : Nat} {n : NoD} {ms : List MV} {w w1 w' : World} (h : ActR B b n ms w1 w') (hT : Touch (fun q => B ≤ q) w w1) : ActR B b n ms w w' := by
  obtain ⟨la, lc, sa, sc, va, vc, na, nc, ma, mc, v, l, h1, h2, h3, h4, h5, h6, h7⟩ := h
  exact ⟨la, lc, sa, sc, va, vc, na, nc, ma, mc, v, l, h1, h2, h3, h4, h5, h6, hT.trans h7 (fun _ _ e => e)⟩
set_option maxRecDepth 100000 in
set_option maxHeartbeats 2000000 in
theorem tick2a (B b : Nat) (id tm vo cm el wt : Int) (up : Bool) (lg : List En) (st vs nx mt : List Int) (la : Option Addr) (lc : Nat) (sa : Option Addr) (sc : Nat) (va : Option Addr) (vc : Nat) (g nc h mc : Nat) (draw : Int) (w : World) (hX : Blk w b [.int .i64 id, .int .i64 tm, .int .i64 vo, .slice la lg.length lc, .slice sa st.length sc, .int .i64 2, .slice va vs.length vc, .slice (some ⟨g, 0, none⟩) 7 nc, .slice (some ⟨h, 0, none⟩) 7 mc, .int .i64 cm, .int .i64 el, .int .i64 wt, .bool up, .slice none 0 0]) (hO : NoO B w (.slice la lg.length lc) (.slice sa st.length sc) (.slice va vs.length vc) (.slice (some ⟨g, 0, none⟩) 7 nc) (.slice (some ⟨h, 0, none⟩) 7 mc) lg st vs nx mt) (hap : ∀ v ∈ ([.slice la lg.length lc, .slice sa st.length sc, .slice va vs.length vc, .slice (some ⟨g, 0, none⟩) 7 nc, .slice (some ⟨h, 0, none⟩) 7 mc] : List Value), v.ownBlock ≠ some b) (hlo : B ≤ b) (hB : B ≤ w.heap.size) (hz : ∀ i, (lg.getD i default).d.size ≤ maxLen) (hl : lg.length ≤ 60) (hg : CfgOK lg) (hst : mFault st = 0) (hnx : nx.length = 7) (hmt : mt.length = 7) (hc : 0 ≤ cm) (htm : 0 ≤ tm) (hnn : ∀ i, i < 7 → 1 ≤ nx.getD i 0 ∧ nx.getD i 0 ≤ (lg.length : Int) + 1) (hdr : 0 ≤ draw ∧ draw ≤ 1000000) (hel : ¬ 1000 < el + 1 ∧ 0 ≤ el) :
    Calls Try.prog 29 #[.pointer (some ⟨b, 0, none⟩), .int .i64 draw] w fun e w' => (∃ v, e = .returned v) ∧ ActR B b (tickOut (⟨id, tm, vo, 2, cm, el, wt, up, lg, st, vs, nx, mt⟩ : NoD) draw).1 (tickOut (⟨id, tm, vo, 2, cm, el, wt, up, lg, st, vs, nx, mt⟩ : NoD) draw).2 w w' := by
  have hbw := hX.1
  have x10 := hX.cell 10 rfl
  have f10 := hX.fro 10
  have X1 := hX.set 10 (.int .i64 (el + 1)) (by simp)
  simp only [List.set_cons_succ, List.set_cons_zero] at X1
  have T1 := (Touch.refl (fun q => q = b) w).setCell ⟨b, 10, none⟩ (.int .i64 (el + 1)) (fun _ => rfl)
  have hapn : ∀ q, NoT [.slice la lg.length lc, .slice sa st.length sc, .slice va vs.length vc, .slice (some ⟨g, 0, none⟩) 7 nc, .slice (some ⟨h, 0, none⟩) 7 mc] q → q ≠ b := fun q hq e => by obtain ⟨v, hv, hvq⟩ := hq; exact hap v hv (by rw [hvq, e])
  have O1 := NoO.keep hO T1 hapn
  have TB := T1.wide (T' := fun q => B ≤ q) (fun k e => by rw [e]; exact hlo)
  have hs1 := T1.size
  have hmb := mb_seven lg st hg hst
  have hE1 := O1.lg.ens
  have hrl := role_any b 2 _ (X1.cell 5 rfl)
  have hT : elT el = (el + 1) := by unfold elT; first | rw [if_pos hel.1] | rw [if_neg hel.1]
  have q0 : IntKind.i64.wrap (el + 1) = el + 1 := wrapSm _ (by omega) (by omega)
  have q1 := hel.1
  have q2 := hel.2
  have HU : Hid (tickOut (⟨id, tm, vo, 2, cm, el, wt, up, lg, st, vs, nx, mt⟩ : NoD) draw = if (el + 1) < 2 then ((⟨id, tm, vo, 2, cm, (el + 1), wt, up, lg, st, vs, nx, mt⟩ : NoD), []) else ((⟨id, tm, vo, 2, cm, 0, wt, up, lg, st, vs, nx, mt⟩ : NoD), tellL id tm cm lg nx (mbAt lg st lg.length))) := hide (by unfold tickOut; simp only [if_true, hT])
  have HSame := hide (fun w' (hb : Below (w.setCell ⟨b, 10, none⟩ (.int .i64 (el + 1))).heap.size (w.setCell ⟨b, 10, none⟩ (.int .i64 (el + 1))) w') => ActR.same (w := w) (w' := w') (X1.below hb) (O1.below hb) hap hnx hmt (TB.trans (T' := fun _ => False) (Touch.ofBelow hb) (fun _ _ e => e.elim)))
  have HBn := hide (fun wx (he : (el + 1) < 2) (hx : Blk wx b [.int .i64 id, .int .i64 tm, .int .i64 vo, .slice la lg.length lc, .slice sa st.length sc, .int .i64 2, .slice va vs.length vc, .slice (some ⟨g, 0, none⟩) 7 nc, .slice (some ⟨h, 0, none⟩) 7 mc, .int .i64 cm, .int .i64 (el + 1), .int .i64 wt, .bool up, .slice none 0 0]) => beatNo_any b (el + 1) wx hx.1 (hx.cell 10 rfl) he)
  have HBt := hide (fun wx (he : 2 ≤ (el + 1)) (hb : Below (w.setCell ⟨b, 10, none⟩ (.int .i64 (el + 1))).heap.size (w.setCell ⟨b, 10, none⟩ (.int .i64 (el + 1))) wx) => beat_any B b id tm vo 2 cm (el + 1) wt up lg st vs nx mt la lc sa sc va vc (some ⟨g, 0, none⟩) nc (some ⟨h, 0, none⟩) mc wx (by rw [hnx, hmt]; exact X1.below hb) he (hE1.below hb) (fun e => hapn b ⟨_, by simp, e⟩ rfl) (O1.st.below hb) (by have := hb.size; omega) (fun e => hapn b ⟨_, by simp, e⟩ rfl) (by rw [hnx]; exact O1.nx.ints.below hb) (fun e => hapn b ⟨(.slice (some ⟨g, 0, none⟩) 7 nc), by simp, by simpa [Value.ownBlock] using e⟩ rfl) hz hl hg hnx hmb.1 (fun x hx => ⟨(hmb.2 x hx).1, (hmb.2 x hx).2, fun _ => by have := hmb.2 x hx; exact hnn x.toNat (by omega)⟩))
  rw [hnx, hmt] at HBt
  have HFin := hide (fun w' v l (hX : Blk w' b [.int .i64 id, .int .i64 tm, .int .i64 vo, .slice la lg.length lc, .slice sa st.length sc, .int .i64 2, .slice va vs.length vc, .slice (some ⟨g, 0, none⟩) 7 nc, .slice (some ⟨h, 0, none⟩) 7 mc, .int .i64 cm, .int .i64 0, .int .i64 wt, .bool up, v]) (T : Touch (fun k => k = b) (w.setCell ⟨b, 10, none⟩ (.int .i64 (el + 1))) w') (D : Nat) (hN : Ns mgS D w' v l.length l) (hD : (w.setCell ⟨b, 10, none⟩ (.int .i64 (el + 1))).heap.size ≤ D) (hL : l.map bareM = tellL id tm cm lg nx (mbAt lg st lg.length)) => show ActR B b (⟨id, tm, vo, 2, cm, 0, wt, up, lg, st, vs, nx, mt⟩ : NoD) (tellL id tm cm lg nx (mbAt lg st lg.length)) w w' from
    ⟨la, lc, sa, sc, va, vc, some ⟨g, 0, none⟩, nc, some ⟨h, 0, none⟩, mc, v, l, by simp only [hnx, hmt]; exact hX, by simp only [hnx, hmt]; exact NoO.keep O1 T hapn, hN.down (by omega), hL, by simp only [hnx, hmt]; exact fun q hq => ⟨hapn q hq, fun e => by have := (nsT_ge hN q e).1; have := (NoO.blk O1 q hq).2; omega⟩, fun q hq e => by have := (nsT_ge hN q hq).1; omega, TB.trans (T' := fun q => q = b) T (fun _ _ e => by rw [e]; exact hlo)⟩)
  have t1 := fun wx => ta_same (P := Try.prog) 82 79 _ (.agg #[.pointer (some ⟨b, 0, none⟩)]) wx Try.underlying82
  have HR := hide hrl
  have HX1 := hide X1
  rw [show roleV b 2 = .iface 82 (.agg #[.pointer (some ⟨b, 0, none⟩)]) from rfl] at HR
  clear hX hO hap hB hz hg hst hnx hmt hc hnn O1 TB hmb hE1 hrl X1 T1 hapn hT
  go_enter Try.func29, Try.ntmps29
  go_upto_region 1 with fail
  clear x10 f10
  generalize w.setCell ⟨b, 10, none⟩ (.int .i64 (el + 1)) = w1 at *
  have RZ := Blk.new w1 #[.pointer none] 82 w1.heap.size rfl
  have r0 := RZ.cell 0 rfl
  have f0 := RZ.fro 0
  have B2 := hide ((Below.refl w1.heap.size w1).alloc (Nat.le_refl _) (.cells #[.pointer (some ⟨b, 0, none⟩)] 82))
  clear RZ
  go_wp2_with fail
  refine (unhide HR).mono ?_
  rintro e w' ⟨rfl, hw'⟩
  have hw2 := hw'.symm
  clear hw'
  subst hw2
  go_wp2_with fail
  generalize w1.alloc (.cells #[.pointer (some ⟨b, 0, none⟩)] 82) = w2 at *
  have hs2 := (unhide B2).size
  by_cases he2 : (el + 1) < 2
  · refine (unhide HBn w2 he2 ((unhide HX1).below (unhide B2))).mono ?_
    rintro e w3 ⟨⟨v3, rfl⟩, hb3⟩
    have R := hide (unhide HSame w3 ((unhide B2).trans (hb3.mono (unhide B2).size)))
    clear hb3
    go_wp2_with fail
    go_end0
    refine ⟨⟨_, rfl⟩, ?_⟩
    rw [unhide HU, if_pos (by omega)]
    exact unhide R
  · refine (unhide HBt w2 (by omega) (unhide B2)).mono ?_
    rintro e w3 ⟨⟨v3, rfl⟩, v, l, hX3, hN3, hL3, hT3⟩
    have R := hide (unhide HFin w3 v l hX3 ((Touch.ofBelow (unhide B2)).trans (T' := fun k => k = b) hT3 (fun _ _ e => e)) w2.heap.size hN3 hs2 hL3)
    clear hX3 hN3 hL3 hT3
    go_wp2_with fail
    go_end0
    refine ⟨⟨_, rfl⟩, ?_⟩
    rw [unhide HU, if_neg (by omega)]
    exact unhide R
set_option maxRecDepth 100000 in
set_option maxHeartbeats 2000000 in
theorem tick2b (B b : Nat) (id tm vo cm el wt : Int) (up : Bool) (lg : List En) (st vs nx mt : List Int) (la : Option Addr) (lc : Nat) (sa : Option Addr) (sc : Nat) (va : Option Addr) (vc : Nat) (g nc h mc : Nat) (draw : Int) (w : World) (hX : Blk w b [.int .i64 id, .int .i64 tm, .int .i64 vo, .slice la lg.length lc, .slice sa st.length sc, .int .i64 2, .slice va vs.length vc, .slice (some ⟨g, 0, none⟩) 7 nc, .slice (some ⟨h, 0, none⟩) 7 mc, .int .i64 cm, .int .i64 el, .int .i64 wt, .bool up, .slice none 0 0]) (hO : NoO B w (.slice la lg.length lc) (.slice sa st.length sc) (.slice va vs.length vc) (.slice (some ⟨g, 0, none⟩) 7 nc) (.slice (some ⟨h, 0, none⟩) 7 mc) lg st vs nx mt) (hap : ∀ v ∈ ([.slice la lg.length lc, .slice sa st.length sc, .slice va vs.length vc, .slice (some ⟨g, 0, none⟩) 7 nc, .slice (some ⟨h, 0, none⟩) 7 mc] : List Value), v.ownBlock ≠ some b) (hlo : B ≤ b) (hB : B ≤ w.heap.size) (hz : ∀ i, (lg.getD i default).d.size ≤ maxLen) (hl : lg.length ≤ 60) (hg : CfgOK lg) (hst : mFault st = 0) (hnx : nx.length = 7) (hmt : mt.length = 7) (hc : 0 ≤ cm) (htm : 0 ≤ tm) (hnn : ∀ i, i < 7 → 1 ≤ nx.getD i 0 ∧ nx.getD i 0 ≤ (lg.length : Int) + 1) (hdr : 0 ≤ draw ∧ draw ≤ 1000000) (hel : 1000 < el + 1 ∧ el ≤ 1000) :
    Calls Try.prog 29 #[.pointer (some ⟨b, 0, none⟩), .int .i64 draw] w fun e w' => (∃ v, e = .returned v) ∧ ActR B b (tickOut (⟨id, tm, vo, 2, cm, el, wt, up, lg, st, vs, nx, mt⟩ : NoD) draw).1 (tickOut (⟨id, tm, vo, 2, cm, el, wt, up, lg, st, vs, nx, mt⟩ : NoD) draw).2 w w' := by
  have hbw := hX.1
  have x10 := hX.cell 10 rfl
  have f10 := hX.fro 10
  have X1 := hX.set 10 (.int .i64 (1000 : Int)) (by simp)
  simp only [List.set_cons_succ, List.set_cons_zero] at X1
  have T1 := (Touch.refl (fun q => q = b) w).setCell ⟨b, 10, none⟩ (.int .i64 (1000 : Int)) (fun _ => rfl)
  have hapn : ∀ q, NoT [.slice la lg.length lc, .slice sa st.length sc, .slice va vs.length vc, .slice (some ⟨g, 0, none⟩) 7 nc, .slice (some ⟨h, 0, none⟩) 7 mc] q → q ≠ b := fun q hq e => by obtain ⟨v, hv, hvq⟩ := hq; exact hap v hv (by rw [hvq, e])
  have O1 := NoO.keep hO T1 hapn
  have TB := T1.wide (T' := fun q => B ≤ q) (fun k e => by rw [e]; exact hlo)
  have hs1 := T1.size
  have hmb := mb_seven lg st hg hst
  have hE1 := O1.lg.ens
  have hrl := role_any b 2 _ (X1.cell 5 rfl)
  have hT : elT el = (1000 : Int) := by unfold elT; first | rw [if_pos hel.1] | rw [if_neg hel.1]
  have q0 : IntKind.i64.wrap (el + 1) = el + 1 := wrapSm _ (by omega) (by omega)
  have q1 := hel.1
  have q2 := hel.2
  have HU : Hid (tickOut (⟨id, tm, vo, 2, cm, el, wt, up, lg, st, vs, nx, mt⟩ : NoD) draw = if (1000 : Int) < 2 then ((⟨id, tm, vo, 2, cm, (1000 : Int), wt, up, lg, st, vs, nx, mt⟩ : NoD), []) else ((⟨id, tm, vo, 2, cm, 0, wt, up, lg, st, vs, nx, mt⟩ : NoD), tellL id tm cm lg nx (mbAt lg st lg.length))) := hide (by unfold tickOut; simp only [if_true, hT])
  have HSame := hide (fun w' (hb : Below (w.setCell ⟨b, 10, none⟩ (.int .i64 (1000 : Int))).heap.size (w.setCell ⟨b, 10, none⟩ (.int .i64 (1000 : Int))) w') => ActR.same (w := w) (w' := w') (X1.below hb) (O1.below hb) hap hnx hmt (TB.trans (T' := fun _ => False) (Touch.ofBelow hb) (fun _ _ e => e.elim)))
  have HBn := hide (fun wx (he : (1000 : Int) < 2) (hx : Blk wx b [.int .i64 id, .int .i64 tm, .int .i64 vo, .slice la lg.length lc, .slice sa st.length sc, .int .i64 2, .slice va vs.length vc, .slice (some ⟨g, 0, none⟩) 7 nc, .slice (some ⟨h, 0, none⟩) 7 mc, .int .i64 cm, .int .i64 (1000 : Int), .int .i64 wt, .bool up, .slice none 0 0]) => beatNo_any b (1000 : Int) wx hx.1 (hx.cell 10 rfl) he)
  have HBt := hide (fun wx (he : 2 ≤ (1000 : Int)) (hb : Below (w.setCell ⟨b, 10, none⟩ (.int .i64 (1000 : Int))).heap.size (w.setCell ⟨b, 10, none⟩ (.int .i64 (1000 : Int))) wx) => beat_any B b id tm vo 2 cm (1000 : Int) wt up lg st vs nx mt la lc sa sc va vc (some ⟨g, 0, none⟩) nc (some ⟨h, 0, none⟩) mc wx (by rw [hnx, hmt]; exact X1.below hb) he (hE1.below hb) (fun e => hapn b ⟨_, by simp, e⟩ rfl) (O1.st.below hb) (by have := hb.size; omega) (fun e => hapn b ⟨_, by simp, e⟩ rfl) (by rw [hnx]; exact O1.nx.ints.below hb) (fun e => hapn b ⟨(.slice (some ⟨g, 0, none⟩) 7 nc), by simp, by simpa [Value.ownBlock] using e⟩ rfl) hz hl hg hnx hmb.1 (fun x hx => ⟨(hmb.2 x hx).1, (hmb.2 x hx).2, fun _ => by have := hmb.2 x hx; exact hnn x.toNat (by omega)⟩))
  rw [hnx, hmt] at HBt
  have HFin := hide (fun w' v l (hX : Blk w' b [.int .i64 id, .int .i64 tm, .int .i64 vo, .slice la lg.length lc, .slice sa st.length sc, .int .i64 2, .slice va vs.length vc, .slice (some ⟨g, 0, none⟩) 7 nc, .slice (some ⟨h, 0, none⟩) 7 mc, .int .i64 cm, .int .i64 0, .int .i64 wt, .bool up, v]) (T : Touch (fun k => k = b) (w.setCell ⟨b, 10, none⟩ (.int .i64 (1000 : Int))) w') (D : Nat) (hN : Ns mgS D w' v l.length l) (hD : (w.setCell ⟨b, 10, none⟩ (.int .i64 (1000 : Int))).heap.size ≤ D) (hL : l.map bareM = tellL id tm cm lg nx (mbAt lg st lg.length)) => show ActR B b (⟨id, tm, vo, 2, cm, 0, wt, up, lg, st, vs, nx, mt⟩ : NoD) (tellL id tm cm lg nx (mbAt lg st lg.length)) w w' from
    ⟨la, lc, sa, sc, va, vc, some ⟨g, 0, none⟩, nc, some ⟨h, 0, none⟩, mc, v, l, by simp only [hnx, hmt]; exact hX, by simp only [hnx, hmt]; exact NoO.keep O1 T hapn, hN.down (by omega), hL, by simp only [hnx, hmt]; exact fun q hq => ⟨hapn q hq, fun e => by have := (nsT_ge hN q e).1; have := (NoO.blk O1 q hq).2; omega⟩, fun q hq e => by have := (nsT_ge hN q hq).1; omega, TB.trans (T' := fun q => q = b) T (fun _ _ e => by rw [e]; exact hlo)⟩)
  have t1 := fun wx => ta_same (P := Try.prog) 82 79 _ (.agg #[.pointer (some ⟨b, 0, none⟩)]) wx Try.underlying82
  have HR := hide hrl
  have HX1 := hide X1
  rw [show roleV b 2 = .iface 82 (.agg #[.pointer (some ⟨b, 0, none⟩)]) from rfl] at HR
  clear hX hO hap hB hz hg hst hnx hmt hc hnn O1 TB hmb hE1 hrl X1 T1 hapn hT
  go_enter Try.func29, Try.ntmps29
  go_upto_region 1 with fail
  clear x10 f10
  generalize w.setCell ⟨b, 10, none⟩ (.int .i64 (1000 : Int)) = w1 at *
  have RZ := Blk.new w1 #[.pointer none] 82 w1.heap.size rfl
  have r0 := RZ.cell 0 rfl
  have f0 := RZ.fro 0
  have B2 := hide ((Below.refl w1.heap.size w1).alloc (Nat.le_refl _) (.cells #[.pointer (some ⟨b, 0, none⟩)] 82))
  clear RZ
  go_wp2_with fail
  refine (unhide HR).mono ?_
  rintro e w' ⟨rfl, hw'⟩
  have hw2 := hw'.symm
  clear hw'
  subst hw2
  go_wp2_with fail
  generalize w1.alloc (.cells #[.pointer (some ⟨b, 0, none⟩)] 82) = w2 at *
  have hs2 := (unhide B2).size
  by_cases he2 : (1000 : Int) < 2
  · refine (unhide HBn w2 he2 ((unhide HX1).below (unhide B2))).mono ?_
    rintro e w3 ⟨⟨v3, rfl⟩, hb3⟩
    have R := hide (unhide HSame w3 ((unhide B2).trans (hb3.mono (unhide B2).size)))
    clear hb3
    go_wp2_with fail
    go_end0
    refine ⟨⟨_, rfl⟩, ?_⟩
    rw [unhide HU, if_pos (by omega)]
    exact unhide R
  · refine (unhide HBt w2 (by omega) (unhide B2)).mono ?_
    rintro e w3 ⟨⟨v3, rfl⟩, v, l, hX3, hN3, hL3, hT3⟩
    have R := hide (unhide HFin w3 v l hX3 ((Touch.ofBelow (unhide B2)).trans (T' := fun k => k = b) hT3 (fun _ _ e => e)) w2.heap.size hN3 hs2 hL3)
    clear hX3 hN3 hL3 hT3
    go_wp2_with fail
    go_end0
    refine ⟨⟨_, rfl⟩, ?_⟩
    rw [unhide HU, if_neg (by omega)]
    exact unhide R
set_option maxRecDepth 100000 in
set_option maxHeartbeats 2000000 in
theorem tick1a (B b : Nat) (id tm vo cm el wt : Int) (up : Bool) (lg : List En) (st vs nx mt : List Int) (la : Option Addr) (lc : Nat) (sa : Option Addr) (sc : Nat) (va : Option Addr) (vc : Nat) (g nc h mc : Nat) (draw : Int) (w : World) (hX : Blk w b [.int .i64 id, .int .i64 tm, .int .i64 vo, .slice la lg.length lc, .slice sa st.length sc, .int .i64 1, .slice va vs.length vc, .slice (some ⟨g, 0, none⟩) 7 nc, .slice (some ⟨h, 0, none⟩) 7 mc, .int .i64 cm, .int .i64 el, .int .i64 wt, .bool up, .slice none 0 0]) (hO : NoO B w (.slice la lg.length lc) (.slice sa st.length sc) (.slice va vs.length vc) (.slice (some ⟨g, 0, none⟩) 7 nc) (.slice (some ⟨h, 0, none⟩) 7 mc) lg st vs nx mt) (hap : ∀ v ∈ ([.slice la lg.length lc, .slice sa st.length sc, .slice va vs.length vc, .slice (some ⟨g, 0, none⟩) 7 nc, .slice (some ⟨h, 0, none⟩) 7 mc] : List Value), v.ownBlock ≠ some b) (hlo : B ≤ b) (hB : B ≤ w.heap.size) (hz : ∀ i, (lg.getD i default).d.size ≤ maxLen) (hl : lg.length ≤ 60) (hg : CfgOK lg) (hst : mFault st = 0) (hnx : nx.length = 7) (hmt : mt.length = 7) (hc : 0 ≤ cm) (htm : 0 ≤ tm) (hnn : ∀ i, i < 7 → 1 ≤ nx.getD i 0 ∧ nx.getD i 0 ≤ (lg.length : Int) + 1) (hdr : 0 ≤ draw ∧ draw ≤ 1000000) (hel : ¬ 1000 < el + 1 ∧ 0 ≤ el) :
    Calls Try.prog 29 #[.pointer (some ⟨b, 0, none⟩), .int .i64 draw] w fun e w' => (∃ v, e = .returned v) ∧ ActR B b (tickOut (⟨id, tm, vo, 1, cm, el, wt, up, lg, st, vs, nx, mt⟩ : NoD) draw).1 (tickOut (⟨id, tm, vo, 1, cm, el, wt, up, lg, st, vs, nx, mt⟩ : NoD) draw).2 w w' := by
  have hbw := hX.1
  have x10 := hX.cell 10 rfl
  have f10 := hX.fro 10
  have X1 := hX.set 10 (.int .i64 (el + 1)) (by simp)
  simp only [List.set_cons_succ, List.set_cons_zero] at X1
  have T1 := (Touch.refl (fun q => q = b) w).setCell ⟨b, 10, none⟩ (.int .i64 (el + 1)) (fun _ => rfl)
  have hapn : ∀ q, NoT [.slice la lg.length lc, .slice sa st.length sc, .slice va vs.length vc, .slice (some ⟨g, 0, none⟩) 7 nc, .slice (some ⟨h, 0, none⟩) 7 mc] q → q ≠ b := fun q hq e => by obtain ⟨v, hv, hvq⟩ := hq; exact hap v hv (by rw [hvq, e])
  have O1 := NoO.keep hO T1 hapn
  have TB := T1.wide (T' := fun q => B ≤ q) (fun k e => by rw [e]; exact hlo)
  have hs1 := T1.size
  have hmb := mb_seven lg st hg hst
  have hE1 := O1.lg.ens
  have hrl := role_any b 1 _ (X1.cell 5 rfl)
  have hT : elT el = (el + 1) := by unfold elT; first | rw [if_pos hel.1] | rw [if_neg hel.1]
  have q0 : IntKind.i64.wrap (el + 1) = el + 1 := wrapSm _ (by omega) (by omega)
  have q1 := hel.1
  have q2 := hel.2
  have HU : Hid (tickOut (⟨id, tm, vo, 1, cm, el, wt, up, lg, st, vs, nx, mt⟩ : NoD) draw = if mayS id tm (el + 1) wt (mbAt lg st lg.length) then standOut (⟨id, tm, vo, 1, cm, (el + 1), wt, up, lg, st, vs, nx, mt⟩ : NoD) draw else ((⟨id, tm, vo, 1, cm, (el + 1), wt, up, lg, st, vs, nx, mt⟩ : NoD), [])) := hide (by unfold tickOut; simp only [hT]; rw [if_neg (by decide)])
  have HSame := hide (fun w' (hb : Below (w.setCell ⟨b, 10, none⟩ (.int .i64 (el + 1))).heap.size (w.setCell ⟨b, 10, none⟩ (.int .i64 (el + 1))) w') => ActR.same (w := w) (w' := w') (X1.below hb) (O1.below hb) hap hnx hmt (TB.trans (T' := fun _ => False) (Touch.ofBelow hb) (fun _ _ e => e.elim)))
  have HMy := hide (mayStand_any B b id tm (el + 1) wt la lc sa sc lg st hz (by omega) hg _ X1.1 (X1.cell 0 rfl) (X1.cell 1 rfl) (X1.cell 10 rfl) (X1.cell 11 rfl) (X1.cell 3 rfl) (X1.cell 4 rfl) hE1 O1.st (by omega) hmb.1)
  have HMt : Hid (mayS id tm (el + 1) wt (mbAt lg st lg.length) = true → tm < 1000000) := hide (fun e => by unfold mayS at e; simp only [Bool.and_eq_true, decide_eq_true_eq] at e; exact e.2.1)
  have HSt := hide (fun wx (ht : tm < 1000000) (hb : Below (w.setCell ⟨b, 10, none⟩ (.int .i64 (el + 1))).heap.size (w.setCell ⟨b, 10, none⟩ (.int .i64 (el + 1))) wx) => stand_any B b id tm vo 1 cm (el + 1) wt up lg st vs nx mt la lc sa sc va vc g nc h mc draw wx (X1.below hb) (O1.below hb) hap hlo (by have := hb.size; omega) hz hl hg hst hnx hmt hc ⟨htm, ht⟩ hdr)
  have HTB := hide TB
  have t1 := fun wx => ta_other (P := Try.prog) 84 82 79 _ (.agg #[.pointer (some ⟨b, 0, none⟩)]) (.agg #[.pointer none]) wx Try.underlying82 (by decide) (by kernel_rfl)
  have t2 := fun wx => ta_same (P := Try.prog) 84 79 _ (.agg #[.pointer (some ⟨b, 0, none⟩)]) wx Try.underlying84
  have t3 := fun wx => ta_other (P := Try.prog) 84 83 79 _ (.agg #[.pointer (some ⟨b, 0, none⟩)]) (.agg #[.pointer none]) wx Try.underlying83 (by decide) (by kernel_rfl)
  have HR := hide hrl
  rw [show roleV b 1 = .iface 84 (.agg #[.pointer (some ⟨b, 0, none⟩)]) from rfl] at HR
  clear hX hO hap hB hz hg hst hnx hmt hc hnn O1 TB hmb hE1 hrl X1 T1 hapn hT
  generalize mbAt lg st lg.length = mb at *
  go_enter Try.func29, Try.ntmps29
  go_upto_region 1 with fail
  clear x10 f10
  generalize w.setCell ⟨b, 10, none⟩ (.int .i64 (el + 1)) = w1 at *
  go_wp2_with fail
  refine (unhide HR).mono ?_
  rintro e w' ⟨rfl, hw'⟩
  have hw2 := hw'.symm
  clear hw'
  subst hw2
  go_wp2_with fail
  refine (unhide HMy).mono ?_
  rintro e w2 ⟨rfl, hb2⟩
  have HB2 := hide hb2
  clear hb2 HMy
  generalize mayS id tm (el + 1) wt mb = bo at *
  cases bo
  · have R := hide (unhide HSame w2 (unhide HB2))
    go_wp2_with fail
    go_end0
    refine ⟨⟨_, rfl⟩, ?_⟩
    rw [unhide HU]
    exact unhide R
  · have HC := hide (unhide HSt w2 (unhide HMt rfl) (unhide HB2))
    go_wp2_with fail
    refine (unhide HC).mono ?_
    rintro e w3 ⟨⟨v3, rfl⟩, hA⟩
    have R := hide (hA.from ((unhide HTB).trans (T' := fun _ => False) (Touch.ofBelow (unhide HB2)) (fun _ _ e => e.elim)))
    clear hA HC
    go_wp2_with fail
    go_end0
    refine ⟨⟨_, rfl⟩, ?_⟩
    rw [unhide HU]
    exact unhide R
set_option maxRecDepth 100000 in
set_option maxHeartbeats 2000000 in
theorem tick1b (B b : Nat) (id tm vo cm el wt : Int) (up : Bool) (lg : List En) (st vs nx mt : List Int) (la : Option Addr) (lc : Nat) (sa : Option Addr) (sc : Nat) (va : Option Addr) (vc : Nat) (g nc h mc : Nat) (draw : Int) (w : World) (hX : Blk w b [.int .i64 id, .int .i64 tm, .int .i64 vo, .slice la lg.length lc, .slice sa st.length sc, .int .i64 1, .slice va vs.length vc, .slice (some ⟨g, 0, none⟩) 7 nc, .slice (some ⟨h, 0, none⟩) 7 mc, .int .i64 cm, .int .i64 el, .int .i64 wt, .bool up, .slice none 0 0]) (hO : NoO B w (.slice la lg.length lc) (.slice sa st.length sc) (.slice va vs.length vc) (.slice (some ⟨g, 0, none⟩) 7 nc) (.slice (some ⟨h, 0, none⟩) 7 mc) lg st vs nx mt) (hap : ∀ v ∈ ([.slice la lg.length lc, .slice sa st.length sc, .slice va vs.length vc, .slice (some ⟨g, 0, none⟩) 7 nc, .slice (some ⟨h, 0, none⟩) 7 mc] : List Value), v.ownBlock ≠ some b) (hlo : B ≤ b) (hB : B ≤ w.heap.size) (hz : ∀ i, (lg.getD i default).d.size ≤ maxLen) (hl : lg.length ≤ 60) (hg : CfgOK lg) (hst : mFault st = 0) (hnx : nx.length = 7) (hmt : mt.length = 7) (hc : 0 ≤ cm) (htm : 0 ≤ tm) (hnn : ∀ i, i < 7 → 1 ≤ nx.getD i 0 ∧ nx.getD i 0 ≤ (lg.length : Int) + 1) (hdr : 0 ≤ draw ∧ draw ≤ 1000000) (hel : 1000 < el + 1 ∧ el ≤ 1000) :
    Calls Try.prog 29 #[.pointer (some ⟨b, 0, none⟩), .int .i64 draw] w fun e w' => (∃ v, e = .returned v) ∧ ActR B b (tickOut (⟨id, tm, vo, 1, cm, el, wt, up, lg, st, vs, nx, mt⟩ : NoD) draw).1 (tickOut (⟨id, tm, vo, 1, cm, el, wt, up, lg, st, vs, nx, mt⟩ : NoD) draw).2 w w' := by
  have hbw := hX.1
  have x10 := hX.cell 10 rfl
  have f10 := hX.fro 10
  have X1 := hX.set 10 (.int .i64 (1000 : Int)) (by simp)
  simp only [List.set_cons_succ, List.set_cons_zero] at X1
  have T1 := (Touch.refl (fun q => q = b) w).setCell ⟨b, 10, none⟩ (.int .i64 (1000 : Int)) (fun _ => rfl)
  have hapn : ∀ q, NoT [.slice la lg.length lc, .slice sa st.length sc, .slice va vs.length vc, .slice (some ⟨g, 0, none⟩) 7 nc, .slice (some ⟨h, 0, none⟩) 7 mc] q → q ≠ b := fun q hq e => by obtain ⟨v, hv, hvq⟩ := hq; exact hap v hv (by rw [hvq, e])
  have O1 := NoO.keep hO T1 hapn
  have TB := T1.wide (T' := fun q => B ≤ q) (fun k e => by rw [e]; exact hlo)
  have hs1 := T1.size
  have hmb := mb_seven lg st hg hst
  have hE1 := O1.lg.ens
  have hrl := role_any b 1 _ (X1.cell 5 rfl)
  have hT : elT el = (1000 : Int) := by unfold elT; first | rw [if_pos hel.1] | rw [if_neg hel.1]
  have q0 : IntKind.i64.wrap (el + 1) = el + 1 := wrapSm _ (by omega) (by omega)
  have q1 := hel.1
  have q2 := hel.2
  have HU : Hid (tickOut (⟨id, tm, vo, 1, cm, el, wt, up, lg, st, vs, nx, mt⟩ : NoD) draw = if mayS id tm (1000 : Int) wt (mbAt lg st lg.length) then standOut (⟨id, tm, vo, 1, cm, (1000 : Int), wt, up, lg, st, vs, nx, mt⟩ : NoD) draw else ((⟨id, tm, vo, 1, cm, (1000 : Int), wt, up, lg, st, vs, nx, mt⟩ : NoD), [])) := hide (by unfold tickOut; simp only [hT]; rw [if_neg (by decide)])
  have HSame := hide (fun w' (hb : Below (w.setCell ⟨b, 10, none⟩ (.int .i64 (1000 : Int))).heap.size (w.setCell ⟨b, 10, none⟩ (.int .i64 (1000 : Int))) w') => ActR.same (w := w) (w' := w') (X1.below hb) (O1.below hb) hap hnx hmt (TB.trans (T' := fun _ => False) (Touch.ofBelow hb) (fun _ _ e => e.elim)))
  have HMy := hide (mayStand_any B b id tm (1000 : Int) wt la lc sa sc lg st hz (by omega) hg _ X1.1 (X1.cell 0 rfl) (X1.cell 1 rfl) (X1.cell 10 rfl) (X1.cell 11 rfl) (X1.cell 3 rfl) (X1.cell 4 rfl) hE1 O1.st (by omega) hmb.1)
  have HMt : Hid (mayS id tm (1000 : Int) wt (mbAt lg st lg.length) = true → tm < 1000000) := hide (fun e => by unfold mayS at e; simp only [Bool.and_eq_true, decide_eq_true_eq] at e; exact e.2.1)
  have HSt := hide (fun wx (ht : tm < 1000000) (hb : Below (w.setCell ⟨b, 10, none⟩ (.int .i64 (1000 : Int))).heap.size (w.setCell ⟨b, 10, none⟩ (.int .i64 (1000 : Int))) wx) => stand_any B b id tm vo 1 cm (1000 : Int) wt up lg st vs nx mt la lc sa sc va vc g nc h mc draw wx (X1.below hb) (O1.below hb) hap hlo (by have := hb.size; omega) hz hl hg hst hnx hmt hc ⟨htm, ht⟩ hdr)
  have HTB := hide TB
  have t1 := fun wx => ta_other (P := Try.prog) 84 82 79 _ (.agg #[.pointer (some ⟨b, 0, none⟩)]) (.agg #[.pointer none]) wx Try.underlying82 (by decide) (by kernel_rfl)
  have t2 := fun wx => ta_same (P := Try.prog) 84 79 _ (.agg #[.pointer (some ⟨b, 0, none⟩)]) wx Try.underlying84
  have t3 := fun wx => ta_other (P := Try.prog) 84 83 79 _ (.agg #[.pointer (some ⟨b, 0, none⟩)]) (.agg #[.pointer none]) wx Try.underlying83 (by decide) (by kernel_rfl)
  have HR := hide hrl
  rw [show roleV b 1 = .iface 84 (.agg #[.pointer (some ⟨b, 0, none⟩)]) from rfl] at HR
  clear hX hO hap hB hz hg hst hnx hmt hc hnn O1 TB hmb hE1 hrl X1 T1 hapn hT
  generalize mbAt lg st lg.length = mb at *
  go_enter Try.func29, Try.ntmps29
  go_upto_region 1 with fail
  clear x10 f10
  generalize w.setCell ⟨b, 10, none⟩ (.int .i64 (1000 : Int)) = w1 at *
  go_wp2_with fail
  refine (unhide HR).mono ?_
  rintro e w' ⟨rfl, hw'⟩
  have hw2 := hw'.symm
  clear hw'
  subst hw2
  go_wp2_with fail
  refine (unhide HMy).mono ?_
  rintro e w2 ⟨rfl, hb2⟩
  have HB2 := hide hb2
  clear hb2 HMy
  generalize mayS id tm (1000 : Int) wt mb = bo at *
  cases bo
  · have R := hide (unhide HSame w2 (unhide HB2))
    go_wp2_with fail
    go_end0
    refine ⟨⟨_, rfl⟩, ?_⟩
    rw [unhide HU]
    exact unhide R
  · have HC := hide (unhide HSt w2 (unhide HMt rfl) (unhide HB2))
    go_wp2_with fail
    refine (unhide HC).mono ?_
    rintro e w3 ⟨⟨v3, rfl⟩, hA⟩
    have R := hide (hA.from ((unhide HTB).trans (T' := fun _ => False) (Touch.ofBelow (unhide HB2)) (fun _ _ e => e.elim)))
    clear hA HC
    go_wp2_with fail
    go_end0
    refine ⟨⟨_, rfl⟩, ?_⟩
    rw [unhide HU]
    exact unhide R
set_option maxRecDepth 100000 in
set_option maxHeartbeats 2000000 in
theorem tick0a (B b : Nat) (id tm vo cm el wt : Int) (up : Bool) (lg : List En) (st vs nx mt : List Int) (la : Option Addr) (lc : Nat) (sa : Option Addr) (sc : Nat) (va : Option Addr) (vc : Nat) (g nc h mc : Nat) (draw : Int) (w : World) (hX : Blk w b [.int .i64 id, .int .i64 tm, .int .i64 vo, .slice la lg.length lc, .slice sa st.length sc, .int .i64 0, .slice va vs.length vc, .slice (some ⟨g, 0, none⟩) 7 nc, .slice (some ⟨h, 0, none⟩) 7 mc, .int .i64 cm, .int .i64 el, .int .i64 wt, .bool up, .slice none 0 0]) (hO : NoO B w (.slice la lg.length lc) (.slice sa st.length sc) (.slice va vs.length vc) (.slice (some ⟨g, 0, none⟩) 7 nc) (.slice (some ⟨h, 0, none⟩) 7 mc) lg st vs nx mt) (hap : ∀ v ∈ ([.slice la lg.length lc, .slice sa st.length sc, .slice va vs.length vc, .slice (some ⟨g, 0, none⟩) 7 nc, .slice (some ⟨h, 0, none⟩) 7 mc] : List Value), v.ownBlock ≠ some b) (hlo : B ≤ b) (hB : B ≤ w.heap.size) (hz : ∀ i, (lg.getD i default).d.size ≤ maxLen) (hl : lg.length ≤ 60) (hg : CfgOK lg) (hst : mFault st = 0) (hnx : nx.length = 7) (hmt : mt.length = 7) (hc : 0 ≤ cm) (htm : 0 ≤ tm) (hnn : ∀ i, i < 7 → 1 ≤ nx.getD i 0 ∧ nx.getD i 0 ≤ (lg.length : Int) + 1) (hdr : 0 ≤ draw ∧ draw ≤ 1000000) (hel : ¬ 1000 < el + 1 ∧ 0 ≤ el) :
    Calls Try.prog 29 #[.pointer (some ⟨b, 0, none⟩), .int .i64 draw] w fun e w' => (∃ v, e = .returned v) ∧ ActR B b (tickOut (⟨id, tm, vo, 0, cm, el, wt, up, lg, st, vs, nx, mt⟩ : NoD) draw).1 (tickOut (⟨id, tm, vo, 0, cm, el, wt, up, lg, st, vs, nx, mt⟩ : NoD) draw).2 w w' := by
  have hbw := hX.1
  have x10 := hX.cell 10 rfl
  have f10 := hX.fro 10
  have X1 := hX.set 10 (.int .i64 (el + 1)) (by simp)
  simp only [List.set_cons_succ, List.set_cons_zero] at X1
  have T1 := (Touch.refl (fun q => q = b) w).setCell ⟨b, 10, none⟩ (.int .i64 (el + 1)) (fun _ => rfl)
  have hapn : ∀ q, NoT [.slice la lg.length lc, .slice sa st.length sc, .slice va vs.length vc, .slice (some ⟨g, 0, none⟩) 7 nc, .slice (some ⟨h, 0, none⟩) 7 mc] q → q ≠ b := fun q hq e => by obtain ⟨v, hv, hvq⟩ := hq; exact hap v hv (by rw [hvq, e])
  have O1 := NoO.keep hO T1 hapn
  have TB := T1.wide (T' := fun q => B ≤ q) (fun k e => by rw [e]; exact hlo)
  have hs1 := T1.size
  have hmb := mb_seven lg st hg hst
  have hE1 := O1.lg.ens
  have hrl := role_any b 0 _ (X1.cell 5 rfl)
  have hT : elT el = (el + 1) := by unfold elT; first | rw [if_pos hel.1] | rw [if_neg hel.1]
  have q0 : IntKind.i64.wrap (el + 1) = el + 1 := wrapSm _ (by omega) (by omega)
  have q1 := hel.1
  have q2 := hel.2
  have HU : Hid (tickOut (⟨id, tm, vo, 0, cm, el, wt, up, lg, st, vs, nx, mt⟩ : NoD) draw = if mayS id tm (el + 1) wt (mbAt lg st lg.length) then standOut (⟨id, tm, vo, 0, cm, (el + 1), wt, up, lg, st, vs, nx, mt⟩ : NoD) draw else ((⟨id, tm, vo, 0, cm, (el + 1), wt, up, lg, st, vs, nx, mt⟩ : NoD), [])) := hide (by unfold tickOut; simp only [hT]; rw [if_neg (by decide)])
  have HSame := hide (fun w' (hb : Below (w.setCell ⟨b, 10, none⟩ (.int .i64 (el + 1))).heap.size (w.setCell ⟨b, 10, none⟩ (.int .i64 (el + 1))) w') => ActR.same (w := w) (w' := w') (X1.below hb) (O1.below hb) hap hnx hmt (TB.trans (T' := fun _ => False) (Touch.ofBelow hb) (fun _ _ e => e.elim)))
  have HMy := hide (mayStand_any B b id tm (el + 1) wt la lc sa sc lg st hz (by omega) hg _ X1.1 (X1.cell 0 rfl) (X1.cell 1 rfl) (X1.cell 10 rfl) (X1.cell 11 rfl) (X1.cell 3 rfl) (X1.cell 4 rfl) hE1 O1.st (by omega) hmb.1)
  have HMt : Hid (mayS id tm (el + 1) wt (mbAt lg st lg.length) = true → tm < 1000000) := hide (fun e => by unfold mayS at e; simp only [Bool.and_eq_true, decide_eq_true_eq] at e; exact e.2.1)
  have HSt := hide (fun wx (ht : tm < 1000000) (hb : Below (w.setCell ⟨b, 10, none⟩ (.int .i64 (el + 1))).heap.size (w.setCell ⟨b, 10, none⟩ (.int .i64 (el + 1))) wx) => stand_any B b id tm vo 0 cm (el + 1) wt up lg st vs nx mt la lc sa sc va vc g nc h mc draw wx (X1.below hb) (O1.below hb) hap hlo (by have := hb.size; omega) hz hl hg hst hnx hmt hc ⟨htm, ht⟩ hdr)
  have HTB := hide TB
  have t1 := fun wx => ta_other (P := Try.prog) 83 82 79 _ (.agg #[.pointer (some ⟨b, 0, none⟩)]) (.agg #[.pointer none]) wx Try.underlying82 (by decide) (by kernel_rfl)
  have t2 := fun wx => ta_same (P := Try.prog) 83 79 _ (.agg #[.pointer (some ⟨b, 0, none⟩)]) wx Try.underlying83
  have t3 := fun wx => ta_other (P := Try.prog) 83 84 79 _ (.agg #[.pointer (some ⟨b, 0, none⟩)]) (.agg #[.pointer none]) wx Try.underlying84 (by decide) (by kernel_rfl)
  have HR := hide hrl
  rw [show roleV b 0 = .iface 83 (.agg #[.pointer (some ⟨b, 0, none⟩)]) from rfl] at HR
  clear hX hO hap hB hz hg hst hnx hmt hc hnn O1 TB hmb hE1 hrl X1 T1 hapn hT
  generalize mbAt lg st lg.length = mb at *
  go_enter Try.func29, Try.ntmps29
  go_upto_region 1 with fail
  clear x10 f10
  generalize w.setCell ⟨b, 10, none⟩ (.int .i64 (el + 1)) = w1 at *
  go_wp2_with fail
  refine (unhide HR).mono ?_
  rintro e w' ⟨rfl, hw'⟩
  have hw2 := hw'.symm
  clear hw'
  subst hw2
  go_wp2_with fail
  refine (unhide HMy).mono ?_
  rintro e w2 ⟨rfl, hb2⟩
  have HB2 := hide hb2
  clear hb2 HMy
  generalize mayS id tm (el + 1) wt mb = bo at *
  cases bo
  · have R := hide (unhide HSame w2 (unhide HB2))
    go_wp2_with fail
    go_end0
    refine ⟨⟨_, rfl⟩, ?_⟩
    rw [unhide HU]
    exact unhide R
  · have HC := hide (unhide HSt w2 (unhide HMt rfl) (unhide HB2))
    go_wp2_with fail
    refine (unhide HC).mono ?_
    rintro e w3 ⟨⟨v3, rfl⟩, hA⟩
    have R := hide (hA.from ((unhide HTB).trans (T' := fun _ => False) (Touch.ofBelow (unhide HB2)) (fun _ _ e => e.elim)))
    clear hA HC
    go_wp2_with fail
    go_end0
    refine ⟨⟨_, rfl⟩, ?_⟩
    rw [unhide HU]
    exact unhide R
set_option maxRecDepth 100000 in
set_option maxHeartbeats 2000000 in
theorem tick0b (B b : Nat) (id tm vo cm el wt : Int) (up : Bool) (lg : List En) (st vs nx mt : List Int) (la : Option Addr) (lc : Nat) (sa : Option Addr) (sc : Nat) (va : Option Addr) (vc : Nat) (g nc h mc : Nat) (draw : Int) (w : World) (hX : Blk w b [.int .i64 id, .int .i64 tm, .int .i64 vo, .slice la lg.length lc, .slice sa st.length sc, .int .i64 0, .slice va vs.length vc, .slice (some ⟨g, 0, none⟩) 7 nc, .slice (some ⟨h, 0, none⟩) 7 mc, .int .i64 cm, .int .i64 el, .int .i64 wt, .bool up, .slice none 0 0]) (hO : NoO B w (.slice la lg.length lc) (.slice sa st.length sc) (.slice va vs.length vc) (.slice (some ⟨g, 0, none⟩) 7 nc) (.slice (some ⟨h, 0, none⟩) 7 mc) lg st vs nx mt) (hap : ∀ v ∈ ([.slice la lg.length lc, .slice sa st.length sc, .slice va vs.length vc, .slice (some ⟨g, 0, none⟩) 7 nc, .slice (some ⟨h, 0, none⟩) 7 mc] : List Value), v.ownBlock ≠ some b) (hlo : B ≤ b) (hB : B ≤ w.heap.size) (hz : ∀ i, (lg.getD i default).d.size ≤ maxLen) (hl : lg.length ≤ 60) (hg : CfgOK lg) (hst : mFault st = 0) (hnx : nx.length = 7) (hmt : mt.length = 7) (hc : 0 ≤ cm) (htm : 0 ≤ tm) (hnn : ∀ i, i < 7 → 1 ≤ nx.getD i 0 ∧ nx.getD i 0 ≤ (lg.length : Int) + 1) (hdr : 0 ≤ draw ∧ draw ≤ 1000000) (hel : 1000 < el + 1 ∧ el ≤ 1000) :
    Calls Try.prog 29 #[.pointer (some ⟨b, 0, none⟩), .int .i64 draw] w fun e w' => (∃ v, e = .returned v) ∧ ActR B b (tickOut (⟨id, tm, vo, 0, cm, el, wt, up, lg, st, vs, nx, mt⟩ : NoD) draw).1 (tickOut (⟨id, tm, vo, 0, cm, el, wt, up, lg, st, vs, nx, mt⟩ : NoD) draw).2 w w' := by
  have hbw := hX.1
  have x10 := hX.cell 10 rfl
  have f10 := hX.fro 10
  have X1 := hX.set 10 (.int .i64 (1000 : Int)) (by simp)
  simp only [List.set_cons_succ, List.set_cons_zero] at X1
  have T1 := (Touch.refl (fun q => q = b) w).setCell ⟨b, 10, none⟩ (.int .i64 (1000 : Int)) (fun _ => rfl)
  have hapn : ∀ q, NoT [.slice la lg.length lc, .slice sa st.length sc, .slice va vs.length vc, .slice (some ⟨g, 0, none⟩) 7 nc, .slice (some ⟨h, 0, none⟩) 7 mc] q → q ≠ b := fun q hq e => by obtain ⟨v, hv, hvq⟩ := hq; exact hap v hv (by rw [hvq, e])
  have O1 := NoO.keep hO T1 hapn
  have TB := T1.wide (T' := fun q => B ≤ q) (fun k e => by rw [e]; exact hlo)
  have hs1 := T1.size
  have hmb := mb_seven lg st hg hst
  have hE1 := O1.lg.ens
  have hrl := role_any b 0 _ (X1.cell 5 rfl)
  have hT : elT el = (1000 : Int) := by unfold elT; first | rw [if_pos hel.1] | rw [if_neg hel.1]
  have q0 : IntKind.i64.wrap (el + 1) = el + 1 := wrapSm _ (by omega) (by omega)
  have q1 := hel.1
  have q2 := hel.2
  have HU : Hid (tickOut (⟨id, tm, vo, 0, cm, el, wt, up, lg, st, vs, nx, mt⟩ : NoD) draw = if mayS id tm (1000 : Int) wt (mbAt lg st lg.length) then standOut (⟨id, tm, vo, 0, cm, (1000 : Int), wt, up, lg, st, vs, nx, mt⟩ : NoD) draw else ((⟨id, tm, vo, 0, cm, (1000 : Int), wt, up, lg, st, vs, nx, mt⟩ : NoD), [])) := hide (by unfold tickOut; simp only [hT]; rw [if_neg (by decide)])
  have HSame := hide (fun w' (hb : Below (w.setCell ⟨b, 10, none⟩ (.int .i64 (1000 : Int))).heap.size (w.setCell ⟨b, 10, none⟩ (.int .i64 (1000 : Int))) w') => ActR.same (w := w) (w' := w') (X1.below hb) (O1.below hb) hap hnx hmt (TB.trans (T' := fun _ => False) (Touch.ofBelow hb) (fun _ _ e => e.elim)))
  have HMy := hide (mayStand_any B b id tm (1000 : Int) wt la lc sa sc lg st hz (by omega) hg _ X1.1 (X1.cell 0 rfl) (X1.cell 1 rfl) (X1.cell 10 rfl) (X1.cell 11 rfl) (X1.cell 3 rfl) (X1.cell 4 rfl) hE1 O1.st (by omega) hmb.1)
  have HMt : Hid (mayS id tm (1000 : Int) wt (mbAt lg st lg.length) = true → tm < 1000000) := hide (fun e => by unfold mayS at e; simp only [Bool.and_eq_true, decide_eq_true_eq] at e; exact e.2.1)
  have HSt := hide (fun wx (ht : tm < 1000000) (hb : Below (w.setCell ⟨b, 10, none⟩ (.int .i64 (1000 : Int))).heap.size (w.setCell ⟨b, 10, none⟩ (.int .i64 (1000 : Int))) wx) => stand_any B b id tm vo 0 cm (1000 : Int) wt up lg st vs nx mt la lc sa sc va vc g nc h mc draw wx (X1.below hb) (O1.below hb) hap hlo (by have := hb.size; omega) hz hl hg hst hnx hmt hc ⟨htm, ht⟩ hdr)
  have HTB := hide TB
  have t1 := fun wx => ta_other (P := Try.prog) 83 82 79 _ (.agg #[.pointer (some ⟨b, 0, none⟩)]) (.agg #[.pointer none]) wx Try.underlying82 (by decide) (by kernel_rfl)
  have t2 := fun wx => ta_same (P := Try.prog) 83 79 _ (.agg #[.pointer (some ⟨b, 0, none⟩)]) wx Try.underlying83
  have t3 := fun wx => ta_other (P := Try.prog) 83 84 79 _ (.agg #[.pointer (some ⟨b, 0, none⟩)]) (.agg #[.pointer none]) wx Try.underlying84 (by decide) (by kernel_rfl)
  have HR := hide hrl
  rw [show roleV b 0 = .iface 83 (.agg #[.pointer (some ⟨b, 0, none⟩)]) from rfl] at HR
  clear hX hO hap hB hz hg hst hnx hmt hc hnn O1 TB hmb hE1 hrl X1 T1 hapn hT
  generalize mbAt lg st lg.length = mb at *
  go_enter Try.func29, Try.ntmps29
  go_upto_region 1 with fail
  clear x10 f10
  generalize w.setCell ⟨b, 10, none⟩ (.int .i64 (1000 : Int)) = w1 at *
  go_wp2_with fail
  refine (unhide HR).mono ?_
  rintro e w' ⟨rfl, hw'⟩
  have hw2 := hw'.symm
  clear hw'
  subst hw2
  go_wp2_with fail
  refine (unhide HMy).mono ?_
  rintro e w2 ⟨rfl, hb2⟩
  have HB2 := hide hb2
  clear hb2 HMy
  generalize mayS id tm (1000 : Int) wt mb = bo at *
  cases bo
  · have R := hide (unhide HSame w2 (unhide HB2))
    go_wp2_with fail
    go_end0
    refine ⟨⟨_, rfl⟩, ?_⟩
    rw [unhide HU]
    exact unhide R
  · have HC := hide (unhide HSt w2 (unhide HMt rfl) (unhide HB2))
    go_wp2_with fail
    refine (unhide HC).mono ?_
    rintro e w3 ⟨⟨v3, rfl⟩, hA⟩
    have R := hide (hA.from ((unhide HTB).trans (T' := fun _ => False) (Touch.ofBelow (unhide HB2)) (fun _ _ e => e.elim)))
    clear hA HC
    go_wp2_with fail
    go_end0
    refine ⟨⟨_, rfl⟩, ?_⟩
    rw [unhide HU]
    exact unhide R
end Go.Proofs.Ytljolldacpkeeaa
