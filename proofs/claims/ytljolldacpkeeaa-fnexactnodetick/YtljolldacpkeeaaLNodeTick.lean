/- For every node that can be read and every number, laws.FnExactNodeTick returns true, and the node reads as it did. No condition. (Written by py/lnt.py.) -/
import Derived.Test.YtljolldacpkeeaaNtH
import Derived.Test.YtljolldacpkeeaaNtM
import Derived.Test.YtljolldacpkeeaaNodS
import Derived.Test.YtljolldacpkeeaaNodT
import Derived.Test.YtljolldacpkeeaaNodE
import Derived.Test.YtljolldacpkeeaaNodK
import Derived.Test.YtljolldacpkeeaaMgE
import Derived.Deep.DeepCutAuto
namespace Go.Proofs.Ytljolldacpkeeaa.fnExactNodeTick
open Go.ChangeShapes Go.WideShapes Go.ChangeAt Go.RowKit
open Go.ChangeMaps (open_string shut_string)
set_option linter.unusedVariables false

theorem nsKeep {T : Nat → Prop} {B n : Nat} {w w' : World} {v : Value} {l : List MV} (h : Ns mgS B w v n l) (ht : Touch T w w') (hn : ∀ k, NsT mgS v l k → ¬ T k) : Ns mgS B w' v n l :=
  ⟨own_kept h.row ht (fun k hk => hn k (.inl hk)), h.ln, fun p hp => (h.sub p hp).kept ht (fun k hk => hn k (.inr ⟨p, hp, hk⟩)), h.ap⟩
theorem nsT_marks (c : Nat) (v : Value) (l : List MV) (q : Nat) (h : NsT mgS v (mkMs c l) q) : NsT mgS v l q := by
  rcases h with h | ⟨p, hp, hq⟩
  · exact .inl h
  · refine .inr ?_
    induction l generalizing c with
    | nil => simp [mkMs] at hp
    | cons x l ih =>
      simp only [mkMs, List.flatMap_cons, List.mem_append] at hp
      rcases hp with hp | hp
      · simp only [mgS, mgSubs, List.mem_cons, List.not_mem_nil, or_false] at hp
        subst hp
        exact ⟨(x.ev, .E x.es), by simp [mgS, mgSubs], hq⟩
      · obtain ⟨r, hr, hrq⟩ := ih _ hp
        exact ⟨r, by rw [List.flatMap_cons]; exact List.mem_append.2 (.inr hr), hrq⟩
theorem same_of {l m : List MV} {ms : List MV} (h1 : l.map bareM = ms) (h2 : m.map bareM = ms) : ∀ (i : Nat) (x y : MV), l[i]? = some x → m[i]? = some y → SameM x y := by
  intro i x y hx hy
  have e : bareM x = bareM y := by
    have a1 : (l.map bareM)[i]? = some (bareM x) := by rw [List.getElem?_map, hx]; rfl
    have a2 : (m.map bareM)[i]? = some (bareM y) := by rw [List.getElem?_map, hy]; rfl
    rw [h1] at a1
    rw [h2] at a2
    exact Option.some.inj (a1.symm.trans a2)
  unfold bareM at e
  simp only [MV.mk.injEq] at e
  obtain ⟨e1, e2, e3, e4, e5, e6, e7, e8, e9, _⟩ := e
  exact ⟨e1, e2, e3, e4, e5, e6, e7, e8, e9⟩
theorem es_of {l ms : List MV} (h : l.map bareM = ms) (hs : ∀ x ∈ ms, x.es.length ≤ 60) : ∀ x ∈ l, x.es.length ≤ 60 := fun x hx => hs (bareM x) (by rw [← h]; exact List.mem_map_of_mem hx)
/-- What comes out is small. -/
structure Sm (d : NoD) (ms : List MV) : Prop where
  s0 : d.lg.length ≤ 60
  s1 : d.st.length ≤ 7
  s2 : d.vs.length ≤ 7
  s3 : d.nx.length ≤ 7
  s4 : d.mt.length ≤ 7
  dt : ∀ i, (d.lg.getD i default).d.size ≤ 1048576
  ml : ms.length ≤ 7
  me : ∀ x ∈ ms, x.es.length ≤ 60
theorem Sm.nos {d : NoD} {ms : List MV} (h : Sm d ms) : NoS d.lg d.st d.vs d.nx d.mt := ⟨by have := h.s0; omega, h.dt, by have := h.s1; omega, by have := h.s2; omega, by have := h.s3; omega, by have := h.s4; omega⟩
theorem sm_zero : Sm zeroNo [] := by
  have e : (default : En).d.size = 0 := rfl
  exact ⟨by simp [zeroNo], by simp [zeroNo], by simp [zeroNo], by simp [zeroNo], by simp [zeroNo], fun i => by simp [zeroNo, e], by simp, by simp⟩
theorem sm_tell (id tm cm : Int) (lg : List En) (nx ds : List Int) (h : lg.length ≤ 60) (hd : ds.length ≤ 7) : (tellL id tm cm lg nx ds).length ≤ 7 ∧ ∀ x ∈ tellL id tm cm lg nx ds, x.es.length ≤ 60 := by
  refine ⟨?_, ?_⟩
  · simp only [tellL, List.length_map]
    exact Nat.le_trans (List.length_filter_le _ _) hd
  · intro x hx
    simp only [tellL, List.mem_map] at hx
    obtain ⟨d, _, rfl⟩ := hx
    simp only [tellM, List.length_drop]
    omega
theorem sm_plea (id tm : Int) (lg : List En) (ds : List Int) (hd : ds.length ≤ 7) : (pleaL id tm lg ds).length ≤ 7 ∧ ∀ x ∈ pleaL id tm lg ds, x.es.length ≤ 60 := by
  refine ⟨?_, ?_⟩
  · simp only [pleaL, List.length_map]
    exact Nat.le_trans (List.length_filter_le _ _) hd
  · intro x hx
    simp only [pleaL, List.mem_map] at hx
    obtain ⟨d, _, rfl⟩ := hx
    simp [pleaM]
theorem sm_lead (n : NoD) (h0 : n.lg.length ≤ 60) (h1 : n.st.length ≤ 7) (h2 : n.vs.length ≤ 7) (hd : ∀ i, (n.lg.getD i default).d.size ≤ 1048576) (hg : CfgOK n.lg) (hst : mFault n.st = 0) : Sm (leadOut n).1 (leadOut n).2 := by
  have hl := leadL_le n.tm n.lg h0
  have hm := mb_seven (leadL n.tm n.lg) n.st (leadL_cfg hg) hst
  obtain ⟨t1, t2⟩ := sm_tell n.id n.tm n.cm (leadL n.tm n.lg) (List.replicate 7 ((n.lg.length : Int) + 1)) (mbAt (leadL n.tm n.lg) n.st (leadL n.tm n.lg).length) hl.1 hm.1
  exact ⟨hl.1, h1, h2, by simp [leadOut], by simp [leadOut], leadL_size hd, t1, t2⟩
theorem sm_out (id tm vo ro cm el wt : Int) (up : Bool) (lg : List En) (st vs nx mt : List Int) (hs : NoS lg st vs nx mt) (draw : Int) : Sm (ntOut (nodeB id tm vo ro cm el wt up lg st vs nx mt) ⟨id, tm, vo, ro, cm, el, wt, up, lg, st, vs, nx, mt⟩ draw).1 (ntOut (nodeB id tm vo ro cm el wt up lg st vs nx mt) ⟨id, tm, vo, ro, cm, el, wt, up, lg, st, vs, nx, mt⟩ draw).2.1 := by
  unfold ntOut
  split
  · rename_i hh
    obtain ⟨p0, p1, p2, p3, p4, p5, p6⟩ := node_small hh
    have hm := mb_seven lg st (cfg_of_node hh) p5
    have base : ∀ e : Int, Sm ⟨id, tm, vo, ro, cm, e, wt, up, lg, st, vs, nx, mt⟩ [] := fun e => ⟨p0, p1, p2, by simp only; omega, by simp only; omega, hs.dt, by simp, by simp⟩
    split
    · split
      · unfold tickOut
        split
        · split
          · exact base _
          · obtain ⟨t1, t2⟩ := sm_tell id tm cm lg nx (mbAt lg st lg.length) p0 hm.1
            exact ⟨p0, p1, p2, by simp only; omega, by simp only; omega, hs.dt, t1, t2⟩
        · split
          · unfold standOut
            split
            · exact sm_lead _ p0 p1 (by simp [canN]) hs.dt (cfg_of_node hh) p5
            · obtain ⟨t1, t2⟩ := sm_plea id (tm + 1) lg (mbAt lg st lg.length) hm.1
              exact ⟨p0, p1, by simp [canN], by simp only [canN]; omega, by simp only [canN]; omega, hs.dt, t1, t2⟩
          · exact base _
      · exact base _
    · exact sm_zero
  · exact sm_zero
set_option maxRecDepth 100000 in
set_option maxHeartbeats 16000000 in
theorem walk (id tm vo ro cm el wt : Int) (up : Bool) (lv sv vv nv mv : Value) (lg : List En) (st vs nx mt : List Int) (draw : Int) (w : World) (hf : NoR w lv sv vv nv mv lg st vs nx mt) (hz : ∀ i, i < lg.length → (lg.getD i default).d.size ≤ maxLen) (hdm : (Lit.int .i64 draw).wf = true) :
    Calls Try.prog 3 #[.agg #[.int .i64 id, .int .i64 tm, .int .i64 vo, lv, sv, .int .i64 ro, vv, nv, mv, .int .i64 cm, .int .i64 el, .int .i64 wt, .bool up], .int .i64 draw] w fun e w' => e = .returned (.bool true) ∧ Below w.heap.size w w' := by
  obtain ⟨la, lc, rfl⟩ := hf.lg.shape
  obtain ⟨sa, sc, rfl⟩ := hf.st.shape
  obtain ⟨va, vc, rfl⟩ := hf.vs.shape
  obtain ⟨na, nc, rfl⟩ := hf.nx.shape
  obtain ⟨ma, mc, rfl⟩ := hf.mt.shape
  have HF := hide hf
  have HZ := hide hz
  clear hf hz
  have B0 := hide ((Below.refl w.heap.size w).alloc (Nat.le_refl _) (.cells #[.int .i64 id, .int .i64 tm, .int .i64 vo, .slice la lg.length lc, .slice sa st.length sc, .int .i64 ro, .slice va vs.length vc, .slice na nx.length nc, .slice ma mt.length mc, .int .i64 cm, .int .i64 el, .int .i64 wt, .bool up] 25))
  have X0 := hide (Blk.new w #[.int .i64 id, .int .i64 tm, .int .i64 vo, .slice la lg.length lc, .slice sa st.length sc, .int .i64 ro, .slice va vs.length vc, .slice na nx.length nc, .slice ma mt.length mc, .int .i64 cm, .int .i64 el, .int .i64 wt, .bool up] 25 w.heap.size rfl)
  clear hdm
  go_enter Try.func3, Try.ntmps3
  have x0 := (unhide X0).cell 0 rfl
  have x1 := (unhide X0).cell 1 rfl
  have x2 := (unhide X0).cell 2 rfl
  have x3 := (unhide X0).cell 3 rfl
  have x4 := (unhide X0).cell 4 rfl
  have x5 := (unhide X0).cell 5 rfl
  have x6 := (unhide X0).cell 6 rfl
  have x7 := (unhide X0).cell 7 rfl
  have x8 := (unhide X0).cell 8 rfl
  have x9 := (unhide X0).cell 9 rfl
  have x10 := (unhide X0).cell 10 rfl
  have x11 := (unhide X0).cell 11 rfl
  have x12 := (unhide X0).cell 12 rfl
  go_wp2_with fail
  generalize w.alloc (.cells #[.int .i64 id, .int .i64 tm, .int .i64 vo, .slice la lg.length lc, .slice sa st.length sc, .int .i64 ro, .slice va vs.length vc, .slice na nx.length nc, .slice ma mt.length mc, .int .i64 cm, .int .i64 el, .int .i64 wt, .bool up] 25) = w0 at *
  refine (szNode_any id tm vo ro cm el wt up lg st vs nx mt la lc sa sc va vc na nc ma mc 1048576 w0 ((unhide HF).below (unhide B0)) (by omega) (by omega) (unhide HZ)).mono ?_
  rintro e w1 ⟨rfl, hb1⟩
  clear x0 x1 x2 x3 x4 x5 x6 x7 x8 x9 x10 x11 x12
  have K1 := hide ((unhide B0).trans (hb1.mono (unhide B0).size))
  have A1 := hide ((unhide HF).below (unhide K1))
  have XX := (unhide X0).below hb1
  have x0 := XX.cell 0 rfl
  have x1 := XX.cell 1 rfl
  have x2 := XX.cell 2 rfl
  have x3 := XX.cell 3 rfl
  have x4 := XX.cell 4 rfl
  have x5 := XX.cell 5 rfl
  have x6 := XX.cell 6 rfl
  have x7 := XX.cell 7 rfl
  have x8 := XX.cell 8 rfl
  have x9 := XX.cell 9 rfl
  have x10 := XX.cell 10 rfl
  have x11 := XX.cell 11 rfl
  have x12 := XX.cell 12 rfl
  have X1 := hide XX
  clear hb1 B0 X0 XX
  rcases noszR_cases 1048576 (by omega) lg st vs nx mt with hr | ⟨hr, hrl, hsm⟩
  · rw [hr]
    go_wp2_with fail
    go_ret
    exact ⟨rfl, unhide K1⟩
  have HSM := hide hsm
  have HSA := hide (sm_out id tm vo ro cm el wt up lg st vs nx mt hsm draw)
  clear hsm
  generalize noszR 1048576 lg st.length vs.length nx.length mt.length = r at *
  go_wp2_with fail
  refine (toNode_any id tm vo ro cm el wt up lg st vs nx mt la lc sa sc va vc na nc ma mc w1 (unhide A1) (unhide HSM)).mono ?_
  rintro e w2 ⟨l2, s2, v2, n2, m2, rfl, hO, hb⟩
  have K2 := hide ((unhide K1).trans (hb.mono (unhide K1).size))
  have X2 := hide ((unhide X1).below hb)
  have HC := hide (specNodeTick_any id tm vo ro cm el wt up lg st vs nx mt _ _ _ _ _ _ _ _ _ _ draw w2 hO.read (unhide HSM))
  clear hO hb K1 A1 X1 x0 x1 x2 x3 x4 x5 x6 x7 x8 x9 x10 x11 x12
  go_wp2_with fail
  refine (unhide HC).mono ?_
  clear HC
  have HIM := hide (fun wx (la' : Option Addr) (lc' : Nat) (sa' : Option Addr) (sc' : Nat) (va' : Option Addr) (vc' : Nat) (na' : Option Addr) (nc' : Nat) (ma' : Option Addr) (mc' : Nat) (hx : NoR wx (.slice la' lg.length lc') (.slice sa' st.length sc') (.slice va' vs.length vc') (.slice na' nx.length nc') (.slice ma' mt.length mc') lg st vs nx mt) => implNodeTick_any id tm vo ro cm el wt up lg st vs nx mt la' lc' sa' sc' va' vc' na' nc' ma' mc' draw wx hx (unhide HSM))
  obtain ⟨out, hout⟩ : ∃ out, out = ntOut (nodeB id tm vo ro cm el wt up lg st vs nx mt) ⟨id, tm, vo, ro, cm, el, wt, up, lg, st, vs, nx, mt⟩ draw := ⟨_, rfl⟩
  rw [← hout] at HSA HIM ⊢
  clear hout
  obtain ⟨⟨id_, tm_, vo_, ro_, cm_, el_, wt_, up_, lg_, st_, vs_, nx_, mt_⟩, ms, cd⟩ := out
  dsimp only at HSA
  have HSN := hide (unhide HSA).nos
  dsimp only at HSN
  rintro e w3 ⟨la3, lc3, sa3, sc3, va3, vc3, na3, nc3, ma3, mc3, mv3, l3, rfl, hO, hN, hM, hAp, hb⟩
  dsimp only at hO hN hM ⊢
  have HL3 := hide (show l3.length ≤ 7 by have := (unhide HSA).ml; rw [← hM, List.length_map] at this; exact this)
  have HM3 := hide hM
  have K3a := (unhide K2).trans (hb.mono (unhide K2).size)
  have BB := (Below.refl w3.heap.size w3).alloc (Nat.le_refl _) (.cells #[.int .i64 id_, .int .i64 tm_, .int .i64 vo_, .slice la3 lg_.length lc3, .slice sa3 st_.length sc3, .int .i64 ro_, .slice va3 vs_.length vc3, .slice na3 nx_.length nc3, .slice ma3 mt_.length mc3, .int .i64 cm_, .int .i64 el_, .int .i64 wt_, .bool up_] 29)
  have bA := hb.trans (BB.mono hb.size)
  have K4 := hide (K3a.alloc K3a.size (.cells #[.int .i64 id_, .int .i64 tm_, .int .i64 vo_, .slice la3 lg_.length lc3, .slice sa3 st_.length sc3, .int .i64 ro_, .slice va3 vs_.length vc3, .slice na3 nx_.length nc3, .slice ma3 mt_.length mc3, .int .i64 cm_, .int .i64 el_, .int .i64 wt_, .bool up_] 29))
  have X4 := (unhide X2).below bA
  have S4 := hide (hO.below BB)
  have SB := hide (NoO.blk hO)
  have SM4 := hide (hN.below BB)
  have SMB := hide (fun q h => nsT_ge hN q h)
  have Q4 := hide (Blk.new w3 #[.int .i64 id_, .int .i64 tm_, .int .i64 vo_, .slice la3 lg_.length lc3, .slice sa3 st_.length sc3, .int .i64 ro_, .slice va3 vs_.length vc3, .slice na3 nx_.length nc3, .slice ma3 mt_.length mc3, .int .i64 cm_, .int .i64 el_, .int .i64 wt_, .bool up_] 29 w3.heap.size rfl)
  have HZ4 : Hid ((w3.alloc (.cells #[.int .i64 id_, .int .i64 tm_, .int .i64 vo_, .slice la3 lg_.length lc3, .slice sa3 st_.length sc3, .int .i64 ro_, .slice va3 vs_.length vc3, .slice na3 nx_.length nc3, .slice ma3 mt_.length mc3, .int .i64 cm_, .int .i64 el_, .int .i64 wt_, .bool up_] 29)).heap.size = w3.heap.size + 1) := hide (by simp)
  have HW3 := hide (And.intro X4.1 (unhide X2).1)
  have HX4 := hide X4
  have x0 := X4.cell 0 rfl
  have x1 := X4.cell 1 rfl
  have x2 := X4.cell 2 rfl
  have x3 := X4.cell 3 rfl
  have x4 := X4.cell 4 rfl
  have x5 := X4.cell 5 rfl
  have x6 := X4.cell 6 rfl
  have x7 := X4.cell 7 rfl
  have x8 := X4.cell 8 rfl
  have x9 := X4.cell 9 rfl
  have x10 := X4.cell 10 rfl
  have x11 := X4.cell 11 rfl
  have x12 := X4.cell 12 rfl
  clear BB bA K3a hO hN hM hAp hb K2 X2 X4
  go_wp2_with fail
  generalize w3.alloc (.cells #[.int .i64 id_, .int .i64 tm_, .int .i64 vo_, .slice la3 lg_.length lc3, .slice sa3 st_.length sc3, .int .i64 ro_, .slice va3 vs_.length vc3, .slice na3 nx_.length nc3, .slice ma3 mt_.length mc3, .int .i64 cm_, .int .i64 el_, .int .i64 wt_, .bool up_] 29) = w4 at *
  generalize w3.heap.size = qb at *
  have A4 := hide ((unhide HF).below (unhide K4))
  refine (toNode_any id tm vo ro cm el wt up lg st vs nx mt la lc sa sc va vc na nc ma mc w4 (unhide A4) (unhide HSM)).mono ?_
  rintro e w5 ⟨l4, s4, v4, n4, m4, rfl, hO, hb⟩
  have K5a := (unhide K4).trans (hb.mono (unhide K4).size)
  have BB := (Below.refl w5.heap.size w5).alloc (Nat.le_refl _) (.cells #[.int .i64 id, .int .i64 tm, .int .i64 vo, .slice (some ⟨l4, 0, none⟩) lg.length lg.length, .slice (some ⟨s4, 0, none⟩) st.length st.length, .int .i64 ro, .slice (some ⟨v4, 0, none⟩) vs.length vs.length, .slice (some ⟨n4, 0, none⟩) nx.length nx.length, .slice (some ⟨m4, 0, none⟩) mt.length mt.length, .int .i64 cm, .int .i64 el, .int .i64 wt, .bool up] 29)
  have bA := hb.trans (BB.mono hb.size)
  have K6 := hide (K5a.alloc K5a.size (.cells #[.int .i64 id, .int .i64 tm, .int .i64 vo, .slice (some ⟨l4, 0, none⟩) lg.length lg.length, .slice (some ⟨s4, 0, none⟩) st.length st.length, .int .i64 ro, .slice (some ⟨v4, 0, none⟩) vs.length vs.length, .slice (some ⟨n4, 0, none⟩) nx.length nx.length, .slice (some ⟨m4, 0, none⟩) mt.length mt.length, .int .i64 cm, .int .i64 el, .int .i64 wt, .bool up] 29))
  have S6 := hide ((unhide S4).below bA)
  have SM6 := hide ((unhide SM4).below bA)
  have Q6 := hide ((unhide Q4).below bA)
  have HX6 := hide ((unhide HX4).below bA)
  have V6 := hide (hO.below BB)
  have VB := hide (NoO.blk hO)
  have Y6 := Blk.new w5 #[.int .i64 id, .int .i64 tm, .int .i64 vo, .slice (some ⟨l4, 0, none⟩) lg.length lg.length, .slice (some ⟨s4, 0, none⟩) st.length st.length, .int .i64 ro, .slice (some ⟨v4, 0, none⟩) vs.length vs.length, .slice (some ⟨n4, 0, none⟩) nx.length nx.length, .slice (some ⟨m4, 0, none⟩) mt.length mt.length, .int .i64 cm, .int .i64 el, .int .i64 wt, .bool up] 29 w5.heap.size rfl
  have HY6 := hide Y6
  have HZ6 : Hid ((w5.alloc (.cells #[.int .i64 id, .int .i64 tm, .int .i64 vo, .slice (some ⟨l4, 0, none⟩) lg.length lg.length, .slice (some ⟨s4, 0, none⟩) st.length st.length, .int .i64 ro, .slice (some ⟨v4, 0, none⟩) vs.length vs.length, .slice (some ⟨n4, 0, none⟩) nx.length nx.length, .slice (some ⟨m4, 0, none⟩) mt.length mt.length, .int .i64 cm, .int .i64 el, .int .i64 wt, .bool up] 29)).heap.size = w5.heap.size + 1) := hide (by simp)
  have HW5 := hide hb.size
  have y0 := Y6.cell 0 rfl
  have y1 := Y6.cell 1 rfl
  have y2 := Y6.cell 2 rfl
  have y3 := Y6.cell 3 rfl
  have y4 := Y6.cell 4 rfl
  have y5 := Y6.cell 5 rfl
  have y6 := Y6.cell 6 rfl
  have y7 := Y6.cell 7 rfl
  have y8 := Y6.cell 8 rfl
  have y9 := Y6.cell 9 rfl
  have y10 := Y6.cell 10 rfl
  have y11 := Y6.cell 11 rfl
  have y12 := Y6.cell 12 rfl
  clear BB bA K5a hO hb K4 S4 SM4 Q4 HX4 A4 Y6 x0 x1 x2 x3 x4 x5 x6 x7 x8 x9 x10 x11 x12
  have HC0 := hide (fun wx (hx : NoO w4.heap.size wx (.slice (some ⟨l4, 0, none⟩) lg.length lg.length) (.slice (some ⟨s4, 0, none⟩) st.length st.length) (.slice (some ⟨v4, 0, none⟩) vs.length vs.length) (.slice (some ⟨n4, 0, none⟩) nx.length nx.length) (.slice (some ⟨m4, 0, none⟩) mt.length mt.length) lg st vs nx mt) => unhide HIM wx (some ⟨l4, 0, none⟩) lg.length (some ⟨s4, 0, none⟩) st.length (some ⟨v4, 0, none⟩) vs.length (some ⟨n4, 0, none⟩) nx.length (some ⟨m4, 0, none⟩) mt.length hx.read)
  go_wp2_with fail
  generalize w5.alloc (.cells #[.int .i64 id, .int .i64 tm, .int .i64 vo, .slice (some ⟨l4, 0, none⟩) lg.length lg.length, .slice (some ⟨s4, 0, none⟩) st.length st.length, .int .i64 ro, .slice (some ⟨v4, 0, none⟩) vs.length vs.length, .slice (some ⟨n4, 0, none⟩) nx.length nx.length, .slice (some ⟨m4, 0, none⟩) mt.length mt.length, .int .i64 cm, .int .i64 el, .int .i64 wt, .bool up] 29) = w6 at *
  generalize w5.heap.size = yb at *
  refine (unhide HC0 w6 (unhide V6)).mono ?_
  rintro e w7 ⟨la7, lc7, sa7, sc7, va7, vc7, na7, nc7, ma7, mc7, mv7, l7, rfl, hO, hN, hM, hAp, hb⟩
  dsimp only at hO hN hM hAp ⊢
  have hl73 : l7.length = l3.length := by have h1 := congrArg List.length hM; have h2 := congrArg List.length (unhide HM3); rw [List.length_map] at h1 h2; omega
  rw [hl73] at hN
  have HE7 := hide (same_of hM (unhide HM3))
  have HES := hide (es_of hM (unhide HSA).me)
  have K7a := (unhide K6).trans (hb.mono (unhide K6).size)
  have BB := (Below.refl w7.heap.size w7).alloc (Nat.le_refl _) (.cells #[.int .i64 id_, .int .i64 tm_, .int .i64 vo_, .slice la7 lg_.length lc7, .slice sa7 st_.length sc7, .int .i64 ro_, .slice va7 vs_.length vc7, .slice na7 nx_.length nc7, .slice ma7 mt_.length mc7, .int .i64 cm_, .int .i64 el_, .int .i64 wt_, .bool up_] 29)
  have bA := hb.trans (BB.mono hb.size)
  have K8 := hide (K7a.alloc K7a.size (.cells #[.int .i64 id_, .int .i64 tm_, .int .i64 vo_, .slice la7 lg_.length lc7, .slice sa7 st_.length sc7, .int .i64 ro_, .slice va7 vs_.length vc7, .slice na7 nx_.length nc7, .slice ma7 mt_.length mc7, .int .i64 cm_, .int .i64 el_, .int .i64 wt_, .bool up_] 29))
  have S8 := hide ((unhide S6).below bA)
  have SM8 := hide ((unhide SM6).below bA)
  have Q8 := (unhide Q6).below bA
  have HX8 := hide ((unhide HX6).below bA)
  have V8 := hide ((unhide V6).below bA)
  have HY8 := hide ((unhide HY6).below bA)
  have G8 := hide (hO.below BB)
  have GB := hide (NoO.blk hO)
  have GM8 := hide (hN.below BB)
  have GMB := hide (fun q h => nsT_ge hN q h)
  have GAP := hide hAp
  have Z8 := Blk.new w7 #[.int .i64 id_, .int .i64 tm_, .int .i64 vo_, .slice la7 lg_.length lc7, .slice sa7 st_.length sc7, .int .i64 ro_, .slice va7 vs_.length vc7, .slice na7 nx_.length nc7, .slice ma7 mt_.length mc7, .int .i64 cm_, .int .i64 el_, .int .i64 wt_, .bool up_] 29 w7.heap.size rfl
  have HQ8 := hide Q8
  have HZ8 := hide Z8
  have HW7 := hide hb.size
  have q0 := Q8.cell 0 rfl
  have q1 := Q8.cell 1 rfl
  have q2 := Q8.cell 2 rfl
  have q3 := Q8.cell 3 rfl
  have q4 := Q8.cell 4 rfl
  have q5 := Q8.cell 5 rfl
  have q6 := Q8.cell 6 rfl
  have q7 := Q8.cell 7 rfl
  have q8 := Q8.cell 8 rfl
  have q9 := Q8.cell 9 rfl
  have q10 := Q8.cell 10 rfl
  have q11 := Q8.cell 11 rfl
  have q12 := Q8.cell 12 rfl
  have z0 := Z8.cell 0 rfl
  have z1 := Z8.cell 1 rfl
  have z2 := Z8.cell 2 rfl
  have z3 := Z8.cell 3 rfl
  have z4 := Z8.cell 4 rfl
  have z5 := Z8.cell 5 rfl
  have z6 := Z8.cell 6 rfl
  have z7 := Z8.cell 7 rfl
  have z8 := Z8.cell 8 rfl
  have z9 := Z8.cell 9 rfl
  have z10 := Z8.cell 10 rfl
  have z11 := Z8.cell 11 rfl
  have z12 := Z8.cell 12 rfl
  clear BB bA K7a hO hN hM hAp hb hl73 K6 S6 SM6 Q6 HX6 V6 HY6 Q8 Z8 HC0 y0 y1 y2 y3 y4 y5 y6 y7 y8 y9 y10 y11 y12
  have hcd : (cd == cd) = true := by simp
  go_wp2_with fail
  generalize w7.alloc (.cells #[.int .i64 id_, .int .i64 tm_, .int .i64 vo_, .slice la7 lg_.length lc7, .slice sa7 st_.length sc7, .int .i64 ro_, .slice va7 vs_.length vc7, .slice na7 nx_.length nc7, .slice ma7 mt_.length mc7, .int .i64 cm_, .int .i64 el_, .int .i64 wt_, .bool up_] 29) = w8 at *
  generalize w7.heap.size = zb at *
  refine (eqNode_any id_ tm_ vo_ ro_ cm_ el_ wt_ up_ lg_ st_ vs_ nx_ mt_ la7 lc7 sa7 sc7 va7 vc7 na7 nc7 ma7 mc7 la3 lc3 sa3 sc3 va3 vc3 na3 nc3 ma3 mc3 w8 (unhide G8).read (unhide S8).read (unhide HSN)).mono ?_
  rintro e w9 ⟨rfl, hb⟩
  clear q0 q1 q2 q3 q4 q5 q6 q7 q8 q9 q10 q11 q12 z0 z1 z2 z3 z4 z5 z6 z7 z8 z9 z10 z11 z12
  have S9 := hide ((unhide S8).below hb)
  have SM9 := hide ((unhide SM8).below hb)
  have V9 := hide ((unhide V8).below hb)
  have G9 := hide ((unhide G8).below hb)
  have GM9 := hide ((unhide GM8).below hb)
  have HX9 := hide ((unhide HX8).below hb)
  have HY9 := hide ((unhide HY8).below hb)
  have HQ9 := hide ((unhide HQ8).below hb)
  have HZ9 := hide ((unhide HZ8).below hb)
  have K9 := hide ((unhide K8).trans (hb.mono (unhide K8).size))
  clear hb K8 S8 SM8 V8 G8 GM8 HX8 HY8 HQ8 HZ8
  have HC := hide (eqMessageS_any w6.heap.size w2.heap.size mv7 mv3 l3.length l7 l3 w9 (unhide GM9) (unhide SM9) (by have := unhide HL3; omega) (unhide HE7) (fun x hx => by have := unhide HES x hx; omega))
  go_wp2_with fail
  refine (unhide HC).mono ?_
  rintro e w10 ⟨rfl, hb⟩
  clear HC
  have S10 := hide ((unhide S9).below hb)
  have SM10 := hide ((unhide SM9).below hb)
  have V10 := hide ((unhide V9).below hb)
  have G10 := hide ((unhide G9).below hb)
  have GM10 := hide ((unhide GM9).below hb)
  have HX10 := hide ((unhide HX9).below hb)
  have HY10 := hide ((unhide HY9).below hb)
  have HQ10 := hide ((unhide HQ9).below hb)
  have HZ10 := hide ((unhide HZ9).below hb)
  have K10 := hide ((unhide K9).trans (hb.mono (unhide K9).size))
  clear hb K9 S9 SM9 V9 G9 GM9 HX9 HY9 HQ9 HZ9
  have A10 := hide ((unhide HF).below (unhide K10))
  go_wp2_with fail
  go_cut [60] (fun s wx => s = .bool false ∧ Below w10.heap.size w10 wx)
  case first =>
    have hb0 := below_drewN (Below.refl w10.heap.size w10) 1
    have V7d := hide ((unhide V10).below hb0)
    have A7d := hide ((unhide A10).below hb0)
    have XX := unhide HX10
    have YY := unhide HY10
    have hzy := YY.1
    have hzx := XX.1
    have x70 := XX.cell 0 rfl
    have x71 := XX.cell 1 rfl
    have x72 := XX.cell 2 rfl
    have x73 := XX.cell 3 rfl
    have x74 := XX.cell 4 rfl
    have x75 := XX.cell 5 rfl
    have x76 := XX.cell 6 rfl
    have x77 := XX.cell 7 rfl
    have x78 := XX.cell 8 rfl
    have x79 := XX.cell 9 rfl
    have x710 := XX.cell 10 rfl
    have x711 := XX.cell 11 rfl
    have x712 := XX.cell 12 rfl
    have y70 := YY.cell 0 rfl
    have y71 := YY.cell 1 rfl
    have y72 := YY.cell 2 rfl
    have y73 := YY.cell 3 rfl
    have y74 := YY.cell 4 rfl
    have y75 := YY.cell 5 rfl
    have y76 := YY.cell 6 rfl
    have y77 := YY.cell 7 rfl
    have y78 := YY.cell 8 rfl
    have y79 := YY.cell 9 rfl
    have y710 := YY.cell 10 rfl
    have y711 := YY.cell 11 rfl
    have y712 := YY.cell 12 rfl
    clear XX YY K10 S10 SM10 G10 GM10 HX10 HY10 A10 V10 HQ10 HZ10
    go_region_held3 (fun wx => wx.cell? ⟨yb, 0, none⟩ = some (.int .i64 id) ∧ wx.cell? ⟨yb, 1, none⟩ = some (.int .i64 tm) ∧ wx.cell? ⟨yb, 2, none⟩ = some (.int .i64 vo) ∧ wx.cell? ⟨yb, 3, none⟩ = some (.slice (some ⟨l4, 0, none⟩) lg.length lg.length) ∧ wx.cell? ⟨yb, 4, none⟩ = some (.slice (some ⟨s4, 0, none⟩) st.length st.length) ∧ wx.cell? ⟨yb, 5, none⟩ = some (.int .i64 ro) ∧ wx.cell? ⟨yb, 6, none⟩ = some (.slice (some ⟨v4, 0, none⟩) vs.length vs.length) ∧ wx.cell? ⟨yb, 7, none⟩ = some (.slice (some ⟨n4, 0, none⟩) nx.length nx.length) ∧ wx.cell? ⟨yb, 8, none⟩ = some (.slice (some ⟨m4, 0, none⟩) mt.length mt.length) ∧ wx.cell? ⟨yb, 9, none⟩ = some (.int .i64 cm) ∧ wx.cell? ⟨yb, 10, none⟩ = some (.int .i64 el) ∧ wx.cell? ⟨yb, 11, none⟩ = some (.int .i64 wt) ∧ wx.cell? ⟨yb, 12, none⟩ = some (.bool up) ∧ wx.cell? ⟨w.heap.size, 0, none⟩ = some (.int .i64 id) ∧ wx.cell? ⟨w.heap.size, 1, none⟩ = some (.int .i64 tm) ∧ wx.cell? ⟨w.heap.size, 2, none⟩ = some (.int .i64 vo) ∧ wx.cell? ⟨w.heap.size, 3, none⟩ = some (.slice la lg.length lc) ∧ wx.cell? ⟨w.heap.size, 4, none⟩ = some (.slice sa st.length sc) ∧ wx.cell? ⟨w.heap.size, 5, none⟩ = some (.int .i64 ro) ∧ wx.cell? ⟨w.heap.size, 6, none⟩ = some (.slice va vs.length vc) ∧ wx.cell? ⟨w.heap.size, 7, none⟩ = some (.slice na nx.length nc) ∧ wx.cell? ⟨w.heap.size, 8, none⟩ = some (.slice ma mt.length mc) ∧ wx.cell? ⟨w.heap.size, 9, none⟩ = some (.int .i64 cm) ∧ wx.cell? ⟨w.heap.size, 10, none⟩ = some (.int .i64 el) ∧ wx.cell? ⟨w.heap.size, 11, none⟩ = some (.int .i64 wt) ∧ wx.cell? ⟨w.heap.size, 12, none⟩ = some (.bool up))
      (first
        | go_keep
        | exact ⟨(hb8.cell (p := ⟨yb, 0, none⟩) hq7).trans k0, (hb8.cell (p := ⟨yb, 1, none⟩) hq7).trans k1, (hb8.cell (p := ⟨yb, 2, none⟩) hq7).trans k2, (hb8.cell (p := ⟨yb, 3, none⟩) hq7).trans k3, (hb8.cell (p := ⟨yb, 4, none⟩) hq7).trans k4, (hb8.cell (p := ⟨yb, 5, none⟩) hq7).trans k5, (hb8.cell (p := ⟨yb, 6, none⟩) hq7).trans k6, (hb8.cell (p := ⟨yb, 7, none⟩) hq7).trans k7, (hb8.cell (p := ⟨yb, 8, none⟩) hq7).trans k8, (hb8.cell (p := ⟨yb, 9, none⟩) hq7).trans k9, (hb8.cell (p := ⟨yb, 10, none⟩) hq7).trans k10, (hb8.cell (p := ⟨yb, 11, none⟩) hq7).trans k11, (hb8.cell (p := ⟨yb, 12, none⟩) hq7).trans k12, (hb8.cell (p := ⟨w.heap.size, 0, none⟩) hp7).trans k13, (hb8.cell (p := ⟨w.heap.size, 1, none⟩) hp7).trans k14, (hb8.cell (p := ⟨w.heap.size, 2, none⟩) hp7).trans k15, (hb8.cell (p := ⟨w.heap.size, 3, none⟩) hp7).trans k16, (hb8.cell (p := ⟨w.heap.size, 4, none⟩) hp7).trans k17, (hb8.cell (p := ⟨w.heap.size, 5, none⟩) hp7).trans k18, (hb8.cell (p := ⟨w.heap.size, 6, none⟩) hp7).trans k19, (hb8.cell (p := ⟨w.heap.size, 7, none⟩) hp7).trans k20, (hb8.cell (p := ⟨w.heap.size, 8, none⟩) hp7).trans k21, (hb8.cell (p := ⟨w.heap.size, 9, none⟩) hp7).trans k22, (hb8.cell (p := ⟨w.heap.size, 10, none⟩) hp7).trans k23, (hb8.cell (p := ⟨w.heap.size, 11, none⟩) hp7).trans k24, (hb8.cell (p := ⟨w.heap.size, 12, none⟩) hp7).trans k25⟩
        | exact ⟨k0, k1, k2, k3, k4, k5, k6, k7, k8, k9, k10, k11, k12, k13, k14, k15, k16, k17, k18, k19, k20, k21, k22, k23, k24, k25⟩)
      (first
        | (go_at_call 9; refine (eqNode_any id tm vo ro cm el wt up lg st vs nx mt _ _ _ _ _ _ _ _ _ _ _ _ _ _ _ _ _ _ _ _ wA ((unhide V7d).below hb7).read hO7.read (unhide HSM)).mono ?_; rintro e wB ⟨rfl, hb8⟩)
        | (go_at_call 7; refine (toNode_any id tm vo ro cm el wt up lg st vs nx mt la lc sa sc va vc na nc ma mc _ (unhide A7d) (unhide HSM)).mono ?_; rintro e wA ⟨l9, s9, v9, n9, m9, rfl, hO7, hb7⟩; have hq7 : yb < wA.heap.size := Nat.lt_of_lt_of_le hzy hb7.size; have hp7 : w.heap.size < wA.heap.size := Nat.lt_of_lt_of_le hzx hb7.size; have k0 := (hb7.cell (p := ⟨yb, 0, none⟩) hzy).trans y70; have k1 := (hb7.cell (p := ⟨yb, 1, none⟩) hzy).trans y71; have k2 := (hb7.cell (p := ⟨yb, 2, none⟩) hzy).trans y72; have k3 := (hb7.cell (p := ⟨yb, 3, none⟩) hzy).trans y73; have k4 := (hb7.cell (p := ⟨yb, 4, none⟩) hzy).trans y74; have k5 := (hb7.cell (p := ⟨yb, 5, none⟩) hzy).trans y75; have k6 := (hb7.cell (p := ⟨yb, 6, none⟩) hzy).trans y76; have k7 := (hb7.cell (p := ⟨yb, 7, none⟩) hzy).trans y77; have k8 := (hb7.cell (p := ⟨yb, 8, none⟩) hzy).trans y78; have k9 := (hb7.cell (p := ⟨yb, 9, none⟩) hzy).trans y79; have k10 := (hb7.cell (p := ⟨yb, 10, none⟩) hzy).trans y710; have k11 := (hb7.cell (p := ⟨yb, 11, none⟩) hzy).trans y711; have k12 := (hb7.cell (p := ⟨yb, 12, none⟩) hzy).trans y712; have k13 := (hb7.cell (p := ⟨w.heap.size, 0, none⟩) hzx).trans x70; have k14 := (hb7.cell (p := ⟨w.heap.size, 1, none⟩) hzx).trans x71; have k15 := (hb7.cell (p := ⟨w.heap.size, 2, none⟩) hzx).trans x72; have k16 := (hb7.cell (p := ⟨w.heap.size, 3, none⟩) hzx).trans x73; have k17 := (hb7.cell (p := ⟨w.heap.size, 4, none⟩) hzx).trans x74; have k18 := (hb7.cell (p := ⟨w.heap.size, 5, none⟩) hzx).trans x75; have k19 := (hb7.cell (p := ⟨w.heap.size, 6, none⟩) hzx).trans x76; have k20 := (hb7.cell (p := ⟨w.heap.size, 7, none⟩) hzx).trans x77; have k21 := (hb7.cell (p := ⟨w.heap.size, 8, none⟩) hzx).trans x78; have k22 := (hb7.cell (p := ⟨w.heap.size, 9, none⟩) hzx).trans x79; have k23 := (hb7.cell (p := ⟨w.heap.size, 10, none⟩) hzx).trans x710; have k24 := (hb7.cell (p := ⟨w.heap.size, 11, none⟩) hzx).trans x711; have k25 := (hb7.cell (p := ⟨w.heap.size, 12, none⟩) hzx).trans x712))
    all_goals
      have K8_ := hide (hb0.trans ((hb7.mono hb0.size).trans (hb8.mono (Nat.le_trans hb0.size hb7.size))))
      clear hb7 hb8 hO7 hb0
      go_wp2_with fail
      go_meet
      exact ⟨rfl, unhide K8_⟩
  case rest =>
    obtain ⟨rfl, hb⟩ := hcut
    clear A10
    have S11 := hide ((unhide S10).below hb)
    have SM11 := hide ((unhide SM10).below hb)
    have V11 := hide ((unhide V10).below hb)
    have G11 := hide ((unhide G10).below hb)
    have GM11 := hide ((unhide GM10).below hb)
    have HX11 := hide ((unhide HX10).below hb)
    have HY11 := hide ((unhide HY10).below hb)
    have HQ11 := hide ((unhide HQ10).below hb)
    have HZ11 := hide ((unhide HZ10).below hb)
    have K11 := hide ((unhide K10).trans (hb.mono (unhide K10).size))
    clear hb K10 S10 SM10 V10 G10 GM10 HX10 HY10 HQ10 HZ10
    generalize wc = w11 at *
    have y0 := (unhide HY11).cell 0 rfl
    have y1 := (unhide HY11).cell 1 rfl
    have y2 := (unhide HY11).cell 2 rfl
    have y3 := (unhide HY11).cell 3 rfl
    have y4 := (unhide HY11).cell 4 rfl
    have y5 := (unhide HY11).cell 5 rfl
    have y6 := (unhide HY11).cell 6 rfl
    have y7 := (unhide HY11).cell 7 rfl
    have y8 := (unhide HY11).cell 8 rfl
    have y9 := (unhide HY11).cell 9 rfl
    have y10 := (unhide HY11).cell 10 rfl
    have y11 := (unhide HY11).cell 11 rfl
    have y12 := (unhide HY11).cell 12 rfl
    have hy11 := (unhide HY11).1
    have HC := hide (markNode_any id tm vo ro cm el wt up lg st vs nx mt (some ⟨l4, 0, none⟩) lg.length (some ⟨s4, 0, none⟩) st.length (some ⟨v4, 0, none⟩) vs.length (some ⟨n4, 0, none⟩) nx.length (some ⟨m4, 0, none⟩) mt.length lg.length st.length vs.length nx.length mt.length rfl rfl rfl rfl rfl w4.heap.size w11 (unhide V11) (by have := unhide HW5; omega) (unhide HSM))
    go_wp2_with fail
    refine (unhide HC).mono ?_
    rintro e w12 ⟨rfl, hO12, hT⟩
    clear y0 y1 y2 y3 y4 y5 y6 y7 y8 y9 y10 y11 y12 HC hO12
    have vb := unhide VB
    have sb := unhide SB
    have smb := unhide SMB
    have gb := unhide GB
    have gmb := unhide GMB
    have z4 := unhide HZ4
    have z6 := unhide HZ6
    have w5_ := unhide HW5
    have w7_ := unhide HW7
    have w3_ := unhide HW3
    have K12 := hide ((unhide K11).trans (hT.below (unhide K11).size (fun k hk e => by have := vb k e; omega)))
    have S12 := hide (NoO.keep (unhide S11) hT (fun k hk e => by have := vb k e; have := sb k hk; omega))
    have SM12 := hide (nsKeep (unhide SM11) hT (fun k hk e => by have := vb k e; have := smb k hk; omega))
    have G12 := hide (NoO.keep (unhide G11) hT (fun k hk e => by have := vb k e; have := gb k hk; omega))
    have GM12 := hide (nsKeep (unhide GM11) hT (fun k hk e => by have := vb k e; have := gmb k hk; omega))
    have HQ12 := hide ((unhide HQ11).kept hT (fun e => by have := vb _ e; omega))
    have HZ12 := hide ((unhide HZ11).kept hT (fun e => by have := vb _ e; omega))
    have HX12 := hide ((unhide HX11).kept hT (fun e => by have := vb _ e; omega))
    clear hT vb sb smb gb gmb z4 z6 w5_ w7_ w3_ hy11 K11 S11 SM11 G11 GM11 V11 HX11 HY11 HQ11 HZ11
    have hkm0 : ¬ ((((1 + 3 * lg.length + st.length + vs.length + nx.length + mt.length : Nat)) : Int) < 0) := by omega
    generalize (1 + 3 * lg.length + st.length + vs.length + nx.length + mt.length) = mk0 at *
    have q0 := (unhide HQ12).cell 0 rfl
    have q1 := (unhide HQ12).cell 1 rfl
    have q2 := (unhide HQ12).cell 2 rfl
    have q3 := (unhide HQ12).cell 3 rfl
    have q4 := (unhide HQ12).cell 4 rfl
    have q5 := (unhide HQ12).cell 5 rfl
    have q6 := (unhide HQ12).cell 6 rfl
    have q7 := (unhide HQ12).cell 7 rfl
    have q8 := (unhide HQ12).cell 8 rfl
    have q9 := (unhide HQ12).cell 9 rfl
    have q10 := (unhide HQ12).cell 10 rfl
    have q11 := (unhide HQ12).cell 11 rfl
    have q12 := (unhide HQ12).cell 12 rfl
    have z0 := (unhide HZ12).cell 0 rfl
    have z1 := (unhide HZ12).cell 1 rfl
    have z2 := (unhide HZ12).cell 2 rfl
    have z3 := (unhide HZ12).cell 3 rfl
    have z4 := (unhide HZ12).cell 4 rfl
    have z5 := (unhide HZ12).cell 5 rfl
    have z6 := (unhide HZ12).cell 6 rfl
    have z7 := (unhide HZ12).cell 7 rfl
    have z8 := (unhide HZ12).cell 8 rfl
    have z9 := (unhide HZ12).cell 9 rfl
    have z10 := (unhide HZ12).cell 10 rfl
    have z11 := (unhide HZ12).cell 11 rfl
    have z12 := (unhide HZ12).cell 12 rfl
    go_wp2_with fail
    refine (eqNode_any id_ tm_ vo_ ro_ cm_ el_ wt_ up_ lg_ st_ vs_ nx_ mt_ la7 lc7 sa7 sc7 va7 vc7 na7 nc7 ma7 mc7 la3 lc3 sa3 sc3 va3 vc3 na3 nc3 ma3 mc3 w12 (unhide G12).read (unhide S12).read (unhide HSN)).mono ?_
    rintro e w13 ⟨rfl, hb⟩
    clear q0 q1 q2 q3 q4 q5 q6 q7 q8 q9 q10 q11 q12 z0 z1 z2 z3 z4 z5 z6 z7 z8 z9 z10 z11 z12
    have S13 := hide ((unhide S12).below hb)
    have SM13 := hide ((unhide SM12).below hb)
    have G13 := hide ((unhide G12).below hb)
    have GM13 := hide ((unhide GM12).below hb)
    have HX13 := hide ((unhide HX12).below hb)
    have HQ13 := hide ((unhide HQ12).below hb)
    have HZ13 := hide ((unhide HZ12).below hb)
    have K13 := hide ((unhide K12).trans (hb.mono (unhide K12).size))
    clear hb K12 S12 SM12 G12 GM12 HX12 HQ12 HZ12
    have HC := hide (eqMessageS_any w6.heap.size w2.heap.size mv7 mv3 l3.length l7 l3 w13 (unhide GM13) (unhide SM13) (by have := unhide HL3; omega) (unhide HE7) (fun x hx => by have := unhide HES x hx; omega))
    go_wp2_with fail
    refine (unhide HC).mono ?_
    rintro e w14 ⟨rfl, hb⟩
    clear HC
    have S14 := hide ((unhide S13).below hb)
    have SM14 := hide ((unhide SM13).below hb)
    have G14 := hide ((unhide G13).below hb)
    have GM14 := hide ((unhide GM13).below hb)
    have HX14 := hide ((unhide HX13).below hb)
    have HQ14 := hide ((unhide HQ13).below hb)
    have HZ14 := hide ((unhide HZ13).below hb)
    have K14 := hide ((unhide K13).trans (hb.mono (unhide K13).size))
    clear hb K13 S13 SM13 G13 GM13 HX13 HQ13 HZ13
    have z0 := (unhide HZ14).cell 0 rfl
    have z1 := (unhide HZ14).cell 1 rfl
    have z2 := (unhide HZ14).cell 2 rfl
    have z3 := (unhide HZ14).cell 3 rfl
    have z4 := (unhide HZ14).cell 4 rfl
    have z5 := (unhide HZ14).cell 5 rfl
    have z6 := (unhide HZ14).cell 6 rfl
    have z7 := (unhide HZ14).cell 7 rfl
    have z8 := (unhide HZ14).cell 8 rfl
    have z9 := (unhide HZ14).cell 9 rfl
    have z10 := (unhide HZ14).cell 10 rfl
    have z11 := (unhide HZ14).cell 11 rfl
    have z12 := (unhide HZ14).cell 12 rfl
    have hz14 := (unhide HZ14).1
    have HC := hide (markNode_any id_ tm_ vo_ ro_ cm_ el_ wt_ up_ lg_ st_ vs_ nx_ mt_ la7 lc7 sa7 sc7 va7 vc7 na7 nc7 ma7 mc7 lg_.length st_.length vs_.length nx_.length mt_.length rfl rfl rfl rfl rfl w6.heap.size w14 (unhide G14) (by have := unhide HW7; omega) (unhide HSN))
    go_wp2_with fail
    refine (unhide HC).mono ?_
    rintro e w15 ⟨rfl, hO15, hT⟩
    clear z0 z1 z2 z3 z4 z5 z6 z7 z8 z9 z10 z11 z12 HC
    have vb := unhide VB
    have sb := unhide SB
    have smb := unhide SMB
    have gb := unhide GB
    have gmb := unhide GMB
    have z4 := unhide HZ4
    have z6 := unhide HZ6
    have w5_ := unhide HW5
    have w7_ := unhide HW7
    have w3_ := unhide HW3
    have K15 := hide ((unhide K14).trans (hT.below (unhide K14).size (fun k hk e => by have := gb k e; omega)))
    have S15 := hide (NoO.keep (unhide S14) hT (fun k hk e => by have := gb k e; have := sb k hk; omega))
    have SM15 := hide (nsKeep (unhide SM14) hT (fun k hk e => by have := gb k e; have := smb k hk; omega))
    have GM15 := hide (nsKeep (unhide GM14) hT (fun k hk e => unhide GAP k e hk))
    have HQ15 := hide ((unhide HQ14).kept hT (fun e => by have := gb _ e; omega))
    have HZ15 := hide ((unhide HZ14).kept hT (fun e => by have := gb _ e; omega))
    have HX15 := hide ((unhide HX14).kept hT (fun e => by have := gb _ e; omega))
    have M15 := hide hO15
    clear hT hO15 vb sb smb gb gmb z4 z6 w5_ w7_ w3_ hz14 K14 S14 SM14 G14 GM14 HX14 HQ14 HZ14
    obtain ⟨b0, b1, b2, b3, b4, bd, bl, be⟩ := unhide HSA
    have HMK0 : Hid (0 < 1 + 3 * lg_.length + st_.length + vs_.length + nx_.length + mt_.length ∧ 1 + 3 * lg_.length + st_.length + vs_.length + nx_.length + mt_.length ≤ 1000) := hide (by simp only at b0 b1 b2 b3 b4; omega)
    have hkm : ¬ ((((1 + 3 * lg_.length + st_.length + vs_.length + nx_.length + mt_.length : Nat)) : Int) < 0) := by omega
    have HHe := hide (fun wx (hx : NoO w6.heap.size wx (.slice la7 lg_.length lc7) (.slice sa7 st_.length sc7) (.slice va7 vs_.length vc7) (.slice na7 nx_.length nc7) (.slice ma7 mt_.length mc7) (mkEs 1 lg_.length) (marksJ (1 + 3 * lg_.length) st_.length) (marksJ (1 + 3 * lg_.length + st_.length) vs_.length) (marksJ (1 + 3 * lg_.length + st_.length + vs_.length) nx_.length) (marksJ (1 + 3 * lg_.length + st_.length + vs_.length + nx_.length) mt_.length)) => heldNode_any id_ tm_ vo_ ro_ cm_ el_ wt_ up_ la7 lc7 sa7 sc7 va7 vc7 na7 nc7 ma7 mc7 lg_.length st_.length vs_.length nx_.length mt_.length w6.heap.size wx hx (by simp only at b0; omega) (by simp only at b1; omega) (by simp only at b2; omega) (by simp only at b3; omega) (by simp only at b4; omega))
    clear b0 b1 b2 b3 b4 bd bl be
    have HOM := M15
    generalize (1 + 3 * lg_.length + st_.length + vs_.length + nx_.length + mt_.length) = mk at HMK0 hkm HHe ⊢
    have HWT := hide (fun x (hx : x ∈ l7) => show wtM x ≤ 1000 by have := unhide HES x hx; unfold wtM; omega)
    have HC := hide (markMessageS_any mk (unhide HMK0).1 (by have := (unhide HMK0).2; omega) w6.heap.size mv7 l3.length l7 w15 (unhide GM15) (by have := unhide HL3; omega) (unhide HWT))
    go_wp2_with fail
    refine (unhide HC).mono ?_
    rintro e w16 ⟨rfl, hN16, hT⟩
    clear HC
    have vb := unhide VB
    have sb := unhide SB
    have smb := unhide SMB
    have gb := unhide GB
    have gmb := unhide GMB
    have z4 := unhide HZ4
    have z6 := unhide HZ6
    have w5_ := unhide HW5
    have w7_ := unhide HW7
    have w3_ := unhide HW3
    have K16 := hide ((unhide K15).trans (hT.below (unhide K15).size (fun k hk e => by have := gmb k e; omega)))
    have S16 := hide (NoO.keep (unhide S15) hT (fun k hk e => by have := gmb k e; have := sb k hk; omega))
    have SM16 := hide (nsKeep (unhide SM15) hT (fun k hk e => by have := gmb k e; have := smb k hk; omega))
    have M16 := hide (NoO.keep (unhide M15) hT (fun k hk e => unhide GAP k hk e))
    have HQ16 := hide ((unhide HQ15).kept hT (fun e => by have := gmb _ e; omega))
    have HZ16 := hide ((unhide HZ15).kept hT (fun e => by have := gmb _ e; omega))
    have HX16 := hide ((unhide HX15).kept hT (fun e => by have := gmb _ e; omega))
    have MM16 := hide hN16
    clear hT hN16 vb sb smb gb gmb z4 z6 w5_ w7_ w3_ K15 S15 SM15 M15 GM15 HX15 HQ15 HZ15 HOM
    have HC := hide (unhide HHe w16 (unhide M16))
    have hmm : ¬ (((mk + wtMs l7 : Nat) : Int) < 0) := by omega
    have heq : (((mk + wtMs l7 : Nat) : Int) == ((mk + wtMs l7 : Nat) : Int)) = true := by simp
    have HHM := hide (fun wx (hx : Ns mgS w6.heap.size wx mv7 l3.length (mkMs mk l7)) => heldMessageS_any mk (unhide HMK0).1 (by have := (unhide HMK0).2; omega) w6.heap.size mv7 l3.length l7 wx hx (by have := unhide HL3; omega) (unhide HWT))
    generalize mk + wtMs l7 = mm at *
    have z0 := (unhide HZ16).cell 0 rfl
    have z1 := (unhide HZ16).cell 1 rfl
    have z2 := (unhide HZ16).cell 2 rfl
    have z3 := (unhide HZ16).cell 3 rfl
    have z4 := (unhide HZ16).cell 4 rfl
    have z5 := (unhide HZ16).cell 5 rfl
    have z6 := (unhide HZ16).cell 6 rfl
    have z7 := (unhide HZ16).cell 7 rfl
    have z8 := (unhide HZ16).cell 8 rfl
    have z9 := (unhide HZ16).cell 9 rfl
    have z10 := (unhide HZ16).cell 10 rfl
    have z11 := (unhide HZ16).cell 11 rfl
    have z12 := (unhide HZ16).cell 12 rfl
    go_wp2_with fail
    refine (unhide HC).mono ?_
    rintro e w17 ⟨rfl, hb⟩
    clear HC z0 z1 z2 z3 z4 z5 z6 z7 z8 z9 z10 z11 z12
    have S17 := hide ((unhide S16).below hb)
    have SM17 := hide ((unhide SM16).below hb)
    have M17 := hide ((unhide M16).below hb)
    have MM17 := hide ((unhide MM16).below hb)
    have HX17 := hide ((unhide HX16).below hb)
    have HQ17 := hide ((unhide HQ16).below hb)
    have HZ17 := hide ((unhide HZ16).below hb)
    have K17 := hide ((unhide K16).trans (hb.mono (unhide K16).size))
    clear hb K16 S16 SM16 M16 MM16 HX16 HQ16 HZ16
    have HC := hide (unhide HHM w17 (unhide MM17))
    go_wp2_with fail
    refine (unhide HC).mono ?_
    rintro e w18 ⟨rfl, hb⟩
    clear HC
    have S18 := hide ((unhide S17).below hb)
    have SM18 := hide ((unhide SM17).below hb)
    have M18 := hide ((unhide M17).below hb)
    have MM18 := hide ((unhide MM17).below hb)
    have HX18 := hide ((unhide HX17).below hb)
    have HQ18 := hide ((unhide HQ17).below hb)
    have HZ18 := hide ((unhide HZ17).below hb)
    have K18 := hide ((unhide K17).trans (hb.mono (unhide K17).size))
    clear hb K17 S17 SM17 M17 MM17 HX17 HQ17 HZ17
    have A18 := hide ((unhide HF).below (unhide K18))
    have x0 := (unhide HX18).cell 0 rfl
    have x1 := (unhide HX18).cell 1 rfl
    have x2 := (unhide HX18).cell 2 rfl
    have x3 := (unhide HX18).cell 3 rfl
    have x4 := (unhide HX18).cell 4 rfl
    have x5 := (unhide HX18).cell 5 rfl
    have x6 := (unhide HX18).cell 6 rfl
    have x7 := (unhide HX18).cell 7 rfl
    have x8 := (unhide HX18).cell 8 rfl
    have x9 := (unhide HX18).cell 9 rfl
    have x10 := (unhide HX18).cell 10 rfl
    have x11 := (unhide HX18).cell 11 rfl
    have x12 := (unhide HX18).cell 12 rfl
    go_wp2_with fail
    refine (toNode_any id tm vo ro cm el wt up lg st vs nx mt la lc sa sc va vc na nc ma mc w18 (unhide A18) (unhide HSM)).mono ?_
    rintro e w19 ⟨l19, s19, v19, n19, m19, rfl, hO, hb⟩
    have HC := hide (unhide HIM w19 (some ⟨l19, 0, none⟩) lg.length (some ⟨s19, 0, none⟩) st.length (some ⟨v19, 0, none⟩) vs.length (some ⟨n19, 0, none⟩) nx.length (some ⟨m19, 0, none⟩) mt.length hO.read)
    clear hO A18 x0 x1 x2 x3 x4 x5 x6 x7 x8 x9 x10 x11 x12 HX18
    have S19 := hide ((unhide S18).below hb)
    have SM19 := hide ((unhide SM18).below hb)
    have M19 := hide ((unhide M18).below hb)
    have MM19 := hide ((unhide MM18).below hb)
    have HQ19 := hide ((unhide HQ18).below hb)
    have HZ19 := hide ((unhide HZ18).below hb)
    have K19 := hide ((unhide K18).trans (hb.mono (unhide K18).size))
    clear hb K18 S18 SM18 M18 MM18 HQ18 HZ18
    go_wp2_with fail
    refine (unhide HC).mono ?_
    rintro e w20 ⟨la20, lc20, sa20, sc20, va20, vc20, na20, nc20, ma20, mc20, mv20, l20, rfl, hO, hN, hM, hAp, hb⟩
    dsimp only at hO hN hM ⊢
    have hl20 : l20.length = l3.length := by have h1 := congrArg List.length hM; have h2 := congrArg List.length (unhide HM3); rw [List.length_map] at h1 h2; omega
    rw [hl20] at hN
    have HE20 := hide (same_of hM (unhide HM3))
    have HES20 := hide (es_of hM (unhide HSA).me)
    clear HC hM hAp hl20
    have S20 := hide ((unhide S19).below hb)
    have SM20 := hide ((unhide SM19).below hb)
    have M20 := hide ((unhide M19).below hb)
    have MM20 := hide ((unhide MM19).below hb)
    have HQ20 := hide ((unhide HQ19).below hb)
    have HZ20 := hide ((unhide HZ19).below hb)
    have K20 := hide ((unhide K19).trans (hb.mono (unhide K19).size))
    clear hb K19 S19 SM19 M19 MM19 HQ19 HZ19
    have BB := (Below.refl w20.heap.size w20).alloc (Nat.le_refl _) (.cells #[.int .i64 id_, .int .i64 tm_, .int .i64 vo_, .slice la20 lg_.length lc20, .slice sa20 st_.length sc20, .int .i64 ro_, .slice va20 vs_.length vc20, .slice na20 nx_.length nc20, .slice ma20 mt_.length mc20, .int .i64 cm_, .int .i64 el_, .int .i64 wt_, .bool up_] 29)
    have K21 := hide ((unhide K20).alloc (unhide K20).size (.cells #[.int .i64 id_, .int .i64 tm_, .int .i64 vo_, .slice la20 lg_.length lc20, .slice sa20 st_.length sc20, .int .i64 ro_, .slice va20 vs_.length vc20, .slice na20 nx_.length nc20, .slice ma20 mt_.length mc20, .int .i64 cm_, .int .i64 el_, .int .i64 wt_, .bool up_] 29))
    have S21 := hide ((unhide S20).below BB)
    have SM21 := hide ((unhide SM20).below BB)
    have M21 := hide ((unhide M20).below BB)
    have MM21 := hide ((unhide MM20).below BB)
    have H21 := hide (hO.below BB)
    have HM21 := hide (hN.below BB)
    have Q21 := (unhide HQ20).below BB
    have HZ21 := hide ((unhide HZ20).below BB)
    have W21 := Blk.new w20 #[.int .i64 id_, .int .i64 tm_, .int .i64 vo_, .slice la20 lg_.length lc20, .slice sa20 st_.length sc20, .int .i64 ro_, .slice va20 vs_.length vc20, .slice na20 nx_.length nc20, .slice ma20 mt_.length mc20, .int .i64 cm_, .int .i64 el_, .int .i64 wt_, .bool up_] 29 w20.heap.size rfl
    have q0 := Q21.cell 0 rfl
    have q1 := Q21.cell 1 rfl
    have q2 := Q21.cell 2 rfl
    have q3 := Q21.cell 3 rfl
    have q4 := Q21.cell 4 rfl
    have q5 := Q21.cell 5 rfl
    have q6 := Q21.cell 6 rfl
    have q7 := Q21.cell 7 rfl
    have q8 := Q21.cell 8 rfl
    have q9 := Q21.cell 9 rfl
    have q10 := Q21.cell 10 rfl
    have q11 := Q21.cell 11 rfl
    have q12 := Q21.cell 12 rfl
    have v0 := W21.cell 0 rfl
    have v1 := W21.cell 1 rfl
    have v2 := W21.cell 2 rfl
    have v3 := W21.cell 3 rfl
    have v4 := W21.cell 4 rfl
    have v5 := W21.cell 5 rfl
    have v6 := W21.cell 6 rfl
    have v7 := W21.cell 7 rfl
    have v8 := W21.cell 8 rfl
    have v9 := W21.cell 9 rfl
    have v10 := W21.cell 10 rfl
    have v11 := W21.cell 11 rfl
    have v12 := W21.cell 12 rfl
    clear BB hO hN Q21 W21 K20 S20 SM20 M20 MM20 HQ20 HZ20
    go_wp2_with fail
    generalize w20.alloc (.cells #[.int .i64 id_, .int .i64 tm_, .int .i64 vo_, .slice la20 lg_.length lc20, .slice sa20 st_.length sc20, .int .i64 ro_, .slice va20 vs_.length vc20, .slice na20 nx_.length nc20, .slice ma20 mt_.length mc20, .int .i64 cm_, .int .i64 el_, .int .i64 wt_, .bool up_] 29) = w21 at *
    generalize w20.heap.size = hb_ at *
    refine (eqNode_any id_ tm_ vo_ ro_ cm_ el_ wt_ up_ lg_ st_ vs_ nx_ mt_ la20 lc20 sa20 sc20 va20 vc20 na20 nc20 ma20 mc20 la3 lc3 sa3 sc3 va3 vc3 na3 nc3 ma3 mc3 w21 (unhide H21).read (unhide S21).read (unhide HSN)).mono ?_
    rintro e w22 ⟨rfl, hb⟩
    clear q0 q1 q2 q3 q4 q5 q6 q7 q8 q9 q10 q11 q12 v0 v1 v2 v3 v4 v5 v6 v7 v8 v9 v10 v11 v12 H21
    have S22 := hide ((unhide S21).below hb)
    have SM22 := hide ((unhide SM21).below hb)
    have M22 := hide ((unhide M21).below hb)
    have MM22 := hide ((unhide MM21).below hb)
    have HM22 := hide ((unhide HM21).below hb)
    have HZ22 := hide ((unhide HZ21).below hb)
    have K22 := hide ((unhide K21).trans (hb.mono (unhide K21).size))
    clear hb K21 S21 SM21 M21 MM21 HM21 HZ21
    have HC := hide (eqMessageS_any w19.heap.size w2.heap.size mv20 mv3 l3.length l20 l3 w22 (unhide HM22) (unhide SM22) (by have := unhide HL3; omega) (unhide HE20) (fun x hx => by have := unhide HES20 x hx; omega))
    go_wp2_with fail
    refine (unhide HC).mono ?_
    rintro e w23 ⟨rfl, hb⟩
    clear HC
    have S23 := hide ((unhide S22).below hb)
    have SM23 := hide ((unhide SM22).below hb)
    have M23 := hide ((unhide M22).below hb)
    have MM23 := hide ((unhide MM22).below hb)
    have HM23 := hide ((unhide HM22).below hb)
    have HZ23 := hide ((unhide HZ22).below hb)
    have K23 := hide ((unhide K22).trans (hb.mono (unhide K22).size))
    clear hb K22 S22 SM22 M22 MM22 HM22 HZ22
    have HC := hide (unhide HHe w23 (unhide M23))
    have z0 := (unhide HZ23).cell 0 rfl
    have z1 := (unhide HZ23).cell 1 rfl
    have z2 := (unhide HZ23).cell 2 rfl
    have z3 := (unhide HZ23).cell 3 rfl
    have z4 := (unhide HZ23).cell 4 rfl
    have z5 := (unhide HZ23).cell 5 rfl
    have z6 := (unhide HZ23).cell 6 rfl
    have z7 := (unhide HZ23).cell 7 rfl
    have z8 := (unhide HZ23).cell 8 rfl
    have z9 := (unhide HZ23).cell 9 rfl
    have z10 := (unhide HZ23).cell 10 rfl
    have z11 := (unhide HZ23).cell 11 rfl
    have z12 := (unhide HZ23).cell 12 rfl
    go_wp2_with fail
    refine (unhide HC).mono ?_
    rintro e w24 ⟨rfl, hb⟩
    have K24 := hide ((unhide K23).trans (hb.mono (unhide K23).size))
    have MM24 := hide ((unhide MM23).below hb)
    clear hb HC K23 MM23 z0 z1 z2 z3 z4 z5 z6 z7 z8 z9 z10 z11 z12
    have HC := hide (unhide HHM w24 (unhide MM24))
    go_wp2_with fail
    refine (unhide HC).mono ?_
    rintro e w25 ⟨rfl, hb⟩
    have K25 := hide ((unhide K24).trans (hb.mono (unhide K24).size))
    clear hb HC K24 MM24
    go_wp2_with fail
    go_ret
    exact ⟨rfl, unhide K25⟩

theorem own : ownKnob Try.prog.godebug = none := by kernel_rfl
theorem laidOut : laidOutB Try.prog = true := by kernel_rfl
set_option maxRecDepth 100000 in
theorem lifted (os : Os) (started : os.Started) (H : Type) (enc : TypeId × Value → H) :
    ReturnsInHanded {} Try.checked os 3 .any (Rows.fnExactNodeTickSpec.pre6 enc Try.prog Try.f3 Rows.fnExactNodeTickRow.domain false) (Rows.fnExactNodeTickSpec.post enc Try.prog Try.f3 false true false false) := by
  refine returnsInHanded_of_change (C := Try.checked) own started (by kernel_rfl) Try.func3
    (ChangeSpec.witness6 (enc := enc) (C := Try.checked) false ⟨#[], #[.agg #[.int .i64 0, .int .i64 0, .int .i64 0, .slice none 0 0, .slice none 0 0, .int .i64 0, .slice none 0 0, .slice none 0 0, .slice none 0 0, .int .i64 0, .int .i64 0, .int .i64 0, .bool false], .int .i64 0], []⟩ 8 (by kernel_rfl) (by kernel_rfl) (by kernel_rfl) (by kernel_rfl)) ?_
  intro W base args ds gs before hval0 hW hcnd _
  have hval : ∀ (j : Nat) t v, Try.f3.params[j]? = some t → args[j]? = some v → Value.okWide Try.prog W .any base t v := hval0
  have hW' := hW
  obtain ⟨p, q, hA0, hV, rfl, hfz, hnd⟩ := hW
  have hA : DataW.TrodAll enc Try.prog W 0 (fun _ => true) true Try.f3.params.toList args.toList ds p := hA0
  rw [Try.params3] at hA hval
  obtain ⟨v0, vs0, d0, ds0, p0, q0, hargs, rfl, rfl, h0, r0⟩ := trodAll_cons hA
  obtain ⟨v1, vs1, d1, ds1, p1, q1, rfl, rfl, rfl, h1, r1⟩ := trodAll_cons r0
  obtain ⟨rfl, rfl, rfl⟩ := trodAll_nil r1
  obtain rfl : args = #[v0, v1] := by cases args; simp_all
  obtain ⟨rfl, rfl⟩ := trodVars_none hV
  have k0 := h0
  have lt0 : ∀ x ∈ p0, x.block < W.heap.size := by obtain ⟨m, hm⟩ := k0; exact DataW.trod_lt m _ _ _ hm
  obtain ⟨id0, tm0, vo0, ro0, cm0, el0, wt0, up0, lv0, sv0, vv0, nv0, mv0, lg0, st0, vt0, nx0, mt0, rfl, hf0, hz0⟩ := open_node (hval 0 25 v0 rfl rfl) h0
  have k1 := h1
  have lt1 : ∀ x ∈ p1, x.block < W.heap.size := by obtain ⟨m, hm⟩ := k1; exact DataW.trod_lt m _ _ _ hm
  obtain ⟨a1, rfl, _, _, w1⟩ := open_int Try.underlying3 (hval 1 3 v1 rfl rfl) h1
  clear hA0 hval0
  refine (walk id0 tm0 vo0 ro0 cm0 el0 wt0 up0 lv0 sv0 vv0 nv0 mv0 lg0 st0 vt0 nx0 mt0 a1 W hf0 hz0 w1).mono fun e W' ⟨he, bel⟩ => ?_
  subst he
  exact ⟨_, rfl, _, _, _, [], _, [], hW', trodAll_mk1 (shut_bool Try.underlying4 _), (trodAll_cons_mk (Below.trod laidOut (by kernel_rfl) (of_decide_eq_true (by kernel_rfl)) k0 bel lt0) (trodAll_cons_mk (Below.trod laidOut (by kernel_rfl) (of_decide_eq_true (by kernel_rfl)) k1 bel lt1) trodAll_mk0)), rfl, bel.frame _, fun h => by cases h⟩

theorem over : Rows.fnExactNodeTickRow.holds Try.pinned (OpenSpec.ofChange Rows.fnExactNodeTickSpec) :=
  OpenClaim.holds_of_wide 3 Try.f3 rfl rfl rfl rfl rfl rfl rfl ⟨rfl, rfl, rfl, rfl, rfl⟩ rfl rfl rfl rfl rfl (by kernel_rfl) Try.func3 (by kernel_rfl)
    (of_decide_eq_true (by kernel_rfl)) (by unfold Func.isWrapper; first | (rw [if_pos (by decide +kernel)]; kernel_rfl) | (rw [if_neg (by decide +kernel)]; exact ⟨rfl, rfl⟩))
    (fun os started H enc _ => lifted os started H enc)

end Go.Proofs.Ytljolldacpkeeaa.fnExactNodeTick
namespace Go.Proofs.Ytljolldacpkeeaa
theorem fnExactNodeTick_holds : Rows.FnExactNodeTickSaid := fnExactNodeTick.over
#print axioms fnExactNodeTick_holds
end Go.Proofs.Ytljolldacpkeeaa
