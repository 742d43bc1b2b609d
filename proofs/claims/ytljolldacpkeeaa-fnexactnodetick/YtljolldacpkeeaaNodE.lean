/- Nodes: laws.eqNode; a node that came in, opened. (Written by py/nod.py.) -/
import Derived.Test.YtljolldacpkeeaaHaa
namespace Go.Proofs.Ytljolldacpkeeaa
open Go.ChangeShapes Go.WideShapes Go.ChangeAt Go.RowKit Go.Deep
set_option linter.unusedVariables false
set_option maxRecDepth 100000 in
set_option maxHeartbeats 2000000 in
theorem eqNode_any (id tm vo ro cm el wt : Int) (up : Bool) (lg : List En) (st vs nx mt : List Int) (la : Option Addr) (lc : Nat) (sa : Option Addr) (sc : Nat) (va : Option Addr) (vc : Nat) (na : Option Addr) (nc : Nat) (ma : Option Addr) (mc : Nat) (la2 : Option Addr) (lc2 : Nat) (sa2 : Option Addr) (sc2 : Nat) (va2 : Option Addr) (vc2 : Nat) (na2 : Option Addr) (nc2 : Nat) (ma2 : Option Addr) (mc2 : Nat) (w : World) (h : NoR w (.slice la lg.length lc) (.slice sa st.length sc) (.slice va vs.length vc) (.slice na nx.length nc) (.slice ma mt.length mc) lg st vs nx mt) (h' : NoR w (.slice la2 lg.length lc2) (.slice sa2 st.length sc2) (.slice va2 vs.length vc2) (.slice na2 nx.length nc2) (.slice ma2 mt.length mc2) lg st vs nx mt) (hs : NoS lg st vs nx mt) :
    Calls Try.prog 9 #[.agg #[.int .i64 id, .int .i64 tm, .int .i64 vo, .slice la lg.length lc, .slice sa st.length sc, .int .i64 ro, .slice va vs.length vc, .slice na nx.length nc, .slice ma mt.length mc, .int .i64 cm, .int .i64 el, .int .i64 wt, .bool up], .agg #[.int .i64 id, .int .i64 tm, .int .i64 vo, .slice la2 lg.length lc2, .slice sa2 st.length sc2, .int .i64 ro, .slice va2 vs.length vc2, .slice na2 nx.length nc2, .slice ma2 mt.length mc2, .int .i64 cm, .int .i64 el, .int .i64 wt, .bool up]] w fun e w' => e = .returned (.bool true) ∧ Below w.heap.size w w' := by
  have Elg := hide (fun wx (hx : Below w.heap.size w wx) => eqEntryS_any _ _ lg wx (h.lg.below hx) (h'.lg.below hx) hs.l0)
  have Est := hide (fun wx (hx : Below w.heap.size w wx) => eqIntS_any _ _ st wx (h.st.below hx) (h'.st.below hx) hs.l1)
  have Evs := hide (fun wx (hx : Below w.heap.size w wx) => eqIntS_any _ _ vs wx (h.vs.below hx) (h'.vs.below hx) hs.l2)
  have Enx := hide (fun wx (hx : Below w.heap.size w wx) => eqIntS_any _ _ nx wx (h.nx.below hx) (h'.nx.below hx) hs.l3)
  have Emt := hide (fun wx (hx : Below w.heap.size w wx) => eqIntS_any _ _ mt wx (h.mt.below hx) (h'.mt.below hx) hs.l4)
  have B0 := hide (((Below.refl w.heap.size w).alloc (Nat.le_refl _) (.cells #[.int .i64 id, .int .i64 tm, .int .i64 vo, .slice la lg.length lc, .slice sa st.length sc, .int .i64 ro, .slice va vs.length vc, .slice na nx.length nc, .slice ma mt.length mc, .int .i64 cm, .int .i64 el, .int .i64 wt, .bool up] 29)).alloc (by simp) (.cells #[.int .i64 id, .int .i64 tm, .int .i64 vo, .slice la2 lg.length lc2, .slice sa2 st.length sc2, .int .i64 ro, .slice va2 vs.length vc2, .slice na2 nx.length nc2, .slice ma2 mt.length mc2, .int .i64 cm, .int .i64 el, .int .i64 wt, .bool up] 29))
  have X0 := hide ((Blk.new w #[.int .i64 id, .int .i64 tm, .int .i64 vo, .slice la lg.length lc, .slice sa st.length sc, .int .i64 ro, .slice va vs.length vc, .slice na nx.length nc, .slice ma mt.length mc, .int .i64 cm, .int .i64 el, .int .i64 wt, .bool up] 29 w.heap.size rfl).alloc (.cells #[.int .i64 id, .int .i64 tm, .int .i64 vo, .slice la2 lg.length lc2, .slice sa2 st.length sc2, .int .i64 ro, .slice va2 vs.length vc2, .slice na2 nx.length nc2, .slice ma2 mt.length mc2, .int .i64 cm, .int .i64 el, .int .i64 wt, .bool up] 29))
  have Y0 := hide (Blk.new (w.alloc (.cells #[.int .i64 id, .int .i64 tm, .int .i64 vo, .slice la lg.length lc, .slice sa st.length sc, .int .i64 ro, .slice va vs.length vc, .slice na nx.length nc, .slice ma mt.length mc, .int .i64 cm, .int .i64 el, .int .i64 wt, .bool up] 29)) #[.int .i64 id, .int .i64 tm, .int .i64 vo, .slice la2 lg.length lc2, .slice sa2 st.length sc2, .int .i64 ro, .slice va2 vs.length vc2, .slice na2 nx.length nc2, .slice ma2 mt.length mc2, .int .i64 cm, .int .i64 el, .int .i64 wt, .bool up] 29 (w.heap.size + 1) (by simp))
  clear h h' hs
  go_enter Try.func9, Try.ntmps9
  go_wp2_with fail
  generalize (w.alloc (.cells #[.int .i64 id, .int .i64 tm, .int .i64 vo, .slice la lg.length lc, .slice sa st.length sc, .int .i64 ro, .slice va vs.length vc, .slice na nx.length nc, .slice ma mt.length mc, .int .i64 cm, .int .i64 el, .int .i64 wt, .bool up] 29)).alloc (.cells #[.int .i64 id, .int .i64 tm, .int .i64 vo, .slice la2 lg.length lc2, .slice sa2 st.length sc2, .int .i64 ro, .slice va2 vs.length vc2, .slice na2 nx.length nc2, .slice ma2 mt.length mc2, .int .i64 cm, .int .i64 el, .int .i64 wt, .bool up] 29) = w0 at *
  refine (unhide Elg w0 (unhide B0)).mono ?_
  rintro e w1 ⟨rfl, hb⟩
  have K1 := hide ((unhide B0).trans (hb.mono (unhide B0).size))
  have X1 := (unhide X0).below hb
  have Y1 := (unhide Y0).below hb
  have x4 := X1.cell 4 rfl
  have y4 := Y1.cell 4 rfl
  have HX1 := hide X1
  have HY1 := hide Y1
  clear hb X1 Y1 B0 X0 Y0 Elg
  go_wp2_with fail
  refine (unhide Est w1 (unhide K1)).mono ?_
  rintro e w2 ⟨rfl, n1, hn⟩
  have hb : Below w1.heap.size w1 w2 := by rw [hn]; exact below_drewN (Below.refl _ _) n1
  clear hn
  have K2 := hide ((unhide K1).trans (hb.mono (unhide K1).size))
  have X1 := (unhide HX1).below hb
  have Y1 := (unhide HY1).below hb
  clear x4 y4
  have x5 := X1.cell 5 rfl
  have y5 := Y1.cell 5 rfl
  have x6 := X1.cell 6 rfl
  have y6 := Y1.cell 6 rfl
  have HX2 := hide X1
  have HY2 := hide Y1
  clear hb X1 Y1 K1 HX1 HY1 Est
  go_wp2_with fail
  refine (unhide Evs w2 (unhide K2)).mono ?_
  rintro e w3 ⟨rfl, n2, hn⟩
  have hb : Below w2.heap.size w2 w3 := by rw [hn]; exact below_drewN (Below.refl _ _) n2
  clear hn
  have K3 := hide ((unhide K2).trans (hb.mono (unhide K2).size))
  have X1 := (unhide HX2).below hb
  have Y1 := (unhide HY2).below hb
  clear x5 y5 x6 y6
  have x7 := X1.cell 7 rfl
  have y7 := Y1.cell 7 rfl
  have HX3 := hide X1
  have HY3 := hide Y1
  clear hb X1 Y1 K2 HX2 HY2 Evs
  go_wp2_with fail
  refine (unhide Enx w3 (unhide K3)).mono ?_
  rintro e w4 ⟨rfl, n3, hn⟩
  have hb : Below w3.heap.size w3 w4 := by rw [hn]; exact below_drewN (Below.refl _ _) n3
  clear hn
  have K4 := hide ((unhide K3).trans (hb.mono (unhide K3).size))
  have X1 := (unhide HX3).below hb
  have Y1 := (unhide HY3).below hb
  clear x7 y7
  have x8 := X1.cell 8 rfl
  have y8 := Y1.cell 8 rfl
  have HX4 := hide X1
  have HY4 := hide Y1
  clear hb X1 Y1 K3 HX3 HY3 Enx
  go_wp2_with fail
  refine (unhide Emt w4 (unhide K4)).mono ?_
  rintro e w5 ⟨rfl, n4, hn⟩
  have hb : Below w4.heap.size w4 w5 := by rw [hn]; exact below_drewN (Below.refl _ _) n4
  clear hn
  have K5 := hide ((unhide K4).trans (hb.mono (unhide K4).size))
  have X1 := (unhide HX4).below hb
  have Y1 := (unhide HY4).below hb
  clear x8 y8
  have x9 := X1.cell 9 rfl
  have y9 := Y1.cell 9 rfl
  have x10 := X1.cell 10 rfl
  have y10 := Y1.cell 10 rfl
  have x11 := X1.cell 11 rfl
  have y11 := Y1.cell 11 rfl
  have x12 := X1.cell 12 rfl
  have y12 := Y1.cell 12 rfl
  have HX5 := hide X1
  have HY5 := hide Y1
  clear hb X1 Y1 K4 HX4 HY4 Emt
  go_wp2_with fail
  go_ret
  exact ⟨rfl, unhide K5⟩
theorem array13s {c : Array Value} (h : c.size = 13) : ∃ a0 a1 a2 a3 a4 a5 a6 a7 a8 a9 a10 a11 a12, c = #[a0, a1, a2, a3, a4, a5, a6, a7, a8, a9, a10, a11, a12] := by
  match c, h with
  | ⟨[a0, a1, a2, a3, a4, a5, a6, a7, a8, a9, a10, a11, a12]⟩, _ => exact ⟨a0, a1, a2, a3, a4, a5, a6, a7, a8, a9, a10, a11, a12, rfl⟩
set_option maxRecDepth 100000 in
/-- A list of numbers within a struct that came in, opened. -/
theorem open_intsAt {H : Type} {enc : TypeId × Value → H} {W : World} {base : Nat} {sp : Nat → Bool} {held : Bool} {fuel : Nat} {c0 : Value} {x : DataW H × List MemPlace}
    (hf : DataW.trod enc Try.prog W base sp held fuel 23 [c0] = some x) : ∃ l : List Int, Ints W c0 l := by
  rcases open_ints Try.underlying23 Try.underlying3 (by kernel_rfl) hf with ⟨hcs, _⟩ | ⟨x, len0, cap0, zs, hcs, _, hl, hm, hz, _, hcell, hwz⟩
  · simp only [List.cons.injEq, and_true] at hcs
    subst hcs
    exact ⟨[], ⟨none, 0, rfl, by unfold maxLen; simp, .inl rfl⟩⟩
  · simp only [List.cons.injEq, and_true] at hcs
    subst hcs
    have hlz : len0 ≤ zs.length := by rw [hz]; split <;> omega
    have hlen : (zs.take len0).length = len0 := by rw [List.length_take]; omega
    have hget : ∀ i, i < len0 → (zs.take len0).getD i 0 = zs.getD i 0 := fun i hi => by
      simp [List.getD_eq_getElem?_getD, hi]
    refine ⟨zs.take len0, ⟨some x, cap0, by rw [hlen], by rw [hlen]; omega, ?_⟩⟩
    by_cases h0 : len0 = 0
    · exact .inl (by rw [hlen]; exact h0)
    · obtain ⟨b, off, spot⟩ := x
      have hc := hcell 0 (by omega)
      have hspot : spot = none := by simpa [Addr.add] using World.cell?_spot hc
      subst hspot
      have hblk := World.block_lt_of_cell? W _ hc
      have e0 : ∀ i, (⟨b, off, none⟩ : Addr).add i = ⟨b, off + i, none⟩ := fun i => by unfold Addr.add; split <;> simp_all
      rw [e0] at hblk
      refine .inr ⟨b, off, rfl, hblk, fun i hi => ?_⟩
      rw [hlen] at hi
      rw [hget i hi, ← e0, hcell i (by omega)]
set_option maxRecDepth 100000 in
theorem open_node {H : Type} {enc : TypeId × Value → H} {W : World} {base b0 : Nat} {r : Reach} {sp : Nat → Bool} {held : Bool} {v : Value} {d : DataW H} {p : List MemPlace}
    (hv : Value.okWide Try.prog W r b0 25 v) (h : DataW.Trod enc Try.prog W base sp held 25 v d p) :
    ∃ (id tm vo ro cm el wt : Int) (up : Bool) (lv sv vv nv mv : Value) (lg : List En) (st vs nx mt : List Int), v = .agg #[.int .i64 id, .int .i64 tm, .int .i64 vo, lv, sv, .int .i64 ro, vv, nv, mv, .int .i64 cm, .int .i64 el, .int .i64 wt, .bool up] ∧ NoR W lv sv vv nv mv lg st vs nx mt ∧ (∀ i, i < lg.length → (lg.getD i default).d.size ≤ maxLen) := by
  obtain ⟨cs, rfl, hsz⟩ := okWide_struct Try.underlying25 hv
  have hC : Try.prog.cellsOf 25 = 13 := by kernel_rfl
  obtain ⟨c0, c1, c2, c3, c4, c5, c6, c7, c8, c9, c10, c11, c12, rfl⟩ := array13s (hsz.trans hC)
  obtain ⟨fuel, hf⟩ := h
  obtain ⟨xs, n, _, _, _, hlen, hfl⟩ := DataW.trod_struct Try.underlying25 hf
  have i3 : Try.prog.cellsOf 3 = 1 := by kernel_rfl
  have i4 : Try.prog.cellsOf 4 = 1 := by kernel_rfl
  have iI : Try.prog.cellsOf 23 = 1 := by kernel_rfl
  have iE : Try.prog.cellsOf 22 = 1 := by kernel_rfl
  obtain ⟨y0, e0⟩ := get_some hlen (show 0 < 13 by omega)
  obtain ⟨y1, e1⟩ := get_some hlen (show 1 < 13 by omega)
  obtain ⟨y2, e2⟩ := get_some hlen (show 2 < 13 by omega)
  obtain ⟨y3, e3⟩ := get_some hlen (show 3 < 13 by omega)
  obtain ⟨y4, e4⟩ := get_some hlen (show 4 < 13 by omega)
  obtain ⟨y5, e5⟩ := get_some hlen (show 5 < 13 by omega)
  obtain ⟨y6, e6⟩ := get_some hlen (show 6 < 13 by omega)
  obtain ⟨y7, e7⟩ := get_some hlen (show 7 < 13 by omega)
  obtain ⟨y8, e8⟩ := get_some hlen (show 8 < 13 by omega)
  obtain ⟨y9, e9⟩ := get_some hlen (show 9 < 13 by omega)
  obtain ⟨y10, e10⟩ := get_some hlen (show 10 < 13 by omega)
  obtain ⟨y11, e11⟩ := get_some hlen (show 11 < 13 by omega)
  obtain ⟨y12, e12⟩ := get_some hlen (show 12 < 13 by omega)
  have g0 : DataW.trod enc Try.prog W base sp held n 3 [c0] = some y0 := by simpa [Value.cells, i3, i4, iI, iE] using (hfl 0 _ rfl).trans e0
  have g1 : DataW.trod enc Try.prog W base sp held n 3 [c1] = some y1 := by simpa [Value.cells, i3, i4, iI, iE] using (hfl 1 _ rfl).trans e1
  have g2 : DataW.trod enc Try.prog W base sp held n 3 [c2] = some y2 := by simpa [Value.cells, i3, i4, iI, iE] using (hfl 2 _ rfl).trans e2
  have g3 : DataW.trod enc Try.prog W base sp held n 22 [c3] = some y3 := by simpa [Value.cells, i3, i4, iI, iE] using (hfl 3 _ rfl).trans e3
  have g4 : DataW.trod enc Try.prog W base sp held n 23 [c4] = some y4 := by simpa [Value.cells, i3, i4, iI, iE] using (hfl 4 _ rfl).trans e4
  have g5 : DataW.trod enc Try.prog W base sp held n 3 [c5] = some y5 := by simpa [Value.cells, i3, i4, iI, iE] using (hfl 5 _ rfl).trans e5
  have g6 : DataW.trod enc Try.prog W base sp held n 23 [c6] = some y6 := by simpa [Value.cells, i3, i4, iI, iE] using (hfl 6 _ rfl).trans e6
  have g7 : DataW.trod enc Try.prog W base sp held n 23 [c7] = some y7 := by simpa [Value.cells, i3, i4, iI, iE] using (hfl 7 _ rfl).trans e7
  have g8 : DataW.trod enc Try.prog W base sp held n 23 [c8] = some y8 := by simpa [Value.cells, i3, i4, iI, iE] using (hfl 8 _ rfl).trans e8
  have g9 : DataW.trod enc Try.prog W base sp held n 3 [c9] = some y9 := by simpa [Value.cells, i3, i4, iI, iE] using (hfl 9 _ rfl).trans e9
  have g10 : DataW.trod enc Try.prog W base sp held n 3 [c10] = some y10 := by simpa [Value.cells, i3, i4, iI, iE] using (hfl 10 _ rfl).trans e10
  have g11 : DataW.trod enc Try.prog W base sp held n 3 [c11] = some y11 := by simpa [Value.cells, i3, i4, iI, iE] using (hfl 11 _ rfl).trans e11
  have g12 : DataW.trod enc Try.prog W base sp held n 4 [c12] = some y12 := by simpa [Value.cells, i3, i4, iI, iE] using (hfl 12 _ rfl).trans e12
  obtain ⟨a0, k0, _, _⟩ := DataW.trod_int Try.underlying3 g0
  simp only [List.cons.injEq, and_true] at k0
  subst k0
  obtain ⟨a1, k1, _, _⟩ := DataW.trod_int Try.underlying3 g1
  simp only [List.cons.injEq, and_true] at k1
  subst k1
  obtain ⟨a2, k2, _, _⟩ := DataW.trod_int Try.underlying3 g2
  simp only [List.cons.injEq, and_true] at k2
  subst k2
  obtain ⟨lg, hlg, hlz⟩ := open_entries g3
  obtain ⟨l4, h4⟩ := open_intsAt g4
  obtain ⟨a5, k5, _, _⟩ := DataW.trod_int Try.underlying3 g5
  simp only [List.cons.injEq, and_true] at k5
  subst k5
  obtain ⟨l6, h6⟩ := open_intsAt g6
  obtain ⟨l7, h7⟩ := open_intsAt g7
  obtain ⟨l8, h8⟩ := open_intsAt g8
  obtain ⟨a9, k9, _, _⟩ := DataW.trod_int Try.underlying3 g9
  simp only [List.cons.injEq, and_true] at k9
  subst k9
  obtain ⟨a10, k10, _, _⟩ := DataW.trod_int Try.underlying3 g10
  simp only [List.cons.injEq, and_true] at k10
  subst k10
  obtain ⟨a11, k11, _, _⟩ := DataW.trod_int Try.underlying3 g11
  simp only [List.cons.injEq, and_true] at k11
  subst k11
  obtain ⟨a12, k12, _⟩ := DataW.trod_bool Try.underlying4 g12
  simp only [List.cons.injEq, and_true] at k12
  subst k12
  exact ⟨a0, a1, a2, a5, a9, a10, a11, a12, c3, c4, c6, c7, c8, lg, l4, l6, l7, l8, rfl, ⟨hlg, h4, h6, h7, h8⟩, hlz⟩
end Go.Proofs.Ytljolldacpkeeaa
