/- What the proof of the claim needs (joined by program): NodT NodE StM MarkJ. -/
import Derived.Test.YtbchnheinnileaaGreatDoorQca22
import Derived.Test.YtbchnheinnileaaGreatDoorQca00
import Derived.Test.YtbchnheinnileaaGreatDoorQca20
namespace Go.Proofs.YtbchnheinnileaaGreatDoor
set_option maxRecDepth 100000
set_option maxHeartbeats 8000000
open Go.ChangeShapes Go.WideShapes Go.ChangeAt Go.RowKit Go.Deep
set_option linter.unusedVariables false
def ToNR (id tm vo ro cm el wt : Int) (up : Bool) (lg : List En) (st vs nx mt : List Int) (w : World) (e : Ending) (w' : World) : Prop :=
 ∃ gl gs gv gn gm, e = .returned (.agg #[.int .i64 id, .int .i64 tm, .int .i64 vo, .slice (some ⟨gl, 0, none⟩) lg.length lg.length, .slice (some ⟨gs, 0, none⟩) st.length st.length, .int .i64 ro, .slice (some ⟨gv, 0, none⟩) vs.length vs.length, .slice (some ⟨gn, 0, none⟩) nx.length nx.length, .slice (some ⟨gm, 0, none⟩) mt.length mt.length, .int .i64 cm, .int .i64 el, .int .i64 wt, .bool up]) ∧ NoO w.heap.size w' (.slice (some ⟨gl, 0, none⟩) lg.length lg.length) (.slice (some ⟨gs, 0, none⟩) st.length st.length) (.slice (some ⟨gv, 0, none⟩) vs.length vs.length) (.slice (some ⟨gn, 0, none⟩) nx.length nx.length) (.slice (some ⟨gm, 0, none⟩) mt.length mt.length) lg st vs nx mt ∧ Below w.heap.size w w'
theorem toNode_any (id tm vo ro cm el wt : Int) (up : Bool) (lg : List En) (st vs nx mt : List Int) (la : Option Addr) (lc : Nat) (sa : Option Addr) (sc : Nat) (va : Option Addr) (vc : Nat) (na : Option Addr) (nc : Nat) (ma : Option Addr) (mc : Nat) (w : World) (h : NoR w (.slice la lg.length lc) (.slice sa st.length sc) (.slice va vs.length vc) (.slice na nx.length nc) (.slice ma mt.length mc) lg st vs nx mt) (hs : NoS lg st vs nx mt) :
  Calls Tryz.prog 6 #[.agg #[.int .i64 id, .int .i64 tm, .int .i64 vo, .slice la lg.length lc, .slice sa st.length sc, .int .i64 ro, .slice va vs.length vc, .slice na nx.length nc, .slice ma mt.length mc, .int .i64 cm, .int .i64 el, .int .i64 wt, .bool up]] w fun e w' => ToNR id tm vo ro cm el wt up lg st vs nx mt w e w' := by
 have Tlg := Hd (fun wx (hx : Below w.heap.size w wx) => toEntryS_any _ lg wx (h.lg.below hx) hs.l0)
 have Tst := Hd (fun wx (hx : Below w.heap.size w wx) => toIntS_at _ st wx (h.st.below hx) hs.l1)
 have Tvs := Hd (fun wx (hx : Below w.heap.size w wx) => toIntS_at _ vs wx (h.vs.below hx) hs.l2)
 have Tnx := Hd (fun wx (hx : Below w.heap.size w wx) => toIntS_at _ nx wx (h.nx.below hx) hs.l3)
 have Tmt := Hd (fun wx (hx : Below w.heap.size w wx) => toIntS_at _ mt wx (h.mt.below hx) hs.l4)
 have B3 := Hd (((bal w (.cells #[.int .i64 id, .int .i64 tm, .int .i64 vo, .slice la lg.length lc, .slice sa st.length sc, .int .i64 ro, .slice va vs.length vc, .slice na nx.length nc, .slice ma mt.length mc, .int .i64 cm, .int .i64 el, .int .i64 wt, .bool up] 25)).alloc (by simp) (.cells #[.int .i64 0, .int .i64 0, .int .i64 0, .slice none 0 0, .slice none 0 0, .int .i64 0, .slice none 0 0, .slice none 0 0, .slice none 0 0, .int .i64 0, .int .i64 0, .int .i64 0, .bool false] 38)).alloc (by simp; omega) (.cells #[.int .i64 id, .int .i64 tm, .int .i64 vo, .slice none 0 0, .slice none 0 0, .int .i64 0, .slice none 0 0, .slice none 0 0, .slice none 0 0, .int .i64 0, .int .i64 0, .int .i64 0, .bool false] 38))
 have A3 := Hd (((Blk.new w #[.int .i64 id, .int .i64 tm, .int .i64 vo, .slice la lg.length lc, .slice sa st.length sc, .int .i64 ro, .slice va vs.length vc, .slice na nx.length nc, .slice ma mt.length mc, .int .i64 cm, .int .i64 el, .int .i64 wt, .bool up] 25 w.heap.size rfl).alloc (.cells #[.int .i64 0, .int .i64 0, .int .i64 0, .slice none 0 0, .slice none 0 0, .int .i64 0, .slice none 0 0, .slice none 0 0, .slice none 0 0, .int .i64 0, .int .i64 0, .int .i64 0, .bool false] 38)).alloc (.cells #[.int .i64 id, .int .i64 tm, .int .i64 vo, .slice none 0 0, .slice none 0 0, .int .i64 0, .slice none 0 0, .slice none 0 0, .slice none 0 0, .int .i64 0, .int .i64 0, .int .i64 0, .bool false] 38))
 have R3 := Hd ((Blk.new (w.alloc (.cells #[.int .i64 id, .int .i64 tm, .int .i64 vo, .slice la lg.length lc, .slice sa st.length sc, .int .i64 ro, .slice va vs.length vc, .slice na nx.length nc, .slice ma mt.length mc, .int .i64 cm, .int .i64 el, .int .i64 wt, .bool up] 25)) #[.int .i64 0, .int .i64 0, .int .i64 0, .slice none 0 0, .slice none 0 0, .int .i64 0, .slice none 0 0, .slice none 0 0, .slice none 0 0, .int .i64 0, .int .i64 0, .int .i64 0, .bool false] 38 (w.heap.size + 1) (by simp)).alloc (.cells #[.int .i64 id, .int .i64 tm, .int .i64 vo, .slice none 0 0, .slice none 0 0, .int .i64 0, .slice none 0 0, .slice none 0 0, .slice none 0 0, .int .i64 0, .int .i64 0, .int .i64 0, .bool false] 38))
 have O3 := Hd (Blk.new ((w.alloc (.cells #[.int .i64 id, .int .i64 tm, .int .i64 vo, .slice la lg.length lc, .slice sa st.length sc, .int .i64 ro, .slice va vs.length vc, .slice na nx.length nc, .slice ma mt.length mc, .int .i64 cm, .int .i64 el, .int .i64 wt, .bool up] 25)).alloc (.cells #[.int .i64 0, .int .i64 0, .int .i64 0, .slice none 0 0, .slice none 0 0, .int .i64 0, .slice none 0 0, .slice none 0 0, .slice none 0 0, .int .i64 0, .int .i64 0, .int .i64 0, .bool false] 38)) #[.int .i64 id, .int .i64 tm, .int .i64 vo, .slice none 0 0, .slice none 0 0, .int .i64 0, .slice none 0 0, .slice none 0 0, .slice none 0 0, .int .i64 0, .int .i64 0, .int .i64 0, .bool false] 38 (w.heap.size + 1 + 1) (by simp))
 have Z3 := Hd (show (((w.alloc (.cells #[.int .i64 id, .int .i64 tm, .int .i64 vo, .slice la lg.length lc, .slice sa st.length sc, .int .i64 ro, .slice va vs.length vc, .slice na nx.length nc, .slice ma mt.length mc, .int .i64 cm, .int .i64 el, .int .i64 wt, .bool up] 25)).alloc (.cells #[.int .i64 0, .int .i64 0, .int .i64 0, .slice none 0 0, .slice none 0 0, .int .i64 0, .slice none 0 0, .slice none 0 0, .slice none 0 0, .int .i64 0, .int .i64 0, .int .i64 0, .bool false] 38)).alloc (.cells #[.int .i64 id, .int .i64 tm, .int .i64 vo, .slice none 0 0, .slice none 0 0, .int .i64 0, .slice none 0 0, .slice none 0 0, .slice none 0 0, .int .i64 0, .int .i64 0, .int .i64 0, .bool false] 38)).heap.size = w.heap.size + 3 by simp)
 clear h hs
 go_enter Tryz.func6, Tryz.ntmps6
 go_wp2_with fail
 generalize ((w.alloc (.cells #[.int .i64 id, .int .i64 tm, .int .i64 vo, .slice la lg.length lc, .slice sa st.length sc, .int .i64 ro, .slice va vs.length vc, .slice na nx.length nc, .slice ma mt.length mc, .int .i64 cm, .int .i64 el, .int .i64 wt, .bool up] 25)).alloc (.cells #[.int .i64 0, .int .i64 0, .int .i64 0, .slice none 0 0, .slice none 0 0, .int .i64 0, .slice none 0 0, .slice none 0 0, .slice none 0 0, .int .i64 0, .int .i64 0, .int .i64 0, .bool false] 38)).alloc (.cells #[.int .i64 id, .int .i64 tm, .int .i64 vo, .slice none 0 0, .slice none 0 0, .int .i64 0, .slice none 0 0, .slice none 0 0, .slice none 0 0, .int .i64 0, .int .i64 0, .int .i64 0, .bool false] 38) = w3 at *
 refine (uh Tlg w3 (uh B3)).mono ?_
 rintro e w4 ⟨rfl, hO, hb⟩
 have hzl := uh Z3
 generalize hgl : w3.heap.size = gl at *
 have hlt := World.ownsRow.lt hO
 have hbz : Below w3.heap.size w3 w4 := hgl ▸ hb
 have O4 := (uh O3).below hbz
 have o3 := O4.cell 3 rfl
 have fo3 := O4.fro 3
 have A5 := (((uh A3).below hbz).other (C := w.heap.size + 1 + 1) 3 (.slice (some ⟨gl, 0, none⟩) lg.length lg.length) (by omega))
 have R5 := (((uh R3).below hbz).other (C := w.heap.size + 1 + 1) 3 (.slice (some ⟨gl, 0, none⟩) lg.length lg.length) (by omega))
 have O5 := (O4.set 3 (.slice (some ⟨gl, 0, none⟩) lg.length lg.length) (by simp))
 have B5 := Hd (((uh B3).trans (hb.mono (by omega))).setCell (p := ⟨w.heap.size + 1 + 1, 3, none⟩) (by simp; omega) (.slice (some ⟨gl, 0, none⟩) lg.length lg.length))
 have T5 := ((Touch.refl (fun q => q = w.heap.size + 1 + 1) w4).setCell ⟨w.heap.size + 1 + 1, 3, none⟩ (.slice (some ⟨gl, 0, none⟩) lg.length lg.length) (fun _ => rfl))
 have a4 := A5.cell 4 rfl
 have Ul := hO.kept T5 (fun q hq e => by have := (hlt q hq).1; omega)
 have Gl := Hd (show w.heap.size + 1 + 1 < gl ∧ gl < ((w4.setCell ⟨w.heap.size + 1 + 1, 3, none⟩ (.slice (some ⟨gl, 0, none⟩) lg.length lg.length))).heap.size from ⟨by omega, by have := (hlt gl rfl).2; simpa using this⟩)
 have Ql := Hd (show w3.heap.size = gl from hgl)
 have HA5 := Hd A5
 have HR5 := Hd R5
 have HO5 := Hd O5
 have Nl := Hd Ul
 have hsz : ((w4.setCell ⟨w.heap.size + 1 + 1, 3, none⟩ (.slice (some ⟨gl, 0, none⟩) lg.length lg.length))).heap.size = w4.heap.size := by simp
 have Z4 := Hd (show w.heap.size + 3 ≤ ((w4.setCell ⟨w.heap.size + 1 + 1, 3, none⟩ (.slice (some ⟨gl, 0, none⟩) lg.length lg.length))).heap.size by rw [hsz]; have := (uh Gl); omega)
 clear A5 R5 O5 O4 T5 hO hlt hb hbz Tlg Z3 hzl hgl Ul A3 R3 O3 B3
 go_wp2_with fail
 clear o3 fo3
 generalize (w4.setCell ⟨w.heap.size + 1 + 1, 3, none⟩ (.slice (some ⟨gl, 0, none⟩) lg.length lg.length)) = w5 at *
 have HA := Hd (uh HA5)
 clear HA5
 have HR := Hd (uh HR5)
 clear HR5
 have HO := Hd (uh HO5)
 clear HO5
 have HB := Hd (uh B5)
 clear B5
 have Ml := Hd (uh Nl)
 clear Nl
 clear hsz
 have Z5 := Hd (uh Z4)
 clear Z4
 refine (uh Tst w5 (uh HB)).mono ?_
 rintro e w6 ⟨rfl, hO, hb⟩
 have hzs := uh Z5
 generalize hgs : w5.heap.size = gs at *
 have hlt := hO.lt
 have hbz : Below w5.heap.size w5 w6 := hgs ▸ hb
 have O4 := (uh HO).below hbz
 have o4 := O4.cell 4 rfl
 have fo4 := O4.fro 4
 have o5 := O4.cell 5 rfl
 have fo5 := O4.fro 5
 have A5 := ((((uh HA).below hbz).other (C := w.heap.size + 1 + 1) 4 (.slice (some ⟨gs, 0, none⟩) st.length st.length) (by omega)).other (C := w.heap.size + 1 + 1) 5 (.int .i64 ro) (by omega))
 have R5 := ((((uh HR).below hbz).other (C := w.heap.size + 1 + 1) 4 (.slice (some ⟨gs, 0, none⟩) st.length st.length) (by omega)).other (C := w.heap.size + 1 + 1) 5 (.int .i64 ro) (by omega))
 have O5 := ((O4.set 4 (.slice (some ⟨gs, 0, none⟩) st.length st.length) (by simp)).set 5 (.int .i64 ro) (by simp))
 have B5 := Hd ((((uh HB).trans (hb.mono (by omega))).setCell (p := ⟨w.heap.size + 1 + 1, 4, none⟩) (by simp; omega) (.slice (some ⟨gs, 0, none⟩) st.length st.length)).setCell (p := ⟨w.heap.size + 1 + 1, 5, none⟩) (by simp; omega) (.int .i64 ro))
 have T5 := (((Touch.refl (fun q => q = w.heap.size + 1 + 1) w6).setCell ⟨w.heap.size + 1 + 1, 4, none⟩ (.slice (some ⟨gs, 0, none⟩) st.length st.length) (fun _ => rfl)).setCell ⟨w.heap.size + 1 + 1, 5, none⟩ (.int .i64 ro) (fun _ => rfl))
 have ax5 := ((uh HA).below hbz).other (C := w.heap.size + 1 + 1) 4 (.slice (some ⟨gs, 0, none⟩) st.length st.length) (by omega)
 have a5 := ax5.cell 5 rfl
 clear ax5
 have a6 := A5.cell 6 rfl
 have Ul := ((uh Ml).below hbz).kept T5 (fun q hq e => by have hw := (uh Gl); simp [Value.ownBlock] at hq; omega)
 have Us := hO.kept T5 (fun q hq e => by have := (hlt q hq).1; omega)
 have Gs := Hd (show w.heap.size + 1 + 1 < gs ∧ gs < (((w6.setCell ⟨w.heap.size + 1 + 1, 4, none⟩ (.slice (some ⟨gs, 0, none⟩) st.length st.length)).setCell ⟨w.heap.size + 1 + 1, 5, none⟩ (.int .i64 ro))).heap.size from ⟨by omega, by have := (hlt gs rfl).2; simpa using this⟩)
 have Qs := Hd (show w5.heap.size = gs from hgs)
 have Fs := Hd (show gl < gs from by have := (uh Gl).2; omega)
 have HA5 := Hd A5
 have HR5 := Hd R5
 have HO5 := Hd O5
 have Nl := Hd Ul
 have Ns := Hd Us
 have hsz : (((w6.setCell ⟨w.heap.size + 1 + 1, 4, none⟩ (.slice (some ⟨gs, 0, none⟩) st.length st.length)).setCell ⟨w.heap.size + 1 + 1, 5, none⟩ (.int .i64 ro))).heap.size = w6.heap.size := by simp
 have Z6 := Hd (show w.heap.size + 3 ≤ (((w6.setCell ⟨w.heap.size + 1 + 1, 4, none⟩ (.slice (some ⟨gs, 0, none⟩) st.length st.length)).setCell ⟨w.heap.size + 1 + 1, 5, none⟩ (.int .i64 ro))).heap.size by rw [hsz]; have := (uh Gs); omega)
 clear A5 R5 O5 O4 T5 hO hlt hb hbz Tst Z5 hzs hgs Ul Us HA HR HO HB Ml
 go_wp2_with fail
 clear o4 fo4 o5 fo5 a5
 generalize ((w6.setCell ⟨w.heap.size + 1 + 1, 4, none⟩ (.slice (some ⟨gs, 0, none⟩) st.length st.length)).setCell ⟨w.heap.size + 1 + 1, 5, none⟩ (.int .i64 ro)) = w7 at *
 have HA := Hd (uh HA5)
 clear HA5
 have HR := Hd (uh HR5)
 clear HR5
 have HO := Hd (uh HO5)
 clear HO5
 have HB := Hd (uh B5)
 clear B5
 have Ml := Hd (uh Nl)
 clear Nl
 have Ms := Hd (uh Ns)
 clear Ns
 clear hsz
 have Z7 := Hd (uh Z6)
 clear Z6
 refine (uh Tvs w7 (uh HB)).mono ?_
 rintro e w8 ⟨rfl, hO, hb⟩
 have hzv := uh Z7
 generalize hgv : w7.heap.size = gv at *
 have hlt := hO.lt
 have hbz : Below w7.heap.size w7 w8 := hgv ▸ hb
 have O4 := (uh HO).below hbz
 have o6 := O4.cell 6 rfl
 have fo6 := O4.fro 6
 have A5 := (((uh HA).below hbz).other (C := w.heap.size + 1 + 1) 6 (.slice (some ⟨gv, 0, none⟩) vs.length vs.length) (by omega))
 have R5 := (((uh HR).below hbz).other (C := w.heap.size + 1 + 1) 6 (.slice (some ⟨gv, 0, none⟩) vs.length vs.length) (by omega))
 have O5 := (O4.set 6 (.slice (some ⟨gv, 0, none⟩) vs.length vs.length) (by simp))
 have B5 := Hd (((uh HB).trans (hb.mono (by omega))).setCell (p := ⟨w.heap.size + 1 + 1, 6, none⟩) (by simp; omega) (.slice (some ⟨gv, 0, none⟩) vs.length vs.length))
 have T5 := ((Touch.refl (fun q => q = w.heap.size + 1 + 1) w8).setCell ⟨w.heap.size + 1 + 1, 6, none⟩ (.slice (some ⟨gv, 0, none⟩) vs.length vs.length) (fun _ => rfl))
 have a7 := A5.cell 7 rfl
 have Ul := ((uh Ml).below hbz).kept T5 (fun q hq e => by have hw := (uh Gl); simp [Value.ownBlock] at hq; omega)
 have Us := ((uh Ms).below hbz).kept T5 (fun q hq e => by have hw := (uh Gs); simp [Value.ownBlock] at hq; omega)
 have Uv := hO.kept T5 (fun q hq e => by have := (hlt q hq).1; omega)
 have Gv := Hd (show w.heap.size + 1 + 1 < gv ∧ gv < ((w8.setCell ⟨w.heap.size + 1 + 1, 6, none⟩ (.slice (some ⟨gv, 0, none⟩) vs.length vs.length))).heap.size from ⟨by omega, by have := (hlt gv rfl).2; simpa using this⟩)
 have Qv := Hd (show w7.heap.size = gv from hgv)
 have Fv := Hd (show gs < gv from by have := (uh Gs).2; omega)
 have HA5 := Hd A5
 have HR5 := Hd R5
 have HO5 := Hd O5
 have Nl := Hd Ul
 have Ns := Hd Us
 have Nv := Hd Uv
 have hsz : ((w8.setCell ⟨w.heap.size + 1 + 1, 6, none⟩ (.slice (some ⟨gv, 0, none⟩) vs.length vs.length))).heap.size = w8.heap.size := by simp
 have Z8 := Hd (show w.heap.size + 3 ≤ ((w8.setCell ⟨w.heap.size + 1 + 1, 6, none⟩ (.slice (some ⟨gv, 0, none⟩) vs.length vs.length))).heap.size by rw [hsz]; have := (uh Gv); omega)
 clear A5 R5 O5 O4 T5 hO hlt hb hbz Tvs Z7 hzv hgv Ul Us Uv HA HR HO HB Ml Ms
 go_wp2_with fail
 clear o6 fo6
 generalize (w8.setCell ⟨w.heap.size + 1 + 1, 6, none⟩ (.slice (some ⟨gv, 0, none⟩) vs.length vs.length)) = w9 at *
 have HA := Hd (uh HA5)
 clear HA5
 have HR := Hd (uh HR5)
 clear HR5
 have HO := Hd (uh HO5)
 clear HO5
 have HB := Hd (uh B5)
 clear B5
 have Ml := Hd (uh Nl)
 clear Nl
 have Ms := Hd (uh Ns)
 clear Ns
 have Mv := Hd (uh Nv)
 clear Nv
 clear hsz
 have Z9 := Hd (uh Z8)
 clear Z8
 refine (uh Tnx w9 (uh HB)).mono ?_
 rintro e w10 ⟨rfl, hO, hb⟩
 have hzn := uh Z9
 generalize hgn : w9.heap.size = gn at *
 have hlt := hO.lt
 have hbz : Below w9.heap.size w9 w10 := hgn ▸ hb
 have O4 := (uh HO).below hbz
 have o7 := O4.cell 7 rfl
 have fo7 := O4.fro 7
 have A5 := (((uh HA).below hbz).other (C := w.heap.size + 1 + 1) 7 (.slice (some ⟨gn, 0, none⟩) nx.length nx.length) (by omega))
 have R5 := (((uh HR).below hbz).other (C := w.heap.size + 1 + 1) 7 (.slice (some ⟨gn, 0, none⟩) nx.length nx.length) (by omega))
 have O5 := (O4.set 7 (.slice (some ⟨gn, 0, none⟩) nx.length nx.length) (by simp))
 have B5 := Hd (((uh HB).trans (hb.mono (by omega))).setCell (p := ⟨w.heap.size + 1 + 1, 7, none⟩) (by simp; omega) (.slice (some ⟨gn, 0, none⟩) nx.length nx.length))
 have T5 := ((Touch.refl (fun q => q = w.heap.size + 1 + 1) w10).setCell ⟨w.heap.size + 1 + 1, 7, none⟩ (.slice (some ⟨gn, 0, none⟩) nx.length nx.length) (fun _ => rfl))
 have a8 := A5.cell 8 rfl
 have Ul := ((uh Ml).below hbz).kept T5 (fun q hq e => by have hw := (uh Gl); simp [Value.ownBlock] at hq; omega)
 have Us := ((uh Ms).below hbz).kept T5 (fun q hq e => by have hw := (uh Gs); simp [Value.ownBlock] at hq; omega)
 have Uv := ((uh Mv).below hbz).kept T5 (fun q hq e => by have hw := (uh Gv); simp [Value.ownBlock] at hq; omega)
 have Un := hO.kept T5 (fun q hq e => by have := (hlt q hq).1; omega)
 have Gn := Hd (show w.heap.size + 1 + 1 < gn ∧ gn < ((w10.setCell ⟨w.heap.size + 1 + 1, 7, none⟩ (.slice (some ⟨gn, 0, none⟩) nx.length nx.length))).heap.size from ⟨by omega, by have := (hlt gn rfl).2; simpa using this⟩)
 have Qn := Hd (show w9.heap.size = gn from hgn)
 have Fn := Hd (show gv < gn from by have := (uh Gv).2; omega)
 have HA5 := Hd A5
 have HR5 := Hd R5
 have HO5 := Hd O5
 have Nl := Hd Ul
 have Ns := Hd Us
 have Nv := Hd Uv
 have Nn := Hd Un
 have hsz : ((w10.setCell ⟨w.heap.size + 1 + 1, 7, none⟩ (.slice (some ⟨gn, 0, none⟩) nx.length nx.length))).heap.size = w10.heap.size := by simp
 have Z10 := Hd (show w.heap.size + 3 ≤ ((w10.setCell ⟨w.heap.size + 1 + 1, 7, none⟩ (.slice (some ⟨gn, 0, none⟩) nx.length nx.length))).heap.size by rw [hsz]; have := (uh Gn); omega)
 clear A5 R5 O5 O4 T5 hO hlt hb hbz Tnx Z9 hzn hgn Ul Us Uv Un HA HR HO HB Ml Ms Mv
 go_wp2_with fail
 clear o7 fo7
 generalize (w10.setCell ⟨w.heap.size + 1 + 1, 7, none⟩ (.slice (some ⟨gn, 0, none⟩) nx.length nx.length)) = w11 at *
 have HA := Hd (uh HA5)
 clear HA5
 have HR := Hd (uh HR5)
 clear HR5
 have HO := Hd (uh HO5)
 clear HO5
 have HB := Hd (uh B5)
 clear B5
 have Ml := Hd (uh Nl)
 clear Nl
 have Ms := Hd (uh Ns)
 clear Ns
 have Mv := Hd (uh Nv)
 clear Nv
 have Mn := Hd (uh Nn)
 clear Nn
 clear hsz
 have Z11 := Hd (uh Z10)
 clear Z10
 refine (uh Tmt w11 (uh HB)).mono ?_
 rintro e w12 ⟨rfl, hO, hb⟩
 have hzm := uh Z11
 generalize hgm : w11.heap.size = gm at *
 have hlt := hO.lt
 have hbz : Below w11.heap.size w11 w12 := hgm ▸ hb
 have O4 := (uh HO).below hbz
 have o8 := O4.cell 8 rfl
 have fo8 := O4.fro 8
 have o9 := O4.cell 9 rfl
 have fo9 := O4.fro 9
 have o10 := O4.cell 10 rfl
 have fo10 := O4.fro 10
 have o11 := O4.cell 11 rfl
 have fo11 := O4.fro 11
 have o12 := O4.cell 12 rfl
 have fo12 := O4.fro 12
 have A5 := (((((((uh HA).below hbz).other (C := w.heap.size + 1 + 1) 8 (.slice (some ⟨gm, 0, none⟩) mt.length mt.length) (by omega)).other (C := w.heap.size + 1 + 1) 9 (.int .i64 cm) (by omega)).other (C := w.heap.size + 1 + 1) 10 (.int .i64 el) (by omega)).other (C := w.heap.size + 1 + 1) 11 (.int .i64 wt) (by omega)).other (C := w.heap.size + 1 + 1) 12 (.bool up) (by omega))
 have R5 := (((((((uh HR).below hbz).other (C := w.heap.size + 1 + 1) 8 (.slice (some ⟨gm, 0, none⟩) mt.length mt.length) (by omega)).other (C := w.heap.size + 1 + 1) 9 (.int .i64 cm) (by omega)).other (C := w.heap.size + 1 + 1) 10 (.int .i64 el) (by omega)).other (C := w.heap.size + 1 + 1) 11 (.int .i64 wt) (by omega)).other (C := w.heap.size + 1 + 1) 12 (.bool up) (by omega))
 have O5 := (((((O4.set 8 (.slice (some ⟨gm, 0, none⟩) mt.length mt.length) (by simp)).set 9 (.int .i64 cm) (by simp)).set 10 (.int .i64 el) (by simp)).set 11 (.int .i64 wt) (by simp)).set 12 (.bool up) (by simp))
 have B5 := Hd (((((((uh HB).trans (hb.mono (by omega))).setCell (p := ⟨w.heap.size + 1 + 1, 8, none⟩) (by simp; omega) (.slice (some ⟨gm, 0, none⟩) mt.length mt.length)).setCell (p := ⟨w.heap.size + 1 + 1, 9, none⟩) (by simp; omega) (.int .i64 cm)).setCell (p := ⟨w.heap.size + 1 + 1, 10, none⟩) (by simp; omega) (.int .i64 el)).setCell (p := ⟨w.heap.size + 1 + 1, 11, none⟩) (by simp; omega) (.int .i64 wt)).setCell (p := ⟨w.heap.size + 1 + 1, 12, none⟩) (by simp; omega) (.bool up))
 have T5 := ((((((Touch.refl (fun q => q = w.heap.size + 1 + 1) w12).setCell ⟨w.heap.size + 1 + 1, 8, none⟩ (.slice (some ⟨gm, 0, none⟩) mt.length mt.length) (fun _ => rfl)).setCell ⟨w.heap.size + 1 + 1, 9, none⟩ (.int .i64 cm) (fun _ => rfl)).setCell ⟨w.heap.size + 1 + 1, 10, none⟩ (.int .i64 el) (fun _ => rfl)).setCell ⟨w.heap.size + 1 + 1, 11, none⟩ (.int .i64 wt) (fun _ => rfl)).setCell ⟨w.heap.size + 1 + 1, 12, none⟩ (.bool up) (fun _ => rfl))
 have a9 := (((uh HA).below hbz).other (C := w.heap.size + 1 + 1) 8 (.slice (some ⟨gm, 0, none⟩) mt.length mt.length) (by omega)).cell 9 rfl
 have a10 := ((((uh HA).below hbz).other (C := w.heap.size + 1 + 1) 8 (.slice (some ⟨gm, 0, none⟩) mt.length mt.length) (by omega)).other (C := w.heap.size + 1 + 1) 9 (.int .i64 cm) (by omega)).cell 10 rfl
 have a11 := (((((uh HA).below hbz).other (C := w.heap.size + 1 + 1) 8 (.slice (some ⟨gm, 0, none⟩) mt.length mt.length) (by omega)).other (C := w.heap.size + 1 + 1) 9 (.int .i64 cm) (by omega)).other (C := w.heap.size + 1 + 1) 10 (.int .i64 el) (by omega)).cell 11 rfl
 have a12 := ((((((uh HA).below hbz).other (C := w.heap.size + 1 + 1) 8 (.slice (some ⟨gm, 0, none⟩) mt.length mt.length) (by omega)).other (C := w.heap.size + 1 + 1) 9 (.int .i64 cm) (by omega)).other (C := w.heap.size + 1 + 1) 10 (.int .i64 el) (by omega)).other (C := w.heap.size + 1 + 1) 11 (.int .i64 wt) (by omega)).cell 12 rfl
 have Ul := ((uh Ml).below hbz).kept T5 (fun q hq e => by have hw := (uh Gl); simp [Value.ownBlock] at hq; omega)
 have Us := ((uh Ms).below hbz).kept T5 (fun q hq e => by have hw := (uh Gs); simp [Value.ownBlock] at hq; omega)
 have Uv := ((uh Mv).below hbz).kept T5 (fun q hq e => by have hw := (uh Gv); simp [Value.ownBlock] at hq; omega)
 have Un := ((uh Mn).below hbz).kept T5 (fun q hq e => by have hw := (uh Gn); simp [Value.ownBlock] at hq; omega)
 have Um := hO.kept T5 (fun q hq e => by have := (hlt q hq).1; omega)
 have Gm := Hd (show w.heap.size + 1 + 1 < gm ∧ gm < ((((((w12.setCell ⟨w.heap.size + 1 + 1, 8, none⟩ (.slice (some ⟨gm, 0, none⟩) mt.length mt.length)).setCell ⟨w.heap.size + 1 + 1, 9, none⟩ (.int .i64 cm)).setCell ⟨w.heap.size + 1 + 1, 10, none⟩ (.int .i64 el)).setCell ⟨w.heap.size + 1 + 1, 11, none⟩ (.int .i64 wt)).setCell ⟨w.heap.size + 1 + 1, 12, none⟩ (.bool up))).heap.size from ⟨by omega, by have := (hlt gm rfl).2; simpa using this⟩)
 have Qm := Hd (show w11.heap.size = gm from hgm)
 have Fm := Hd (show gn < gm from by have := (uh Gn).2; omega)
 have o50 := O5.cell 0 rfl
 have o51 := O5.cell 1 rfl
 have o52 := O5.cell 2 rfl
 have o53 := O5.cell 3 rfl
 have o54 := O5.cell 4 rfl
 have o55 := O5.cell 5 rfl
 have o56 := O5.cell 6 rfl
 have o57 := O5.cell 7 rfl
 have o58 := O5.cell 8 rfl
 have o59 := O5.cell 9 rfl
 have o510 := O5.cell 10 rfl
 have o511 := O5.cell 11 rfl
 have o512 := O5.cell 12 rfl
 have r50 := R5.cell 0 rfl
 have fr0 := R5.fro 0
 have r51 := R5.cell 1 rfl
 have fr1 := R5.fro 1
 have r52 := R5.cell 2 rfl
 have fr2 := R5.fro 2
 have r53 := R5.cell 3 rfl
 have fr3 := R5.fro 3
 have r54 := R5.cell 4 rfl
 have fr4 := R5.fro 4
 have r55 := R5.cell 5 rfl
 have fr5 := R5.fro 5
 have r56 := R5.cell 6 rfl
 have fr6 := R5.fro 6
 have r57 := R5.cell 7 rfl
 have fr7 := R5.fro 7
 have r58 := R5.cell 8 rfl
 have fr8 := R5.fro 8
 have r59 := R5.cell 9 rfl
 have fr9 := R5.fro 9
 have r510 := R5.cell 10 rfl
 have fr10 := R5.fro 10
 have r511 := R5.cell 11 rfl
 have fr11 := R5.fro 11
 have r512 := R5.cell 12 rfl
 have fr12 := R5.fro 12
 have R9 := (((((((((((((R5.set 0 (.int .i64 id) (by simp)).set 1 (.int .i64 tm) (by simp)).set 2 (.int .i64 vo) (by simp)).set 3 ((.slice (some ⟨gl, 0, none⟩) lg.length lg.length)) (by simp)).set 4 ((.slice (some ⟨gs, 0, none⟩) st.length st.length)) (by simp)).set 5 (.int .i64 ro) (by simp)).set 6 ((.slice (some ⟨gv, 0, none⟩) vs.length vs.length)) (by simp)).set 7 ((.slice (some ⟨gn, 0, none⟩) nx.length nx.length)) (by simp)).set 8 ((.slice (some ⟨gm, 0, none⟩) mt.length mt.length)) (by simp)).set 9 (.int .i64 cm) (by simp)).set 10 (.int .i64 el) (by simp)).set 11 (.int .i64 wt) (by simp)).set 12 (.bool up) (by simp))
 have B9 := Hd ((((((((((((((uh B5).setCell (p := ⟨w.heap.size + 1, 0, none⟩) (by simp) (.int .i64 id)).setCell (p := ⟨w.heap.size + 1, 1, none⟩) (by simp) (.int .i64 tm)).setCell (p := ⟨w.heap.size + 1, 2, none⟩) (by simp) (.int .i64 vo)).setCell (p := ⟨w.heap.size + 1, 3, none⟩) (by simp) ((.slice (some ⟨gl, 0, none⟩) lg.length lg.length))).setCell (p := ⟨w.heap.size + 1, 4, none⟩) (by simp) ((.slice (some ⟨gs, 0, none⟩) st.length st.length))).setCell (p := ⟨w.heap.size + 1, 5, none⟩) (by simp) (.int .i64 ro)).setCell (p := ⟨w.heap.size + 1, 6, none⟩) (by simp) ((.slice (some ⟨gv, 0, none⟩) vs.length vs.length))).setCell (p := ⟨w.heap.size + 1, 7, none⟩) (by simp) ((.slice (some ⟨gn, 0, none⟩) nx.length nx.length))).setCell (p := ⟨w.heap.size + 1, 8, none⟩) (by simp) ((.slice (some ⟨gm, 0, none⟩) mt.length mt.length))).setCell (p := ⟨w.heap.size + 1, 9, none⟩) (by simp) (.int .i64 cm)).setCell (p := ⟨w.heap.size + 1, 10, none⟩) (by simp) (.int .i64 el)).setCell (p := ⟨w.heap.size + 1, 11, none⟩) (by simp) (.int .i64 wt)).setCell (p := ⟨w.heap.size + 1, 12, none⟩) (by simp) (.bool up))
 have T9 := ((((((((((((((Touch.refl (fun q => q = w.heap.size + 1) ((((((w12.setCell ⟨w.heap.size + 1 + 1, 8, none⟩ (.slice (some ⟨gm, 0, none⟩) mt.length mt.length)).setCell ⟨w.heap.size + 1 + 1, 9, none⟩ (.int .i64 cm)).setCell ⟨w.heap.size + 1 + 1, 10, none⟩ (.int .i64 el)).setCell ⟨w.heap.size + 1 + 1, 11, none⟩ (.int .i64 wt)).setCell ⟨w.heap.size + 1 + 1, 12, none⟩ (.bool up)))).setCell ⟨w.heap.size + 1, 0, none⟩ (.int .i64 id) (fun _ => rfl)).setCell ⟨w.heap.size + 1, 1, none⟩ (.int .i64 tm) (fun _ => rfl)).setCell ⟨w.heap.size + 1, 2, none⟩ (.int .i64 vo) (fun _ => rfl)).setCell ⟨w.heap.size + 1, 3, none⟩ ((.slice (some ⟨gl, 0, none⟩) lg.length lg.length)) (fun _ => rfl)).setCell ⟨w.heap.size + 1, 4, none⟩ ((.slice (some ⟨gs, 0, none⟩) st.length st.length)) (fun _ => rfl)).setCell ⟨w.heap.size + 1, 5, none⟩ (.int .i64 ro) (fun _ => rfl)).setCell ⟨w.heap.size + 1, 6, none⟩ ((.slice (some ⟨gv, 0, none⟩) vs.length vs.length)) (fun _ => rfl)).setCell ⟨w.heap.size + 1, 7, none⟩ ((.slice (some ⟨gn, 0, none⟩) nx.length nx.length)) (fun _ => rfl)).setCell ⟨w.heap.size + 1, 8, none⟩ ((.slice (some ⟨gm, 0, none⟩) mt.length mt.length)) (fun _ => rfl)).setCell ⟨w.heap.size + 1, 9, none⟩ (.int .i64 cm) (fun _ => rfl)).setCell ⟨w.heap.size + 1, 10, none⟩ (.int .i64 el) (fun _ => rfl)).setCell ⟨w.heap.size + 1, 11, none⟩ (.int .i64 wt) (fun _ => rfl)).setCell ⟨w.heap.size + 1, 12, none⟩ (.bool up) (fun _ => rfl))
 have Vl := Ul.kept T9 (fun q hq e => by have hw := (uh Gl); simp [Value.ownBlock] at hq; omega)
 have Vs := Us.kept T9 (fun q hq e => by have hw := (uh Gs); simp [Value.ownBlock] at hq; omega)
 have Vv := Uv.kept T9 (fun q hq e => by have hw := (uh Gv); simp [Value.ownBlock] at hq; omega)
 have Vn := Un.kept T9 (fun q hq e => by have hw := (uh Gn); simp [Value.ownBlock] at hq; omega)
 have Vm := Um.kept T9 (fun q hq e => by have hw := (uh Gm); simp [Value.ownBlock] at hq; omega)
 have F9 := Hd (And.intro Vl (And.intro Vs (And.intro Vv (And.intro Vn Vm))))
 have z0 := R9.cell 0 rfl
 have z1 := R9.cell 1 rfl
 have z2 := R9.cell 2 rfl
 have z3 := R9.cell 3 rfl
 have z4 := R9.cell 4 rfl
 have z5 := R9.cell 5 rfl
 have z6 := R9.cell 6 rfl
 have z7 := R9.cell 7 rfl
 have z8 := R9.cell 8 rfl
 have z9 := R9.cell 9 rfl
 have z10 := R9.cell 10 rfl
 have z11 := R9.cell 11 rfl
 have z12 := R9.cell 12 rfl
 have FF := Hd (And.intro (uh Fs) (And.intro (uh Fv) (And.intro (uh Fn) (uh Fm))))
 have GG := Hd (And.intro (uh Gl).1 (And.intro (uh Gs).1 (And.intro (uh Gv).1 (And.intro (uh Gn).1 (uh Gm).1))))
 clear A5 R5 O5 O4 T5 T9 R9 hO hlt hb hbz Ul Us Uv Un Um Vl Vs Vv Vn Vm HA HR HO HB Tmt Ml Ms Mv Mn B5 Gl Gs Gv Gn Gm Fs Fv Fn Fm
 clear hgm Ql Qs Qv Qn Qm
 go_wp2_with fail
 refine bodyPost_ret (v := .agg #[.int .i64 id, .int .i64 tm, .int .i64 vo, .slice (some ⟨gl, 0, none⟩) lg.length lg.length, .slice (some ⟨gs, 0, none⟩) st.length st.length, .int .i64 ro, .slice (some ⟨gv, 0, none⟩) vs.length vs.length, .slice (some ⟨gn, 0, none⟩) nx.length nx.length, .slice (some ⟨gm, 0, none⟩) mt.length mt.length, .int .i64 cm, .int .i64 el, .int .i64 wt, .bool up]) (by simp [results, Tryz.results6, go_sem, z0, z1, z2, z3, z4, z5, z6, z7, z8, z9, z10, z11, z12]) rfl ?_
 refine ⟨gl, gs, gv, gn, gm, rfl, ⟨?_, ?_, ?_, ?_, ?_, ?_⟩, uh B9⟩
 ·exact World.ownsRow_monoE (uh F9).1 (by have := (uh GG).1; omega)
 ·exact (uh F9).2.1.mono (by have := (uh GG).2.1; omega)
 ·exact (uh F9).2.2.1.mono (by have := (uh GG).2.2.1; omega)
 ·exact (uh F9).2.2.2.1.mono (by have := (uh GG).2.2.2.1; omega)
 ·exact (uh F9).2.2.2.2.mono (by have := (uh GG).2.2.2.2; omega)
 ·have f := uh FF
  simp [Apart, Value.ownBlock]
  omega
theorem eqNode_any (id tm vo ro cm el wt : Int) (up : Bool) (lg : List En) (st vs nx mt : List Int) (la : Option Addr) (lc : Nat) (sa : Option Addr) (sc : Nat) (va : Option Addr) (vc : Nat) (na : Option Addr) (nc : Nat) (ma : Option Addr) (mc : Nat) (la2 : Option Addr) (lc2 : Nat) (sa2 : Option Addr) (sc2 : Nat) (va2 : Option Addr) (vc2 : Nat) (na2 : Option Addr) (nc2 : Nat) (ma2 : Option Addr) (mc2 : Nat) (w : World) (h : NoR w (.slice la lg.length lc) (.slice sa st.length sc) (.slice va vs.length vc) (.slice na nx.length nc) (.slice ma mt.length mc) lg st vs nx mt) (h' : NoR w (.slice la2 lg.length lc2) (.slice sa2 st.length sc2) (.slice va2 vs.length vc2) (.slice na2 nx.length nc2) (.slice ma2 mt.length mc2) lg st vs nx mt) (hs : NoS lg st vs nx mt) :
  Calls Tryz.prog 9 #[.agg #[.int .i64 id, .int .i64 tm, .int .i64 vo, .slice la lg.length lc, .slice sa st.length sc, .int .i64 ro, .slice va vs.length vc, .slice na nx.length nc, .slice ma mt.length mc, .int .i64 cm, .int .i64 el, .int .i64 wt, .bool up], .agg #[.int .i64 id, .int .i64 tm, .int .i64 vo, .slice la2 lg.length lc2, .slice sa2 st.length sc2, .int .i64 ro, .slice va2 vs.length vc2, .slice na2 nx.length nc2, .slice ma2 mt.length mc2, .int .i64 cm, .int .i64 el, .int .i64 wt, .bool up]] w fun e w' => e = .returned (.bool true) ∧ Below w.heap.size w w' := by
 have Elg := Hd (fun wx (hx : Below w.heap.size w wx) => eqEntryS_any _ _ lg wx (h.lg.below hx) (h'.lg.below hx) hs.l0)
 have Est := Hd (fun wx (hx : Below w.heap.size w wx) => eqIntS_any _ _ st wx (h.st.below hx) (h'.st.below hx) hs.l1)
 have Evs := Hd (fun wx (hx : Below w.heap.size w wx) => eqIntS_any _ _ vs wx (h.vs.below hx) (h'.vs.below hx) hs.l2)
 have Enx := Hd (fun wx (hx : Below w.heap.size w wx) => eqIntS_any _ _ nx wx (h.nx.below hx) (h'.nx.below hx) hs.l3)
 have Emt := Hd (fun wx (hx : Below w.heap.size w wx) => eqIntS_any _ _ mt wx (h.mt.below hx) (h'.mt.below hx) hs.l4)
 have B0 := Hd ((bal w (.cells #[.int .i64 id, .int .i64 tm, .int .i64 vo, .slice la lg.length lc, .slice sa st.length sc, .int .i64 ro, .slice va vs.length vc, .slice na nx.length nc, .slice ma mt.length mc, .int .i64 cm, .int .i64 el, .int .i64 wt, .bool up] 38)).alloc (by simp) (.cells #[.int .i64 id, .int .i64 tm, .int .i64 vo, .slice la2 lg.length lc2, .slice sa2 st.length sc2, .int .i64 ro, .slice va2 vs.length vc2, .slice na2 nx.length nc2, .slice ma2 mt.length mc2, .int .i64 cm, .int .i64 el, .int .i64 wt, .bool up] 38))
 have X0 := Hd ((Blk.new w #[.int .i64 id, .int .i64 tm, .int .i64 vo, .slice la lg.length lc, .slice sa st.length sc, .int .i64 ro, .slice va vs.length vc, .slice na nx.length nc, .slice ma mt.length mc, .int .i64 cm, .int .i64 el, .int .i64 wt, .bool up] 38 w.heap.size rfl).alloc (.cells #[.int .i64 id, .int .i64 tm, .int .i64 vo, .slice la2 lg.length lc2, .slice sa2 st.length sc2, .int .i64 ro, .slice va2 vs.length vc2, .slice na2 nx.length nc2, .slice ma2 mt.length mc2, .int .i64 cm, .int .i64 el, .int .i64 wt, .bool up] 38))
 have Y0 := Hd (Blk.new (w.alloc (.cells #[.int .i64 id, .int .i64 tm, .int .i64 vo, .slice la lg.length lc, .slice sa st.length sc, .int .i64 ro, .slice va vs.length vc, .slice na nx.length nc, .slice ma mt.length mc, .int .i64 cm, .int .i64 el, .int .i64 wt, .bool up] 38)) #[.int .i64 id, .int .i64 tm, .int .i64 vo, .slice la2 lg.length lc2, .slice sa2 st.length sc2, .int .i64 ro, .slice va2 vs.length vc2, .slice na2 nx.length nc2, .slice ma2 mt.length mc2, .int .i64 cm, .int .i64 el, .int .i64 wt, .bool up] 38 (w.heap.size + 1) (by simp))
 clear h h' hs
 go_enter Tryz.func9, Tryz.ntmps9
 go_wp2_with fail
 generalize (w.alloc (.cells #[.int .i64 id, .int .i64 tm, .int .i64 vo, .slice la lg.length lc, .slice sa st.length sc, .int .i64 ro, .slice va vs.length vc, .slice na nx.length nc, .slice ma mt.length mc, .int .i64 cm, .int .i64 el, .int .i64 wt, .bool up] 38)).alloc (.cells #[.int .i64 id, .int .i64 tm, .int .i64 vo, .slice la2 lg.length lc2, .slice sa2 st.length sc2, .int .i64 ro, .slice va2 vs.length vc2, .slice na2 nx.length nc2, .slice ma2 mt.length mc2, .int .i64 cm, .int .i64 el, .int .i64 wt, .bool up] 38) = w0 at *
 refine (uh Elg w0 (uh B0)).mono ?_
 rintro e w1 ⟨rfl, hb⟩
 have K1 := hbt B0 hb
 have X1 := (uh X0).below hb
 have Y1 := (uh Y0).below hb
 have x4 := X1.cell 4 rfl
 have y4 := Y1.cell 4 rfl
 have HX1 := Hd X1
 have HY1 := Hd Y1
 clear hb X1 Y1 B0 X0 Y0 Elg
 go_wp2_with fail
 refine (uh Est w1 (uh K1)).mono ?_
 rintro e w2 ⟨rfl, n1, hn⟩
 have hb : Below w1.heap.size w1 w2 := by rw [hn]; exact below_drewN (Below.refl _ _) n1
 clear hn
 have K2 := hbt K1 hb
 have X1 := (uh HX1).below hb
 have Y1 := (uh HY1).below hb
 clear x4 y4
 have x5 := X1.cell 5 rfl
 have y5 := Y1.cell 5 rfl
 have x6 := X1.cell 6 rfl
 have y6 := Y1.cell 6 rfl
 have HX2 := Hd X1
 have HY2 := Hd Y1
 clear hb X1 Y1 K1 HX1 HY1 Est
 go_wp2_with fail
 refine (uh Evs w2 (uh K2)).mono ?_
 rintro e w3 ⟨rfl, n2, hn⟩
 have hb : Below w2.heap.size w2 w3 := by rw [hn]; exact below_drewN (Below.refl _ _) n2
 clear hn
 have K3 := hbt K2 hb
 have X1 := (uh HX2).below hb
 have Y1 := (uh HY2).below hb
 clear x5 y5 x6 y6
 have x7 := X1.cell 7 rfl
 have y7 := Y1.cell 7 rfl
 have HX3 := Hd X1
 have HY3 := Hd Y1
 clear hb X1 Y1 K2 HX2 HY2 Evs
 go_wp2_with fail
 refine (uh Enx w3 (uh K3)).mono ?_
 rintro e w4 ⟨rfl, n3, hn⟩
 have hb : Below w3.heap.size w3 w4 := by rw [hn]; exact below_drewN (Below.refl _ _) n3
 clear hn
 have K4 := hbt K3 hb
 have X1 := (uh HX3).below hb
 have Y1 := (uh HY3).below hb
 clear x7 y7
 have x8 := X1.cell 8 rfl
 have y8 := Y1.cell 8 rfl
 have HX4 := Hd X1
 have HY4 := Hd Y1
 clear hb X1 Y1 K3 HX3 HY3 Enx
 go_wp2_with fail
 refine (uh Emt w4 (uh K4)).mono ?_
 rintro e w5 ⟨rfl, n4, hn⟩
 have hb : Below w4.heap.size w4 w5 := by rw [hn]; exact below_drewN (Below.refl _ _) n4
 clear hn
 have K5 := hbt K4 hb
 have X1 := (uh HX4).below hb
 have Y1 := (uh HY4).below hb
 clear x8 y8
 have x9 := X1.cell 9 rfl
 have y9 := Y1.cell 9 rfl
 have x10 := X1.cell 10 rfl
 have y10 := Y1.cell 10 rfl
 have x11 := X1.cell 11 rfl
 have y11 := Y1.cell 11 rfl
 have x12 := X1.cell 12 rfl
 have y12 := Y1.cell 12 rfl
 have HX5 := Hd X1
 have HY5 := Hd Y1
 clear hb X1 Y1 K4 HX4 HY4 Emt
 go_wp2_with fail
 go_ret
 exact ⟨rfl, uh K5⟩
theorem array13s {c : Array Value} (h : c.size = 13) : ∃ a0 a1 a2 a3 a4 a5 a6 a7 a8 a9 a10 a11 a12, c = #[a0, a1, a2, a3, a4, a5, a6, a7, a8, a9, a10, a11, a12] := by
 match c, h with
 | ⟨[a0, a1, a2, a3, a4, a5, a6, a7, a8, a9, a10, a11, a12]⟩, _ => exact ⟨a0, a1, a2, a3, a4, a5, a6, a7, a8, a9, a10, a11, a12, rfl⟩
theorem open_intsAt {H : Type} {enc : TypeId × Value → H} {W : World} {base : Nat} {sp : Nat → Bool} {held : Bool} {fuel : Nat} {c0 : Value} {x : DataW H × List MemPlace}
  (hf : DataW.trod enc Tryz.prog W base sp held fuel 23 [c0] = some x) : ∃ l : List Int, Ints W c0 l := by
 rcases open_ints Tryz.underlying23 Tryz.underlying3 (by kernel_rfl) hf with ⟨hcs, _⟩ | ⟨x, len0, cap0, zs, hcs, _, hl, hm, hz, _, hcell, hwz⟩
 ·simp only [List.cons.injEq, and_true] at hcs
  subst hcs
  exact ⟨[], ⟨none, 0, rfl, by unfold maxLen; simp, .inl rfl⟩⟩
 ·simp only [List.cons.injEq, and_true] at hcs
  subst hcs
  have hlz : len0 ≤ zs.length := by rw [hz]; split <;> omega
  have hlen : (zs.take len0).length = len0 := by rw [List.length_take]; omega
  have hget : ∀ i, i < len0 → (zs.take len0).getD i 0 = zs.getD i 0 := fun i hi => by
   simp [List.getD_eq_getElem?_getD, hi]
  refine ⟨zs.take len0, ⟨some x, cap0, by rw [hlen], by rw [hlen]; omega, ?_⟩⟩
  by_cases h0 : len0 = 0
  ·exact .inl (by rw [hlen]; exact h0)
  ·obtain ⟨b, off, spot⟩ := x
   have hc := hcell 0 (by omega)
   have hspot : spot = none := by simpa [Addr.add] using World.cell?_spot hc
   subst hspot
   have hblk := World.block_lt_of_cell? W _ hc
   have e0 : ∀ i, (⟨b, off, none⟩ : Addr).add i = ⟨b, off + i, none⟩ := fun i => by unfold Addr.add; split <;> simp_all
   rw [e0] at hblk
   refine .inr ⟨b, off, rfl, hblk, fun i hi => ?_⟩
   rw [hlen] at hi
   rw [hget i hi, ← e0, hcell i (by omega)]
theorem open_node {H : Type} {enc : TypeId × Value → H} {W : World} {base b0 : Nat} {r : Reach} {sp : Nat → Bool} {held : Bool} {v : Value} {d : DataW H} {p : List MemPlace}
  (hv : Value.okWide Tryz.prog W r b0 25 v) (h : DataW.Trod enc Tryz.prog W base sp held 25 v d p) :
  ∃ (id tm vo ro cm el wt : Int) (up : Bool) (lv sv vv nv mv : Value) (lg : List En) (st vs nx mt : List Int), v = .agg #[.int .i64 id, .int .i64 tm, .int .i64 vo, lv, sv, .int .i64 ro, vv, nv, mv, .int .i64 cm, .int .i64 el, .int .i64 wt, .bool up] ∧ NoR W lv sv vv nv mv lg st vs nx mt ∧ (∀ i, i < lg.length → (lg.getD i default).d.size ≤ maxLen) := by
 obtain ⟨cs, rfl, hsz⟩ := okWide_struct Tryz.underlying25 hv
 have hC : Tryz.prog.cellsOf 25 = 13 := by kernel_rfl
 obtain ⟨c0, c1, c2, c3, c4, c5, c6, c7, c8, c9, c10, c11, c12, rfl⟩ := array13s (hsz.trans hC)
 obtain ⟨fuel, hf⟩ := h
 obtain ⟨xs, n, _, _, _, hlen, hfl⟩ := DataW.trod_struct Tryz.underlying25 hf
 have i3 : Tryz.prog.cellsOf 3 = 1 := by kernel_rfl
 have i4 : Tryz.prog.cellsOf 4 = 1 := by kernel_rfl
 have iI : Tryz.prog.cellsOf 23 = 1 := by kernel_rfl
 have iE : Tryz.prog.cellsOf 22 = 1 := by kernel_rfl
 obtain ⟨y0, e0⟩ := get_some hlen (show 0 < 13 by omega)
 obtain ⟨y1, e1⟩ := get_some hlen (show 1 < 13 by omega)
 obtain ⟨y2, e2⟩ := get_some hlen (show 2 < 13 by omega)
 obtain ⟨y3, e3⟩ := get_some hlen (show 3 < 13 by omega)
 obtain ⟨y4, e4⟩ := get_some hlen (show 4 < 13 by omega)
 obtain ⟨y5, e5⟩ := get_some hlen (show 5 < 13 by omega)
 obtain ⟨y6, e6⟩ := get_some hlen (show 6 < 13 by omega)
 obtain ⟨y7, e7⟩ := get_some hlen (show 7 < 13 by omega)
 obtain ⟨y8, e8⟩ := get_some hlen (show 8 < 13 by omega)
 obtain ⟨y9, e9⟩ := get_some hlen (show 9 < 13 by omega)
 obtain ⟨y10, e10⟩ := get_some hlen (show 10 < 13 by omega)
 obtain ⟨y11, e11⟩ := get_some hlen (show 11 < 13 by omega)
 obtain ⟨y12, e12⟩ := get_some hlen (show 12 < 13 by omega)
 have g0 : DataW.trod enc Tryz.prog W base sp held n 3 [c0] = some y0 := by simpa [Value.cells, i3, i4, iI, iE] using (hfl 0 _ rfl).trans e0
 have g1 : DataW.trod enc Tryz.prog W base sp held n 3 [c1] = some y1 := by simpa [Value.cells, i3, i4, iI, iE] using (hfl 1 _ rfl).trans e1
 have g2 : DataW.trod enc Tryz.prog W base sp held n 3 [c2] = some y2 := by simpa [Value.cells, i3, i4, iI, iE] using (hfl 2 _ rfl).trans e2
 have g3 : DataW.trod enc Tryz.prog W base sp held n 22 [c3] = some y3 := by simpa [Value.cells, i3, i4, iI, iE] using (hfl 3 _ rfl).trans e3
 have g4 : DataW.trod enc Tryz.prog W base sp held n 23 [c4] = some y4 := by simpa [Value.cells, i3, i4, iI, iE] using (hfl 4 _ rfl).trans e4
 have g5 : DataW.trod enc Tryz.prog W base sp held n 3 [c5] = some y5 := by simpa [Value.cells, i3, i4, iI, iE] using (hfl 5 _ rfl).trans e5
 have g6 : DataW.trod enc Tryz.prog W base sp held n 23 [c6] = some y6 := by simpa [Value.cells, i3, i4, iI, iE] using (hfl 6 _ rfl).trans e6
 have g7 : DataW.trod enc Tryz.prog W base sp held n 23 [c7] = some y7 := by simpa [Value.cells, i3, i4, iI, iE] using (hfl 7 _ rfl).trans e7
 have g8 : DataW.trod enc Tryz.prog W base sp held n 23 [c8] = some y8 := by simpa [Value.cells, i3, i4, iI, iE] using (hfl 8 _ rfl).trans e8
 have g9 : DataW.trod enc Tryz.prog W base sp held n 3 [c9] = some y9 := by simpa [Value.cells, i3, i4, iI, iE] using (hfl 9 _ rfl).trans e9
 have g10 : DataW.trod enc Tryz.prog W base sp held n 3 [c10] = some y10 := by simpa [Value.cells, i3, i4, iI, iE] using (hfl 10 _ rfl).trans e10
 have g11 : DataW.trod enc Tryz.prog W base sp held n 3 [c11] = some y11 := by simpa [Value.cells, i3, i4, iI, iE] using (hfl 11 _ rfl).trans e11
 have g12 : DataW.trod enc Tryz.prog W base sp held n 4 [c12] = some y12 := by simpa [Value.cells, i3, i4, iI, iE] using (hfl 12 _ rfl).trans e12
 obtain ⟨a0, k0, _, _⟩ := DataW.trod_int Tryz.underlying3 g0
 simp only [List.cons.injEq, and_true] at k0
 subst k0
 obtain ⟨a1, k1, _, _⟩ := DataW.trod_int Tryz.underlying3 g1
 simp only [List.cons.injEq, and_true] at k1
 subst k1
 obtain ⟨a2, k2, _, _⟩ := DataW.trod_int Tryz.underlying3 g2
 simp only [List.cons.injEq, and_true] at k2
 subst k2
 obtain ⟨lg, hlg, hlz⟩ := open_entries g3
 obtain ⟨l4, h4⟩ := open_intsAt g4
 obtain ⟨a5, k5, _, _⟩ := DataW.trod_int Tryz.underlying3 g5
 simp only [List.cons.injEq, and_true] at k5
 subst k5
 obtain ⟨l6, h6⟩ := open_intsAt g6
 obtain ⟨l7, h7⟩ := open_intsAt g7
 obtain ⟨l8, h8⟩ := open_intsAt g8
 obtain ⟨a9, k9, _, _⟩ := DataW.trod_int Tryz.underlying3 g9
 simp only [List.cons.injEq, and_true] at k9
 subst k9
 obtain ⟨a10, k10, _, _⟩ := DataW.trod_int Tryz.underlying3 g10
 simp only [List.cons.injEq, and_true] at k10
 subst k10
 obtain ⟨a11, k11, _, _⟩ := DataW.trod_int Tryz.underlying3 g11
 simp only [List.cons.injEq, and_true] at k11
 subst k11
 obtain ⟨a12, k12, _⟩ := DataW.trod_bool Tryz.underlying4 g12
 simp only [List.cons.injEq, and_true] at k12
 subst k12
 exact ⟨a0, a1, a2, a5, a9, a10, a11, a12, c3, c4, c6, c7, c8, lg, l4, l6, l7, l8, rfl, ⟨hlg, h4, h6, h7, h8⟩, hlz⟩
end Go.Proofs.YtbchnheinnileaaGreatDoor
namespace Go.Proofs.YtbchnheinnileaaGreatDoor
set_option maxRecDepth 100000
set_option maxHeartbeats 8000000
open Go.ChangeShapes Go.WideShapes Go.ChangeAt Go.RowKit
set_option linter.unusedVariables false
set_option linter.unusedSimpArgs false
theorem wrapSm (n : Int) (h0 : 0 ≤ n) (h1 : n < 9223372036854775808) : IntKind.i64.wrap n = n := by
 simp only [IntKind.wrap, IntKind.bits, IntKind.signed]
 simp
 omega
def mkEn (c j : Nat) : En := ⟨(c : Int) + 3 * (j : Int), (c : Int) + 3 * (j : Int) + 1, mtx (c + 3 * j + 2)⟩
def mkTo (c : Nat) (l : List En) (k : Nat) : List En := (List.range l.length).map fun j => if j < k then mkEn c j else l.getD j default
def mkEs (c n : Nat) : List En := (List.range n).map fun j => mkEn c j
theorem mkTo_len (c : Nat) (l : List En) (k : Nat) : (mkTo c l k).length = l.length := by simp [mkTo]
theorem mkEs_len (c n : Nat) : (mkEs c n).length = n := by simp [mkEs]
theorem mkTo_zero (c : Nat) (l : List En) : mkTo c l 0 = l := by
 apply List.ext_getElem?
 intro j
 by_cases hj : j < l.length
 ·simp [mkTo, hj, List.getD_eq_getElem?_getD]
 ·simp [mkTo, hj]
theorem mkTo_all (c : Nat) (l : List En) : mkTo c l l.length = mkEs c l.length := by
 apply List.ext_getElem?
 intro j
 by_cases hj : j < l.length
 ·simp [mkTo, mkEs, hj]
 ·simp [mkTo, mkEs, hj]
theorem mkTo_set (c : Nat) (l : List En) (k : Nat) (hk : k < l.length) : (mkTo c l k).set k (mkEn c k) = mkTo c l (k + 1) := by
 apply List.ext_getElem?
 intro j
 rw [List.getElem?_set]
 simp only [mkTo_len]
 by_cases e : k = j
 ·subst e
  rw [if_pos rfl, if_pos hk]
  simp [mkTo, hk]
 ·rw [if_neg e]
  by_cases hj : j < l.length
  ·by_cases h1 : j < k
   ·simp [mkTo, hj, h1, show j < k + 1 by omega]
   ·simp [mkTo, hj, h1, show ¬ j < k + 1 by omega]
  ·simp [mkTo, hj]
theorem markEntryS_any (c : Nat) (hc0 : 0 < c) (hc1 : c ≤ 4194304) (B : Nat) (v : Value) (l : List En) (w : World) (h : OwnE B w v l) (hl : l.length ≤ 1048576) :
  Calls Tryz.prog 28 #[v, .int .i64 (c : Int)] w fun e w' => e = .returned (.int .i64 ((c : Int) + 3 * (l.length : Int))) ∧ OwnE B w' v (mkEs c l.length) ∧ Touch (fun k => v.ownBlock = some k) w w' := by
 rcases own_shape h with ⟨rfl, h0⟩ | ⟨g, cap, rfl, hB, hlt0, hn, hm⟩
 ·obtain rfl : l = [] := List.eq_nil_of_length_eq_zero h0
  have HO : Hid (OwnE B w (.slice none 0 0) (mkEs c 0)) := Hd h
  clear h
  go_enter Tryz.func28, Tryz.ntmps28
  go_wp2_with fail
  go_loop [1, 5] (fun k i => k = .int .i64 (c : Int) ∧ i = .int .i64 0) (fun _ _ => 0)
  case atStart => exact ⟨rfl, rfl⟩
  case round =>
   obtain ⟨rfl, rfl⟩ := hrel
   go_wp2_with fail
   go_ret
   exact ⟨ret_int (by simp), uh HO, Touch.refl _ _⟩
 ·have H : Hid (w.ownsRow B 75 3 (.slice (some ⟨g, 0, none⟩) l.length cap) l.length (ensC (mkTo c l 0))) := Hd (by rw [mkTo_zero]; exact h)
  clear h
  go_enter Tryz.func28, Tryz.ntmps28
  go_wp2_with fail
  go_loopw [1, 5] (fun k i wr => ∃ j : Nat, j ≤ l.length ∧ k = .int .i64 ((c : Int) + 3 * (j : Int)) ∧ i = .int .i64 j ∧ wr.ownsRow B 75 3 (.slice (some ⟨g, 0, none⟩) l.length cap) l.length (ensC (mkTo c l j)) ∧ Touch (fun k => (Value.slice (some ⟨g, 0, none⟩) l.length cap).ownBlock = some k) w wr) (fun _ i _ => l.length - (intOf i).toNat)
  case atStart => exact ⟨0, Nat.zero_le _, congrArg (Value.int .i64) (by omega), rfl, uh H, Touch.refl _ _⟩
  case round =>
   obtain ⟨j, hj, rfl, rfl, hL, hT⟩ := hrel
   by_cases hlt2 : j < l.length
   ·have p0 : (0 : Int) ≤ (j : Int) := by omega
    have p1 : (j : Int) < (l.length : Int) := by omega
    have hfl := ensC_len (mkTo c l j)
    have hml := mkTo_len c l j
    obtain ⟨g0, g1, g2⟩ := ensC_get (mkTo c l j) j (by omega)
    have q1 : IntKind.i64.wrap ((c : Int) + 3 * (j : Int) + 1) = (c : Int) + 3 * (j : Int) + 1 := wrapSm _ (by omega) (by omega)
    have q2 : IntKind.i64.wrap ((c : Int) + 3 * (j : Int) + 1 + 1) = (c : Int) + 3 * (j : Int) + 1 + 1 := wrapSm _ (by omega) (by omega)
    have q3 : IntKind.i64.wrap ((c : Int) + 3 * (j : Int) + 1 + 1 + 1) = (c : Int) + 3 * (j : Int) + 1 + 1 + 1 := wrapSm _ (by omega) (by omega)
    have c0 := (hL.cellAt (j * 3) (by omega)).trans g0
    have c1 := (hL.cellAt (j * 3 + 1) (by omega)).trans g1
    have f0 := hL.frozenAt (j * 3)
    have f1 := hL.frozenAt (j * 3 + 1)
    have hL1 := (hL.stored (j * 3) (.int .i64 ((c : Int) + 3 * (j : Int)))).1
    have hL2 := (hL1.stored (j * 3 + 1) (.int .i64 ((c : Int) + 3 * (j : Int) + 1))).1
    have hT2 := (hT.setCell ⟨g, j * 3, none⟩ (.int .i64 ((c : Int) + 3 * (j : Int))) (fun _ => rfl)).setCell ⟨g, j * 3 + 1, none⟩ (.int .i64 ((c : Int) + 3 * (j : Int) + 1)) (fun _ => rfl)
    have c2 := (hL2.cellAt (j * 3 + 2) (by omega)).trans ((List.getElem?_set_ne (by omega)).trans ((List.getElem?_set_ne (by omega)).trans g2))
    have HL2 := Hd (And.intro hL2 hT2)
    have HC2 := Hd c2
    have HSET := Hd (ensC_set (mkTo c l j) j (mkEn c j) (by omega))
    have HST := Hd (mkTo_set c l j hlt2)
    have HFL := Hd (And.intro hfl hml)
    clear hL hT hL1 hL2 hT2 c2 hfl hml g0 g1 g2
    go_wp2_with fail
    clear c0 c1 f0 f1
    generalize (wr.setCell ⟨g, j * 3, none⟩ (.int .i64 ((c : Int) + 3 * (j : Int)))).setCell ⟨g, j * 3 + 1, none⟩ (.int .i64 ((c : Int) + 3 * (j : Int) + 1)) = w3 at *
    refine (markText_int _ (c + 3 * j + 2) (by omega) w3 (by omega) (by omega)).mono ?_
    rintro e w4 ⟨rfl, hb4⟩
    have hO4 := own_kept (T := fun _ => False) (uh HL2).1 (Touch.ofBelow hb4) (fun _ _ h => h)
    have hT4 : Touch (fun k => (Value.slice (some ⟨g, 0, none⟩) l.length cap).ownBlock = some k) w w4 := (uh HL2).2.trans (T' := fun _ => False) (Touch.ofBelow hb4) (fun _ _ h => h.elim)
    have hlt3 : g < w3.heap.size := (World.ownsRow.lt (uh HL2).1 g rfl).2
    have c2 := (hb4.cell (p := ⟨g, j * 3 + 2, none⟩) hlt3).trans (uh HC2)
    have f2 := hO4.frozenAt (j * 3 + 2)
    have hO5 := (hO4.stored (j * 3 + 2) (.string (mtx (c + 3 * j + 2)))).1
    have hT5 := hT4.setCell ⟨g, j * 3 + 2, none⟩ (.string (mtx (c + 3 * j + 2))) (fun _ => rfl)
    have hse := uh HSET
    simp only [mkEn] at hse
    rw [hse] at hO5
    have hst := uh HST
    simp only [mkEn] at hst
    rw [hst] at hO5
    have R6 := Hd (And.intro hO5 hT5)
    clear hb4 hO4 hT4 hO5 hT5 hse hst HL2 HC2 HSET HST HFL
    generalize mtx (c + 3 * j + 2) = x2 at *
    go_wp2_with fail
    refine ⟨⟨j + 1, by omega, ?_, by go_num, (uh R6).1, (uh R6).2⟩, ?_⟩
    ·exact congrArg (Value.int .i64) (by omega)
    ·simp [intOf]; omega
   ·obtain rfl : j = l.length := by omega
    have R := Hd (And.intro hL hT)
    clear hL hT
    go_wp2_with fail
    go_ret
    refine ⟨rfl, ?_, (uh R).2⟩
    have := (uh R).1
    rw [mkTo_all] at this
    unfold OwnE
    rw [mkEs_len]
    exact this
end Go.Proofs.YtbchnheinnileaaGreatDoor
namespace Go.Proofs.YtbchnheinnileaaGreatDoor
set_option maxRecDepth 100000
set_option maxHeartbeats 8000000
open Go.ChangeShapes Go.WideShapes Go.ChangeAt Go.RowKit
set_option linter.unusedVariables false
def marksJ (c n : Nat) : List Int := (List.range n).map fun j => ((c + j : Nat) : Int)
theorem marksJ_len (c n : Nat) : (marksJ c n).length = n := by simp [marksJ]
theorem marksJ_get (c n j : Nat) (h : j < n) : (marksJ c n).getD j 0 = (c : Int) + (j : Int) := by simp [marksJ, List.getD_eq_getElem?_getD, h]
def markG (c : Nat) (l : List Int) (k j : Nat) : Int := if j < k then (c : Int) + (j : Int) else l.getD j 0

theorem markIntS_at (c : Nat) (hc0 : 0 < c) (hc1 : c ≤ 8388608) (B : Nat) (v : Value) (l : List Int) (w : World) (h : OwnI B w v l) (hl : l.length ≤ 1048576) :
  Calls Tryz.prog 29 #[v, .int .i64 (c : Int)] w fun e w' => e = .returned (.int .i64 ((c : Int) + (l.length : Int))) ∧ OwnI B w' v (marksJ c l.length) ∧ Touch (fun k => v.ownBlock = some k) w w' := by
 rcases h.shape with ⟨rfl, rfl⟩ | ⟨g, cap, rfl⟩
 ·have H := Hd h
  clear h
  go_enter Tryz.func29, Tryz.ntmps29
  go_wp2_with fail
  go_loopw [1, 5] (fun k i wr => k = .int .i64 (c : Int) ∧ i = .int .i64 0 ∧ wr = w) (fun _ _ _ => 0)
  case atStart => exact ⟨rfl, rfl, rfl⟩
  case round =>
   obtain ⟨rfl, rfl, rfl⟩ := hrel
   go_wp2_with fail
   go_ret
   exact ⟨rfl, uh H, Touch.refl _ _⟩
 ·obtain ⟨hL0, hm, hB, _, hlt0⟩ := LaidI.of h
  have HL := Hd hL0
  have HM := Hd hm
  clear h hL0 hm
  go_enter Tryz.func29, Tryz.ntmps29
  go_wp2_with fail
  go_loopw [1, 5] (fun k i wr => ∃ j : Nat, j ≤ l.length ∧ k = .int .i64 ((c : Int) + (j : Int)) ∧ i = .int .i64 j ∧ LaidI wr g cap (markG c l j) l.length ∧ Touch (fun k => k = g) w wr) (fun _ i _ => l.length - (intOf i).toNat)
  case atStart => exact ⟨0, Nat.zero_le _, rfl, rfl, by
   obtain ⟨cur, q1, q2, q3, q4⟩ := uh HL
   exact ⟨cur, q1, q2, q3, fun j hj => by rw [q4 j hj]; unfold markG; rw [if_neg (by omega)]⟩, Touch.refl _ _⟩
  case round =>
   obtain ⟨j, hj, rfl, rfl, hL, hT⟩ := hrel
   by_cases hlt2 : j < l.length
   ·obtain ⟨c1, f1⟩ := hL.cell j hlt2
    have R := Hd (And.intro (hL.set (f' := markG c l (j + 1)) j ((c : Int) + (j : Int)) hlt2 (by unfold markG; rw [if_pos (by omega)]) (fun i hi => by
     unfold markG
     by_cases h1 : i < j
     ·rw [if_pos h1, if_pos (by omega)]
     ·rw [if_neg h1, if_neg (by omega)])) (hT.setCell ⟨g, j, none⟩ (.int .i64 ((c : Int) + (j : Int))) (fun _ => rfl)))
    have p0 : (0 : Int) ≤ (j : Int) := by omega
    have p1 : (j : Int) < (l.length : Int) := by omega
    clear hL hT
    go_wp2_with fail
    refine ⟨⟨j + 1, by omega, by go_num, by go_num, (uh R).1, (uh R).2⟩, ?_⟩
    simp [intOf]; omega
   ·obtain rfl : j = l.length := by omega
    have R := Hd (And.intro hL hT)
    clear hL hT
    go_wp2_with fail
    go_ret
    refine ⟨rfl, ?_, ?_⟩
    ·have hh := LaidI.own (B := B) (l := marksJ c l.length) (f := markG c l l.length) (w := _) (g := g) (cap := cap) (by rw [marksJ_len]; exact (uh R).1) (fun j hj => by rw [marksJ_len] at hj; rw [marksJ_get _ _ _ hj]; unfold markG; rw [if_pos hj]) hB (uh HM)
     rw [marksJ_len] at hh; exact hh
    ·exact (Touch.refl (fun k => (Value.slice (some ⟨g, 0, none⟩) l.length cap).ownBlock = some k) w).trans (uh R).2 (fun k _ e => by subst e; rfl)


end Go.Proofs.YtbchnheinnileaaGreatDoor
