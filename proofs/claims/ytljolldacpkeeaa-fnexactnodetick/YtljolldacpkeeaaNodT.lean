/- Nodes: laws.toNode. (Written by py/nod.py.) -/
import Derived.Test.YtljolldacpkeeaaHaa
namespace Go.Proofs.Ytljolldacpkeeaa
open Go.ChangeShapes Go.WideShapes Go.ChangeAt Go.RowKit Go.Deep
set_option linter.unusedVariables false
def ToNR (id tm vo ro cm el wt : Int) (up : Bool) (lg : List En) (st vs nx mt : List Int) (w : World) (e : Ending) (w' : World) : Prop :=
  ∃ gl gs gv gn gm, e = .returned (.agg #[.int .i64 id, .int .i64 tm, .int .i64 vo, .slice (some ⟨gl, 0, none⟩) lg.length lg.length, .slice (some ⟨gs, 0, none⟩) st.length st.length, .int .i64 ro, .slice (some ⟨gv, 0, none⟩) vs.length vs.length, .slice (some ⟨gn, 0, none⟩) nx.length nx.length, .slice (some ⟨gm, 0, none⟩) mt.length mt.length, .int .i64 cm, .int .i64 el, .int .i64 wt, .bool up]) ∧ NoO w.heap.size w' (.slice (some ⟨gl, 0, none⟩) lg.length lg.length) (.slice (some ⟨gs, 0, none⟩) st.length st.length) (.slice (some ⟨gv, 0, none⟩) vs.length vs.length) (.slice (some ⟨gn, 0, none⟩) nx.length nx.length) (.slice (some ⟨gm, 0, none⟩) mt.length mt.length) lg st vs nx mt ∧ Below w.heap.size w w'
set_option maxRecDepth 100000 in
set_option maxHeartbeats 4000000 in
theorem toNode_any (id tm vo ro cm el wt : Int) (up : Bool) (lg : List En) (st vs nx mt : List Int) (la : Option Addr) (lc : Nat) (sa : Option Addr) (sc : Nat) (va : Option Addr) (vc : Nat) (na : Option Addr) (nc : Nat) (ma : Option Addr) (mc : Nat) (w : World) (h : NoR w (.slice la lg.length lc) (.slice sa st.length sc) (.slice va vs.length vc) (.slice na nx.length nc) (.slice ma mt.length mc) lg st vs nx mt) (hs : NoS lg st vs nx mt) :
    Calls Try.prog 7 #[.agg #[.int .i64 id, .int .i64 tm, .int .i64 vo, .slice la lg.length lc, .slice sa st.length sc, .int .i64 ro, .slice va vs.length vc, .slice na nx.length nc, .slice ma mt.length mc, .int .i64 cm, .int .i64 el, .int .i64 wt, .bool up]] w fun e w' => ToNR id tm vo ro cm el wt up lg st vs nx mt w e w' := by
  have Tlg := hide (fun wx (hx : Below w.heap.size w wx) => toEntryS_any _ lg wx (h.lg.below hx) hs.l0)
  have Tst := hide (fun wx (hx : Below w.heap.size w wx) => toIntS_at _ st wx (h.st.below hx) hs.l1)
  have Tvs := hide (fun wx (hx : Below w.heap.size w wx) => toIntS_at _ vs wx (h.vs.below hx) hs.l2)
  have Tnx := hide (fun wx (hx : Below w.heap.size w wx) => toIntS_at _ nx wx (h.nx.below hx) hs.l3)
  have Tmt := hide (fun wx (hx : Below w.heap.size w wx) => toIntS_at _ mt wx (h.mt.below hx) hs.l4)
  have B3 := hide ((((Below.refl w.heap.size w).alloc (Nat.le_refl _) (.cells #[.int .i64 id, .int .i64 tm, .int .i64 vo, .slice la lg.length lc, .slice sa st.length sc, .int .i64 ro, .slice va vs.length vc, .slice na nx.length nc, .slice ma mt.length mc, .int .i64 cm, .int .i64 el, .int .i64 wt, .bool up] 25)).alloc (by simp) (.cells #[.int .i64 0, .int .i64 0, .int .i64 0, .slice none 0 0, .slice none 0 0, .int .i64 0, .slice none 0 0, .slice none 0 0, .slice none 0 0, .int .i64 0, .int .i64 0, .int .i64 0, .bool false] 29)).alloc (by simp; omega) (.cells #[.int .i64 id, .int .i64 tm, .int .i64 vo, .slice none 0 0, .slice none 0 0, .int .i64 0, .slice none 0 0, .slice none 0 0, .slice none 0 0, .int .i64 0, .int .i64 0, .int .i64 0, .bool false] 29))
  have A3 := hide (((Blk.new w #[.int .i64 id, .int .i64 tm, .int .i64 vo, .slice la lg.length lc, .slice sa st.length sc, .int .i64 ro, .slice va vs.length vc, .slice na nx.length nc, .slice ma mt.length mc, .int .i64 cm, .int .i64 el, .int .i64 wt, .bool up] 25 w.heap.size rfl).alloc (.cells #[.int .i64 0, .int .i64 0, .int .i64 0, .slice none 0 0, .slice none 0 0, .int .i64 0, .slice none 0 0, .slice none 0 0, .slice none 0 0, .int .i64 0, .int .i64 0, .int .i64 0, .bool false] 29)).alloc (.cells #[.int .i64 id, .int .i64 tm, .int .i64 vo, .slice none 0 0, .slice none 0 0, .int .i64 0, .slice none 0 0, .slice none 0 0, .slice none 0 0, .int .i64 0, .int .i64 0, .int .i64 0, .bool false] 29))
  have R3 := hide ((Blk.new (w.alloc (.cells #[.int .i64 id, .int .i64 tm, .int .i64 vo, .slice la lg.length lc, .slice sa st.length sc, .int .i64 ro, .slice va vs.length vc, .slice na nx.length nc, .slice ma mt.length mc, .int .i64 cm, .int .i64 el, .int .i64 wt, .bool up] 25)) #[.int .i64 0, .int .i64 0, .int .i64 0, .slice none 0 0, .slice none 0 0, .int .i64 0, .slice none 0 0, .slice none 0 0, .slice none 0 0, .int .i64 0, .int .i64 0, .int .i64 0, .bool false] 29 (w.heap.size + 1) (by simp)).alloc (.cells #[.int .i64 id, .int .i64 tm, .int .i64 vo, .slice none 0 0, .slice none 0 0, .int .i64 0, .slice none 0 0, .slice none 0 0, .slice none 0 0, .int .i64 0, .int .i64 0, .int .i64 0, .bool false] 29))
  have O3 := hide (Blk.new ((w.alloc (.cells #[.int .i64 id, .int .i64 tm, .int .i64 vo, .slice la lg.length lc, .slice sa st.length sc, .int .i64 ro, .slice va vs.length vc, .slice na nx.length nc, .slice ma mt.length mc, .int .i64 cm, .int .i64 el, .int .i64 wt, .bool up] 25)).alloc (.cells #[.int .i64 0, .int .i64 0, .int .i64 0, .slice none 0 0, .slice none 0 0, .int .i64 0, .slice none 0 0, .slice none 0 0, .slice none 0 0, .int .i64 0, .int .i64 0, .int .i64 0, .bool false] 29)) #[.int .i64 id, .int .i64 tm, .int .i64 vo, .slice none 0 0, .slice none 0 0, .int .i64 0, .slice none 0 0, .slice none 0 0, .slice none 0 0, .int .i64 0, .int .i64 0, .int .i64 0, .bool false] 29 (w.heap.size + 1 + 1) (by simp))
  have Z3 := hide (show (((w.alloc (.cells #[.int .i64 id, .int .i64 tm, .int .i64 vo, .slice la lg.length lc, .slice sa st.length sc, .int .i64 ro, .slice va vs.length vc, .slice na nx.length nc, .slice ma mt.length mc, .int .i64 cm, .int .i64 el, .int .i64 wt, .bool up] 25)).alloc (.cells #[.int .i64 0, .int .i64 0, .int .i64 0, .slice none 0 0, .slice none 0 0, .int .i64 0, .slice none 0 0, .slice none 0 0, .slice none 0 0, .int .i64 0, .int .i64 0, .int .i64 0, .bool false] 29)).alloc (.cells #[.int .i64 id, .int .i64 tm, .int .i64 vo, .slice none 0 0, .slice none 0 0, .int .i64 0, .slice none 0 0, .slice none 0 0, .slice none 0 0, .int .i64 0, .int .i64 0, .int .i64 0, .bool false] 29)).heap.size = w.heap.size + 3 by simp)
  clear h hs
  go_enter Try.func7, Try.ntmps7
  go_wp2_with fail
  generalize ((w.alloc (.cells #[.int .i64 id, .int .i64 tm, .int .i64 vo, .slice la lg.length lc, .slice sa st.length sc, .int .i64 ro, .slice va vs.length vc, .slice na nx.length nc, .slice ma mt.length mc, .int .i64 cm, .int .i64 el, .int .i64 wt, .bool up] 25)).alloc (.cells #[.int .i64 0, .int .i64 0, .int .i64 0, .slice none 0 0, .slice none 0 0, .int .i64 0, .slice none 0 0, .slice none 0 0, .slice none 0 0, .int .i64 0, .int .i64 0, .int .i64 0, .bool false] 29)).alloc (.cells #[.int .i64 id, .int .i64 tm, .int .i64 vo, .slice none 0 0, .slice none 0 0, .int .i64 0, .slice none 0 0, .slice none 0 0, .slice none 0 0, .int .i64 0, .int .i64 0, .int .i64 0, .bool false] 29) = w3 at *
  refine (unhide Tlg w3 (unhide B3)).mono ?_
  rintro e w4 ⟨rfl, hO, hb⟩
  have hzl := unhide Z3
  generalize hgl : w3.heap.size = gl at *
  have hlt := World.ownsRow.lt hO
  have hbz : Below w3.heap.size w3 w4 := hgl ▸ hb
  have O4 := (unhide O3).below hbz
  have o3 := O4.cell 3 rfl
  have fo3 := O4.fro 3
  have A5 := (((unhide A3).below hbz).other (C := w.heap.size + 1 + 1) 3 (.slice (some ⟨gl, 0, none⟩) lg.length lg.length) (by omega))
  have R5 := (((unhide R3).below hbz).other (C := w.heap.size + 1 + 1) 3 (.slice (some ⟨gl, 0, none⟩) lg.length lg.length) (by omega))
  have O5 := (O4.set 3 (.slice (some ⟨gl, 0, none⟩) lg.length lg.length) (by simp))
  have B5 := hide (((unhide B3).trans (hb.mono (by omega))).setCell (p := ⟨w.heap.size + 1 + 1, 3, none⟩) (by simp; omega) (.slice (some ⟨gl, 0, none⟩) lg.length lg.length))
  have T5 := ((Touch.refl (fun q => q = w.heap.size + 1 + 1) w4).setCell ⟨w.heap.size + 1 + 1, 3, none⟩ (.slice (some ⟨gl, 0, none⟩) lg.length lg.length) (fun _ => rfl))
  have a4 := A5.cell 4 rfl
  have Ul := hO.kept T5 (fun q hq e => by have := (hlt q hq).1; omega)
  have Gl := hide (show w.heap.size + 1 + 1 < gl ∧ gl < ((w4.setCell ⟨w.heap.size + 1 + 1, 3, none⟩ (.slice (some ⟨gl, 0, none⟩) lg.length lg.length))).heap.size from ⟨by omega, by have := (hlt gl rfl).2; simpa using this⟩)
  have Ql := hide (show w3.heap.size = gl from hgl)
  have HA5 := hide A5
  have HR5 := hide R5
  have HO5 := hide O5
  have Nl := hide Ul
  have hsz : ((w4.setCell ⟨w.heap.size + 1 + 1, 3, none⟩ (.slice (some ⟨gl, 0, none⟩) lg.length lg.length))).heap.size = w4.heap.size := by simp
  have Z4 := hide (show w.heap.size + 3 ≤ ((w4.setCell ⟨w.heap.size + 1 + 1, 3, none⟩ (.slice (some ⟨gl, 0, none⟩) lg.length lg.length))).heap.size by rw [hsz]; have := (unhide Gl); omega)
  clear A5 R5 O5 O4 T5 hO hlt hb hbz Tlg Z3 hzl hgl Ul A3 R3 O3 B3
  go_wp2_with fail
  clear o3 fo3
  generalize (w4.setCell ⟨w.heap.size + 1 + 1, 3, none⟩ (.slice (some ⟨gl, 0, none⟩) lg.length lg.length)) = w5 at *
  have HA := hide (unhide HA5)
  clear HA5
  have HR := hide (unhide HR5)
  clear HR5
  have HO := hide (unhide HO5)
  clear HO5
  have HB := hide (unhide B5)
  clear B5
  have Ml := hide (unhide Nl)
  clear Nl
  clear hsz
  have Z5 := hide (unhide Z4)
  clear Z4
  refine (unhide Tst w5 (unhide HB)).mono ?_
  rintro e w6 ⟨rfl, hO, hb⟩
  have hzs := unhide Z5
  generalize hgs : w5.heap.size = gs at *
  have hlt := hO.lt
  have hbz : Below w5.heap.size w5 w6 := hgs ▸ hb
  have O4 := (unhide HO).below hbz
  have o4 := O4.cell 4 rfl
  have fo4 := O4.fro 4
  have o5 := O4.cell 5 rfl
  have fo5 := O4.fro 5
  have A5 := ((((unhide HA).below hbz).other (C := w.heap.size + 1 + 1) 4 (.slice (some ⟨gs, 0, none⟩) st.length st.length) (by omega)).other (C := w.heap.size + 1 + 1) 5 (.int .i64 ro) (by omega))
  have R5 := ((((unhide HR).below hbz).other (C := w.heap.size + 1 + 1) 4 (.slice (some ⟨gs, 0, none⟩) st.length st.length) (by omega)).other (C := w.heap.size + 1 + 1) 5 (.int .i64 ro) (by omega))
  have O5 := ((O4.set 4 (.slice (some ⟨gs, 0, none⟩) st.length st.length) (by simp)).set 5 (.int .i64 ro) (by simp))
  have B5 := hide ((((unhide HB).trans (hb.mono (by omega))).setCell (p := ⟨w.heap.size + 1 + 1, 4, none⟩) (by simp; omega) (.slice (some ⟨gs, 0, none⟩) st.length st.length)).setCell (p := ⟨w.heap.size + 1 + 1, 5, none⟩) (by simp; omega) (.int .i64 ro))
  have T5 := (((Touch.refl (fun q => q = w.heap.size + 1 + 1) w6).setCell ⟨w.heap.size + 1 + 1, 4, none⟩ (.slice (some ⟨gs, 0, none⟩) st.length st.length) (fun _ => rfl)).setCell ⟨w.heap.size + 1 + 1, 5, none⟩ (.int .i64 ro) (fun _ => rfl))
  have ax5 := ((unhide HA).below hbz).other (C := w.heap.size + 1 + 1) 4 (.slice (some ⟨gs, 0, none⟩) st.length st.length) (by omega)
  have a5 := ax5.cell 5 rfl
  clear ax5
  have a6 := A5.cell 6 rfl
  have Ul := ((unhide Ml).below hbz).kept T5 (fun q hq e => by have hw := (unhide Gl); simp [Value.ownBlock] at hq; omega)
  have Us := hO.kept T5 (fun q hq e => by have := (hlt q hq).1; omega)
  have Gs := hide (show w.heap.size + 1 + 1 < gs ∧ gs < (((w6.setCell ⟨w.heap.size + 1 + 1, 4, none⟩ (.slice (some ⟨gs, 0, none⟩) st.length st.length)).setCell ⟨w.heap.size + 1 + 1, 5, none⟩ (.int .i64 ro))).heap.size from ⟨by omega, by have := (hlt gs rfl).2; simpa using this⟩)
  have Qs := hide (show w5.heap.size = gs from hgs)
  have Fs := hide (show gl < gs from by have := (unhide Gl).2; omega)
  have HA5 := hide A5
  have HR5 := hide R5
  have HO5 := hide O5
  have Nl := hide Ul
  have Ns := hide Us
  have hsz : (((w6.setCell ⟨w.heap.size + 1 + 1, 4, none⟩ (.slice (some ⟨gs, 0, none⟩) st.length st.length)).setCell ⟨w.heap.size + 1 + 1, 5, none⟩ (.int .i64 ro))).heap.size = w6.heap.size := by simp
  have Z6 := hide (show w.heap.size + 3 ≤ (((w6.setCell ⟨w.heap.size + 1 + 1, 4, none⟩ (.slice (some ⟨gs, 0, none⟩) st.length st.length)).setCell ⟨w.heap.size + 1 + 1, 5, none⟩ (.int .i64 ro))).heap.size by rw [hsz]; have := (unhide Gs); omega)
  clear A5 R5 O5 O4 T5 hO hlt hb hbz Tst Z5 hzs hgs Ul Us HA HR HO HB Ml
  go_wp2_with fail
  clear o4 fo4 o5 fo5 a5
  generalize ((w6.setCell ⟨w.heap.size + 1 + 1, 4, none⟩ (.slice (some ⟨gs, 0, none⟩) st.length st.length)).setCell ⟨w.heap.size + 1 + 1, 5, none⟩ (.int .i64 ro)) = w7 at *
  have HA := hide (unhide HA5)
  clear HA5
  have HR := hide (unhide HR5)
  clear HR5
  have HO := hide (unhide HO5)
  clear HO5
  have HB := hide (unhide B5)
  clear B5
  have Ml := hide (unhide Nl)
  clear Nl
  have Ms := hide (unhide Ns)
  clear Ns
  clear hsz
  have Z7 := hide (unhide Z6)
  clear Z6
  refine (unhide Tvs w7 (unhide HB)).mono ?_
  rintro e w8 ⟨rfl, hO, hb⟩
  have hzv := unhide Z7
  generalize hgv : w7.heap.size = gv at *
  have hlt := hO.lt
  have hbz : Below w7.heap.size w7 w8 := hgv ▸ hb
  have O4 := (unhide HO).below hbz
  have o6 := O4.cell 6 rfl
  have fo6 := O4.fro 6
  have A5 := (((unhide HA).below hbz).other (C := w.heap.size + 1 + 1) 6 (.slice (some ⟨gv, 0, none⟩) vs.length vs.length) (by omega))
  have R5 := (((unhide HR).below hbz).other (C := w.heap.size + 1 + 1) 6 (.slice (some ⟨gv, 0, none⟩) vs.length vs.length) (by omega))
  have O5 := (O4.set 6 (.slice (some ⟨gv, 0, none⟩) vs.length vs.length) (by simp))
  have B5 := hide (((unhide HB).trans (hb.mono (by omega))).setCell (p := ⟨w.heap.size + 1 + 1, 6, none⟩) (by simp; omega) (.slice (some ⟨gv, 0, none⟩) vs.length vs.length))
  have T5 := ((Touch.refl (fun q => q = w.heap.size + 1 + 1) w8).setCell ⟨w.heap.size + 1 + 1, 6, none⟩ (.slice (some ⟨gv, 0, none⟩) vs.length vs.length) (fun _ => rfl))
  have a7 := A5.cell 7 rfl
  have Ul := ((unhide Ml).below hbz).kept T5 (fun q hq e => by have hw := (unhide Gl); simp [Value.ownBlock] at hq; omega)
  have Us := ((unhide Ms).below hbz).kept T5 (fun q hq e => by have hw := (unhide Gs); simp [Value.ownBlock] at hq; omega)
  have Uv := hO.kept T5 (fun q hq e => by have := (hlt q hq).1; omega)
  have Gv := hide (show w.heap.size + 1 + 1 < gv ∧ gv < ((w8.setCell ⟨w.heap.size + 1 + 1, 6, none⟩ (.slice (some ⟨gv, 0, none⟩) vs.length vs.length))).heap.size from ⟨by omega, by have := (hlt gv rfl).2; simpa using this⟩)
  have Qv := hide (show w7.heap.size = gv from hgv)
  have Fv := hide (show gs < gv from by have := (unhide Gs).2; omega)
  have HA5 := hide A5
  have HR5 := hide R5
  have HO5 := hide O5
  have Nl := hide Ul
  have Ns := hide Us
  have Nv := hide Uv
  have hsz : ((w8.setCell ⟨w.heap.size + 1 + 1, 6, none⟩ (.slice (some ⟨gv, 0, none⟩) vs.length vs.length))).heap.size = w8.heap.size := by simp
  have Z8 := hide (show w.heap.size + 3 ≤ ((w8.setCell ⟨w.heap.size + 1 + 1, 6, none⟩ (.slice (some ⟨gv, 0, none⟩) vs.length vs.length))).heap.size by rw [hsz]; have := (unhide Gv); omega)
  clear A5 R5 O5 O4 T5 hO hlt hb hbz Tvs Z7 hzv hgv Ul Us Uv HA HR HO HB Ml Ms
  go_wp2_with fail
  clear o6 fo6
  generalize (w8.setCell ⟨w.heap.size + 1 + 1, 6, none⟩ (.slice (some ⟨gv, 0, none⟩) vs.length vs.length)) = w9 at *
  have HA := hide (unhide HA5)
  clear HA5
  have HR := hide (unhide HR5)
  clear HR5
  have HO := hide (unhide HO5)
  clear HO5
  have HB := hide (unhide B5)
  clear B5
  have Ml := hide (unhide Nl)
  clear Nl
  have Ms := hide (unhide Ns)
  clear Ns
  have Mv := hide (unhide Nv)
  clear Nv
  clear hsz
  have Z9 := hide (unhide Z8)
  clear Z8
  refine (unhide Tnx w9 (unhide HB)).mono ?_
  rintro e w10 ⟨rfl, hO, hb⟩
  have hzn := unhide Z9
  generalize hgn : w9.heap.size = gn at *
  have hlt := hO.lt
  have hbz : Below w9.heap.size w9 w10 := hgn ▸ hb
  have O4 := (unhide HO).below hbz
  have o7 := O4.cell 7 rfl
  have fo7 := O4.fro 7
  have A5 := (((unhide HA).below hbz).other (C := w.heap.size + 1 + 1) 7 (.slice (some ⟨gn, 0, none⟩) nx.length nx.length) (by omega))
  have R5 := (((unhide HR).below hbz).other (C := w.heap.size + 1 + 1) 7 (.slice (some ⟨gn, 0, none⟩) nx.length nx.length) (by omega))
  have O5 := (O4.set 7 (.slice (some ⟨gn, 0, none⟩) nx.length nx.length) (by simp))
  have B5 := hide (((unhide HB).trans (hb.mono (by omega))).setCell (p := ⟨w.heap.size + 1 + 1, 7, none⟩) (by simp; omega) (.slice (some ⟨gn, 0, none⟩) nx.length nx.length))
  have T5 := ((Touch.refl (fun q => q = w.heap.size + 1 + 1) w10).setCell ⟨w.heap.size + 1 + 1, 7, none⟩ (.slice (some ⟨gn, 0, none⟩) nx.length nx.length) (fun _ => rfl))
  have a8 := A5.cell 8 rfl
  have Ul := ((unhide Ml).below hbz).kept T5 (fun q hq e => by have hw := (unhide Gl); simp [Value.ownBlock] at hq; omega)
  have Us := ((unhide Ms).below hbz).kept T5 (fun q hq e => by have hw := (unhide Gs); simp [Value.ownBlock] at hq; omega)
  have Uv := ((unhide Mv).below hbz).kept T5 (fun q hq e => by have hw := (unhide Gv); simp [Value.ownBlock] at hq; omega)
  have Un := hO.kept T5 (fun q hq e => by have := (hlt q hq).1; omega)
  have Gn := hide (show w.heap.size + 1 + 1 < gn ∧ gn < ((w10.setCell ⟨w.heap.size + 1 + 1, 7, none⟩ (.slice (some ⟨gn, 0, none⟩) nx.length nx.length))).heap.size from ⟨by omega, by have := (hlt gn rfl).2; simpa using this⟩)
  have Qn := hide (show w9.heap.size = gn from hgn)
  have Fn := hide (show gv < gn from by have := (unhide Gv).2; omega)
  have HA5 := hide A5
  have HR5 := hide R5
  have HO5 := hide O5
  have Nl := hide Ul
  have Ns := hide Us
  have Nv := hide Uv
  have Nn := hide Un
  have hsz : ((w10.setCell ⟨w.heap.size + 1 + 1, 7, none⟩ (.slice (some ⟨gn, 0, none⟩) nx.length nx.length))).heap.size = w10.heap.size := by simp
  have Z10 := hide (show w.heap.size + 3 ≤ ((w10.setCell ⟨w.heap.size + 1 + 1, 7, none⟩ (.slice (some ⟨gn, 0, none⟩) nx.length nx.length))).heap.size by rw [hsz]; have := (unhide Gn); omega)
  clear A5 R5 O5 O4 T5 hO hlt hb hbz Tnx Z9 hzn hgn Ul Us Uv Un HA HR HO HB Ml Ms Mv
  go_wp2_with fail
  clear o7 fo7
  generalize (w10.setCell ⟨w.heap.size + 1 + 1, 7, none⟩ (.slice (some ⟨gn, 0, none⟩) nx.length nx.length)) = w11 at *
  have HA := hide (unhide HA5)
  clear HA5
  have HR := hide (unhide HR5)
  clear HR5
  have HO := hide (unhide HO5)
  clear HO5
  have HB := hide (unhide B5)
  clear B5
  have Ml := hide (unhide Nl)
  clear Nl
  have Ms := hide (unhide Ns)
  clear Ns
  have Mv := hide (unhide Nv)
  clear Nv
  have Mn := hide (unhide Nn)
  clear Nn
  clear hsz
  have Z11 := hide (unhide Z10)
  clear Z10
  refine (unhide Tmt w11 (unhide HB)).mono ?_
  rintro e w12 ⟨rfl, hO, hb⟩
  have hzm := unhide Z11
  generalize hgm : w11.heap.size = gm at *
  have hlt := hO.lt
  have hbz : Below w11.heap.size w11 w12 := hgm ▸ hb
  have O4 := (unhide HO).below hbz
  have o8 := O4.cell 8 rfl
  have fo8 := O4.fro 8
  have o9 := O4.cell 9 rfl
  have fo9 := O4.fro 9
  have o10 := O4.cell 10 rfl
  have fo10 := O4.fro 10
  have o11 := O4.cell 11 rfl
  have fo11 := O4.fro 11
  have o12 := O4.cell 12 rfl
  have fo12 := O4.fro 12
  have A5 := (((((((unhide HA).below hbz).other (C := w.heap.size + 1 + 1) 8 (.slice (some ⟨gm, 0, none⟩) mt.length mt.length) (by omega)).other (C := w.heap.size + 1 + 1) 9 (.int .i64 cm) (by omega)).other (C := w.heap.size + 1 + 1) 10 (.int .i64 el) (by omega)).other (C := w.heap.size + 1 + 1) 11 (.int .i64 wt) (by omega)).other (C := w.heap.size + 1 + 1) 12 (.bool up) (by omega))
  have R5 := (((((((unhide HR).below hbz).other (C := w.heap.size + 1 + 1) 8 (.slice (some ⟨gm, 0, none⟩) mt.length mt.length) (by omega)).other (C := w.heap.size + 1 + 1) 9 (.int .i64 cm) (by omega)).other (C := w.heap.size + 1 + 1) 10 (.int .i64 el) (by omega)).other (C := w.heap.size + 1 + 1) 11 (.int .i64 wt) (by omega)).other (C := w.heap.size + 1 + 1) 12 (.bool up) (by omega))
  have O5 := (((((O4.set 8 (.slice (some ⟨gm, 0, none⟩) mt.length mt.length) (by simp)).set 9 (.int .i64 cm) (by simp)).set 10 (.int .i64 el) (by simp)).set 11 (.int .i64 wt) (by simp)).set 12 (.bool up) (by simp))
  have B5 := hide (((((((unhide HB).trans (hb.mono (by omega))).setCell (p := ⟨w.heap.size + 1 + 1, 8, none⟩) (by simp; omega) (.slice (some ⟨gm, 0, none⟩) mt.length mt.length)).setCell (p := ⟨w.heap.size + 1 + 1, 9, none⟩) (by simp; omega) (.int .i64 cm)).setCell (p := ⟨w.heap.size + 1 + 1, 10, none⟩) (by simp; omega) (.int .i64 el)).setCell (p := ⟨w.heap.size + 1 + 1, 11, none⟩) (by simp; omega) (.int .i64 wt)).setCell (p := ⟨w.heap.size + 1 + 1, 12, none⟩) (by simp; omega) (.bool up))
  have T5 := ((((((Touch.refl (fun q => q = w.heap.size + 1 + 1) w12).setCell ⟨w.heap.size + 1 + 1, 8, none⟩ (.slice (some ⟨gm, 0, none⟩) mt.length mt.length) (fun _ => rfl)).setCell ⟨w.heap.size + 1 + 1, 9, none⟩ (.int .i64 cm) (fun _ => rfl)).setCell ⟨w.heap.size + 1 + 1, 10, none⟩ (.int .i64 el) (fun _ => rfl)).setCell ⟨w.heap.size + 1 + 1, 11, none⟩ (.int .i64 wt) (fun _ => rfl)).setCell ⟨w.heap.size + 1 + 1, 12, none⟩ (.bool up) (fun _ => rfl))
  have a9 := (((unhide HA).below hbz).other (C := w.heap.size + 1 + 1) 8 (.slice (some ⟨gm, 0, none⟩) mt.length mt.length) (by omega)).cell 9 rfl
  have a10 := ((((unhide HA).below hbz).other (C := w.heap.size + 1 + 1) 8 (.slice (some ⟨gm, 0, none⟩) mt.length mt.length) (by omega)).other (C := w.heap.size + 1 + 1) 9 (.int .i64 cm) (by omega)).cell 10 rfl
  have a11 := (((((unhide HA).below hbz).other (C := w.heap.size + 1 + 1) 8 (.slice (some ⟨gm, 0, none⟩) mt.length mt.length) (by omega)).other (C := w.heap.size + 1 + 1) 9 (.int .i64 cm) (by omega)).other (C := w.heap.size + 1 + 1) 10 (.int .i64 el) (by omega)).cell 11 rfl
  have a12 := ((((((unhide HA).below hbz).other (C := w.heap.size + 1 + 1) 8 (.slice (some ⟨gm, 0, none⟩) mt.length mt.length) (by omega)).other (C := w.heap.size + 1 + 1) 9 (.int .i64 cm) (by omega)).other (C := w.heap.size + 1 + 1) 10 (.int .i64 el) (by omega)).other (C := w.heap.size + 1 + 1) 11 (.int .i64 wt) (by omega)).cell 12 rfl
  have Ul := ((unhide Ml).below hbz).kept T5 (fun q hq e => by have hw := (unhide Gl); simp [Value.ownBlock] at hq; omega)
  have Us := ((unhide Ms).below hbz).kept T5 (fun q hq e => by have hw := (unhide Gs); simp [Value.ownBlock] at hq; omega)
  have Uv := ((unhide Mv).below hbz).kept T5 (fun q hq e => by have hw := (unhide Gv); simp [Value.ownBlock] at hq; omega)
  have Un := ((unhide Mn).below hbz).kept T5 (fun q hq e => by have hw := (unhide Gn); simp [Value.ownBlock] at hq; omega)
  have Um := hO.kept T5 (fun q hq e => by have := (hlt q hq).1; omega)
  have Gm := hide (show w.heap.size + 1 + 1 < gm ∧ gm < ((((((w12.setCell ⟨w.heap.size + 1 + 1, 8, none⟩ (.slice (some ⟨gm, 0, none⟩) mt.length mt.length)).setCell ⟨w.heap.size + 1 + 1, 9, none⟩ (.int .i64 cm)).setCell ⟨w.heap.size + 1 + 1, 10, none⟩ (.int .i64 el)).setCell ⟨w.heap.size + 1 + 1, 11, none⟩ (.int .i64 wt)).setCell ⟨w.heap.size + 1 + 1, 12, none⟩ (.bool up))).heap.size from ⟨by omega, by have := (hlt gm rfl).2; simpa using this⟩)
  have Qm := hide (show w11.heap.size = gm from hgm)
  have Fm := hide (show gn < gm from by have := (unhide Gn).2; omega)
  have o50 := O5.cell 0 rfl
  have o51 := O5.cell 1 rfl
  have o52 := O5.cell 2 rfl
  have o53 := O5.cell 3 rfl
  have o54 := O5.cell 4 rfl
  have o55 := O5.cell 5 rfl
  have o56 := O5.cell 6 rfl
  have o57 := O5.cell 7 rfl
  have o58 := O5.cell 8 rfl
  have o59 := O5.cell 9 rfl
  have o510 := O5.cell 10 rfl
  have o511 := O5.cell 11 rfl
  have o512 := O5.cell 12 rfl
  have r50 := R5.cell 0 rfl
  have fr0 := R5.fro 0
  have r51 := R5.cell 1 rfl
  have fr1 := R5.fro 1
  have r52 := R5.cell 2 rfl
  have fr2 := R5.fro 2
  have r53 := R5.cell 3 rfl
  have fr3 := R5.fro 3
  have r54 := R5.cell 4 rfl
  have fr4 := R5.fro 4
  have r55 := R5.cell 5 rfl
  have fr5 := R5.fro 5
  have r56 := R5.cell 6 rfl
  have fr6 := R5.fro 6
  have r57 := R5.cell 7 rfl
  have fr7 := R5.fro 7
  have r58 := R5.cell 8 rfl
  have fr8 := R5.fro 8
  have r59 := R5.cell 9 rfl
  have fr9 := R5.fro 9
  have r510 := R5.cell 10 rfl
  have fr10 := R5.fro 10
  have r511 := R5.cell 11 rfl
  have fr11 := R5.fro 11
  have r512 := R5.cell 12 rfl
  have fr12 := R5.fro 12
  have R9 := (((((((((((((R5.set 0 (.int .i64 id) (by simp)).set 1 (.int .i64 tm) (by simp)).set 2 (.int .i64 vo) (by simp)).set 3 ((.slice (some ⟨gl, 0, none⟩) lg.length lg.length)) (by simp)).set 4 ((.slice (some ⟨gs, 0, none⟩) st.length st.length)) (by simp)).set 5 (.int .i64 ro) (by simp)).set 6 ((.slice (some ⟨gv, 0, none⟩) vs.length vs.length)) (by simp)).set 7 ((.slice (some ⟨gn, 0, none⟩) nx.length nx.length)) (by simp)).set 8 ((.slice (some ⟨gm, 0, none⟩) mt.length mt.length)) (by simp)).set 9 (.int .i64 cm) (by simp)).set 10 (.int .i64 el) (by simp)).set 11 (.int .i64 wt) (by simp)).set 12 (.bool up) (by simp))
  have B9 := hide ((((((((((((((unhide B5).setCell (p := ⟨w.heap.size + 1, 0, none⟩) (by simp) (.int .i64 id)).setCell (p := ⟨w.heap.size + 1, 1, none⟩) (by simp) (.int .i64 tm)).setCell (p := ⟨w.heap.size + 1, 2, none⟩) (by simp) (.int .i64 vo)).setCell (p := ⟨w.heap.size + 1, 3, none⟩) (by simp) ((.slice (some ⟨gl, 0, none⟩) lg.length lg.length))).setCell (p := ⟨w.heap.size + 1, 4, none⟩) (by simp) ((.slice (some ⟨gs, 0, none⟩) st.length st.length))).setCell (p := ⟨w.heap.size + 1, 5, none⟩) (by simp) (.int .i64 ro)).setCell (p := ⟨w.heap.size + 1, 6, none⟩) (by simp) ((.slice (some ⟨gv, 0, none⟩) vs.length vs.length))).setCell (p := ⟨w.heap.size + 1, 7, none⟩) (by simp) ((.slice (some ⟨gn, 0, none⟩) nx.length nx.length))).setCell (p := ⟨w.heap.size + 1, 8, none⟩) (by simp) ((.slice (some ⟨gm, 0, none⟩) mt.length mt.length))).setCell (p := ⟨w.heap.size + 1, 9, none⟩) (by simp) (.int .i64 cm)).setCell (p := ⟨w.heap.size + 1, 10, none⟩) (by simp) (.int .i64 el)).setCell (p := ⟨w.heap.size + 1, 11, none⟩) (by simp) (.int .i64 wt)).setCell (p := ⟨w.heap.size + 1, 12, none⟩) (by simp) (.bool up))
  have T9 := ((((((((((((((Touch.refl (fun q => q = w.heap.size + 1) ((((((w12.setCell ⟨w.heap.size + 1 + 1, 8, none⟩ (.slice (some ⟨gm, 0, none⟩) mt.length mt.length)).setCell ⟨w.heap.size + 1 + 1, 9, none⟩ (.int .i64 cm)).setCell ⟨w.heap.size + 1 + 1, 10, none⟩ (.int .i64 el)).setCell ⟨w.heap.size + 1 + 1, 11, none⟩ (.int .i64 wt)).setCell ⟨w.heap.size + 1 + 1, 12, none⟩ (.bool up)))).setCell ⟨w.heap.size + 1, 0, none⟩ (.int .i64 id) (fun _ => rfl)).setCell ⟨w.heap.size + 1, 1, none⟩ (.int .i64 tm) (fun _ => rfl)).setCell ⟨w.heap.size + 1, 2, none⟩ (.int .i64 vo) (fun _ => rfl)).setCell ⟨w.heap.size + 1, 3, none⟩ ((.slice (some ⟨gl, 0, none⟩) lg.length lg.length)) (fun _ => rfl)).setCell ⟨w.heap.size + 1, 4, none⟩ ((.slice (some ⟨gs, 0, none⟩) st.length st.length)) (fun _ => rfl)).setCell ⟨w.heap.size + 1, 5, none⟩ (.int .i64 ro) (fun _ => rfl)).setCell ⟨w.heap.size + 1, 6, none⟩ ((.slice (some ⟨gv, 0, none⟩) vs.length vs.length)) (fun _ => rfl)).setCell ⟨w.heap.size + 1, 7, none⟩ ((.slice (some ⟨gn, 0, none⟩) nx.length nx.length)) (fun _ => rfl)).setCell ⟨w.heap.size + 1, 8, none⟩ ((.slice (some ⟨gm, 0, none⟩) mt.length mt.length)) (fun _ => rfl)).setCell ⟨w.heap.size + 1, 9, none⟩ (.int .i64 cm) (fun _ => rfl)).setCell ⟨w.heap.size + 1, 10, none⟩ (.int .i64 el) (fun _ => rfl)).setCell ⟨w.heap.size + 1, 11, none⟩ (.int .i64 wt) (fun _ => rfl)).setCell ⟨w.heap.size + 1, 12, none⟩ (.bool up) (fun _ => rfl))
  have Vl := Ul.kept T9 (fun q hq e => by have hw := (unhide Gl); simp [Value.ownBlock] at hq; omega)
  have Vs := Us.kept T9 (fun q hq e => by have hw := (unhide Gs); simp [Value.ownBlock] at hq; omega)
  have Vv := Uv.kept T9 (fun q hq e => by have hw := (unhide Gv); simp [Value.ownBlock] at hq; omega)
  have Vn := Un.kept T9 (fun q hq e => by have hw := (unhide Gn); simp [Value.ownBlock] at hq; omega)
  have Vm := Um.kept T9 (fun q hq e => by have hw := (unhide Gm); simp [Value.ownBlock] at hq; omega)
  have F9 := hide (And.intro Vl (And.intro Vs (And.intro Vv (And.intro Vn Vm))))
  have z0 := R9.cell 0 rfl
  have z1 := R9.cell 1 rfl
  have z2 := R9.cell 2 rfl
  have z3 := R9.cell 3 rfl
  have z4 := R9.cell 4 rfl
  have z5 := R9.cell 5 rfl
  have z6 := R9.cell 6 rfl
  have z7 := R9.cell 7 rfl
  have z8 := R9.cell 8 rfl
  have z9 := R9.cell 9 rfl
  have z10 := R9.cell 10 rfl
  have z11 := R9.cell 11 rfl
  have z12 := R9.cell 12 rfl
  have FF := hide (And.intro (unhide Fs) (And.intro (unhide Fv) (And.intro (unhide Fn) (unhide Fm))))
  have GG := hide (And.intro (unhide Gl).1 (And.intro (unhide Gs).1 (And.intro (unhide Gv).1 (And.intro (unhide Gn).1 (unhide Gm).1))))
  clear A5 R5 O5 O4 T5 T9 R9 hO hlt hb hbz Ul Us Uv Un Um Vl Vs Vv Vn Vm HA HR HO HB Tmt Ml Ms Mv Mn B5 Gl Gs Gv Gn Gm Fs Fv Fn Fm
  clear hgm Ql Qs Qv Qn Qm
  go_wp2_with fail
  refine bodyPost_ret (v := .agg #[.int .i64 id, .int .i64 tm, .int .i64 vo, .slice (some ⟨gl, 0, none⟩) lg.length lg.length, .slice (some ⟨gs, 0, none⟩) st.length st.length, .int .i64 ro, .slice (some ⟨gv, 0, none⟩) vs.length vs.length, .slice (some ⟨gn, 0, none⟩) nx.length nx.length, .slice (some ⟨gm, 0, none⟩) mt.length mt.length, .int .i64 cm, .int .i64 el, .int .i64 wt, .bool up]) (by simp [results, Try.results7, go_sem, z0, z1, z2, z3, z4, z5, z6, z7, z8, z9, z10, z11, z12]) rfl ?_
  refine ⟨gl, gs, gv, gn, gm, rfl, ⟨?_, ?_, ?_, ?_, ?_, ?_⟩, unhide B9⟩
  · exact World.ownsRow_monoE (unhide F9).1 (by have := (unhide GG).1; omega)
  · exact (unhide F9).2.1.mono (by have := (unhide GG).2.1; omega)
  · exact (unhide F9).2.2.1.mono (by have := (unhide GG).2.2.1; omega)
  · exact (unhide F9).2.2.2.1.mono (by have := (unhide GG).2.2.2.1; omega)
  · exact (unhide F9).2.2.2.2.mono (by have := (unhide GG).2.2.2.2; omega)
  · have f := unhide FF
    simp [Apart, Value.ownBlock]
    omega
end Go.Proofs.Ytljolldacpkeeaa
