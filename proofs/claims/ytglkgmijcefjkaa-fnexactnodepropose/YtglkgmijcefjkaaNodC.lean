/- impl.copyNode, impl.newActor, walked. (Written by py/nodc.py.) -/
import Derived.Test.YtglkgmijcefjkaaNod
import Derived.Test.YtglkgmijcefjkaaClN
namespace Go.Proofs.Ytglkgmijcefjkaa
open Go.ChangeShapes Go.WideShapes Go.ChangeAt Go.RowKit Go.Deep
set_option linter.unusedVariables false

/-- Two values whose blocks lie in two stretches that do not meet. -/
theorem apart_iv {a b : Value} {s t u v : Nat} (ha : ∀ k, a.ownBlock = some k → s ≤ k ∧ k < t) (hb : ∀ k, b.ownBlock = some k → u ≤ k ∧ k < v) (h : t ≤ u) : Apart a b := fun k h1 h2 => by
  have := ha k h1
  have := hb k h2
  omega
/-- A node that is the call's own comes out. -/
def CpNR (id tm vo ro cm el wt : Int) (up : Bool) (lg : List En) (st vs nx mt : List Int) (B : Nat) (w : World) (e : Ending) (w' : World) : Prop :=
  ∃ la' lc' sa' sc' va' vc' na' nc' ma' mc', e = .returned (.agg #[.int .i64 id, .int .i64 tm, .int .i64 vo, .slice la' lg.length lc', .slice sa' st.length sc', .int .i64 ro, .slice va' vs.length vc', .slice na' nx.length nc', .slice ma' mt.length mc', .int .i64 cm, .int .i64 el, .int .i64 wt, .bool up]) ∧ NoO B w' (.slice la' lg.length lc') (.slice sa' st.length sc') (.slice va' vs.length vc') (.slice na' nx.length nc') (.slice ma' mt.length mc') lg st vs nx mt ∧ Below w.heap.size w w'
set_option maxRecDepth 100000 in
set_option maxHeartbeats 4000000 in
theorem copyNode_any (id tm vo ro cm el wt : Int) (up : Bool) (lg : List En) (st vs nx mt : List Int) (la : Option Addr) (lc : Nat) (sa : Option Addr) (sc : Nat) (va : Option Addr) (vc : Nat) (na : Option Addr) (nc : Nat) (ma : Option Addr) (mc : Nat) (w : World) (h : NoR w (.slice la lg.length lc) (.slice sa st.length sc) (.slice va vs.length vc) (.slice na nx.length nc) (.slice ma mt.length mc) lg st vs nx mt) (z0 : lg.length ≤ 4096) (z1 : st.length ≤ 4096) (z2 : vs.length ≤ 4096) (z3 : nx.length ≤ 4096) (z4 : mt.length ≤ 4096) :
    Calls Try.prog 27 #[.agg #[.int .i64 id, .int .i64 tm, .int .i64 vo, .slice la lg.length lc, .slice sa st.length sc, .int .i64 ro, .slice va vs.length vc, .slice na nx.length nc, .slice ma mt.length mc, .int .i64 cm, .int .i64 el, .int .i64 wt, .bool up]] w fun e w' => CpNR id tm vo ro cm el wt up lg st vs nx mt w.heap.size w e w' := by
  have Tlg := hide (fun wx (hx : Below w.heap.size w wx) => cloneE_all la lc lg wx (h.lg.below hx) z0)
  have Tst := hide (fun wx (hx : Below w.heap.size w wx) => cloneJ_all sa sc st wx (h.st.below hx) z1)
  have Tvs := hide (fun wx (hx : Below w.heap.size w wx) => cloneJ_all va vc vs wx (h.vs.below hx) z2)
  have Tnx := hide (fun wx (hx : Below w.heap.size w wx) => cloneJ_all na nc nx wx (h.nx.below hx) z3)
  have Tmt := hide (fun wx (hx : Below w.heap.size w wx) => cloneJ_all ma mc mt wx (h.mt.below hx) z4)
  have HB := hide (((Below.refl w.heap.size w).alloc (Nat.le_refl _) (.cells #[.int .i64 id, .int .i64 tm, .int .i64 vo, .slice la lg.length lc, .slice sa st.length sc, .int .i64 ro, .slice va vs.length vc, .slice na nx.length nc, .slice ma mt.length mc, .int .i64 cm, .int .i64 el, .int .i64 wt, .bool up] 29)).alloc (by simp) (.cells #[.int .i64 0, .int .i64 0, .int .i64 0, .slice none 0 0, .slice none 0 0, .int .i64 0, .slice none 0 0, .slice none 0 0, .slice none 0 0, .int .i64 0, .int .i64 0, .int .i64 0, .bool false] 29))
  have HO := hide ((Blk.new w #[.int .i64 id, .int .i64 tm, .int .i64 vo, .slice la lg.length lc, .slice sa st.length sc, .int .i64 ro, .slice va vs.length vc, .slice na nx.length nc, .slice ma mt.length mc, .int .i64 cm, .int .i64 el, .int .i64 wt, .bool up] 29 w.heap.size rfl).alloc (.cells #[.int .i64 0, .int .i64 0, .int .i64 0, .slice none 0 0, .slice none 0 0, .int .i64 0, .slice none 0 0, .slice none 0 0, .slice none 0 0, .int .i64 0, .int .i64 0, .int .i64 0, .bool false] 29))
  have HR := hide (Blk.new (w.alloc (.cells #[.int .i64 id, .int .i64 tm, .int .i64 vo, .slice la lg.length lc, .slice sa st.length sc, .int .i64 ro, .slice va vs.length vc, .slice na nx.length nc, .slice ma mt.length mc, .int .i64 cm, .int .i64 el, .int .i64 wt, .bool up] 29)) #[.int .i64 0, .int .i64 0, .int .i64 0, .slice none 0 0, .slice none 0 0, .int .i64 0, .slice none 0 0, .slice none 0 0, .slice none 0 0, .int .i64 0, .int .i64 0, .int .i64 0, .bool false] 29 (w.heap.size + 1) (by simp))
  have HZ := hide (show w.heap.size + 2 ≤ ((w.alloc (.cells #[.int .i64 id, .int .i64 tm, .int .i64 vo, .slice la lg.length lc, .slice sa st.length sc, .int .i64 ro, .slice va vs.length vc, .slice na nx.length nc, .slice ma mt.length mc, .int .i64 cm, .int .i64 el, .int .i64 wt, .bool up] 29)).alloc (.cells #[.int .i64 0, .int .i64 0, .int .i64 0, .slice none 0 0, .slice none 0 0, .int .i64 0, .slice none 0 0, .slice none 0 0, .slice none 0 0, .int .i64 0, .int .i64 0, .int .i64 0, .bool false] 29)).heap.size by simp)
  clear h z0 z1 z2 z3 z4
  go_enter Try.func27, Try.ntmps27
  go_wp2_with fail
  generalize (w.alloc (.cells #[.int .i64 id, .int .i64 tm, .int .i64 vo, .slice la lg.length lc, .slice sa st.length sc, .int .i64 ro, .slice va vs.length vc, .slice na nx.length nc, .slice ma mt.length mc, .int .i64 cm, .int .i64 el, .int .i64 wt, .bool up] 29)).alloc (.cells #[.int .i64 0, .int .i64 0, .int .i64 0, .slice none 0 0, .slice none 0 0, .int .i64 0, .slice none 0 0, .slice none 0 0, .slice none 0 0, .int .i64 0, .int .i64 0, .int .i64 0, .bool false] 29) = w0 at *
  refine (unhide Tlg w0 (unhide HB)).mono ?_
  rintro e w1 ⟨la', lc', rfl, hO, hb⟩
  have hlt := World.ownsRow.lt hO
  have hz := unhide HZ
  have OO := (unhide HO).below hb
  have oc := OO.cell 3 rfl
  have fc := OO.fro 3
  have O5 := OO.set 3 (.slice la' lg.length lc') (by simp)
  have R5 := ((unhide HR).below hb).other (C := w.heap.size) 3 (.slice la' lg.length lc') (by omega)
  have B5 := ((unhide HB).trans (hb.mono (unhide HB).size)).setCell (p := ⟨w.heap.size, 3, none⟩) (Nat.le_refl _) (.slice la' lg.length lc')
  have T5 := (Touch.refl (fun q => q = w.heap.size) w1).setCell ⟨w.heap.size, 3, none⟩ (.slice la' lg.length lc') (fun _ => rfl)
  have hbs := hb.size
  have Ul := hO.kept T5 (fun q hq e => by have := (hlt q hq).1; omega)
  have Il := hide (show (∀ q, (Value.slice la' lg.length lc').ownBlock = some q → w0.heap.size ≤ q ∧ q < w1.heap.size) ∧ w.heap.size + 1 < w0.heap.size from ⟨hlt, by omega⟩)
  have Jl := hide (show w0.heap.size ≤ w1.heap.size from hbs)
  have nc_ := O5.cell 4 rfl
  have hsz : (w1.setCell ⟨w.heap.size, 3, none⟩ (.slice la' lg.length lc')).heap.size = w1.heap.size := by simp
  have E1 := hide hsz
  have Z5 := hide (show w.heap.size + 2 ≤ (w1.setCell ⟨w.heap.size, 3, none⟩ (.slice la' lg.length lc')).heap.size by rw [hsz]; omega)
  have HO5 := hide O5
  have HR5 := hide R5
  have HB5 := hide B5
  have Nl := hide Ul
  clear OO O5 R5 B5 T5 hO hlt hb hbs hz hsz HO HR HB HZ Tlg Ul 
  go_wp2_with fail
  clear oc fc nc_
  generalize (w1.setCell ⟨w.heap.size, 3, none⟩ (.slice la' lg.length lc')) = u1 at *
  have HO := hide (unhide HO5)
  clear HO5
  have HR := hide (unhide HR5)
  clear HR5
  have HB := hide (unhide HB5)
  clear HB5
  have HZ := hide (unhide Z5)
  clear Z5
  have Ml := hide (unhide Nl)
  clear Nl
  refine (unhide Tst u1 (unhide HB)).mono ?_
  rintro e w2 ⟨sa', sc', rfl, hO, hb⟩
  have hlt := hO.lt
  have hz := unhide HZ
  have OO := (unhide HO).below hb
  have oc := OO.cell 4 rfl
  have fc := OO.fro 4
  have O5 := OO.set 4 (.slice sa' st.length sc') (by simp)
  have R5 := ((unhide HR).below hb).other (C := w.heap.size) 4 (.slice sa' st.length sc') (by omega)
  have B5 := ((unhide HB).trans (hb.mono (unhide HB).size)).setCell (p := ⟨w.heap.size, 4, none⟩) (Nat.le_refl _) (.slice sa' st.length sc')
  have T5 := (Touch.refl (fun q => q = w.heap.size) w2).setCell ⟨w.heap.size, 4, none⟩ (.slice sa' st.length sc') (fun _ => rfl)
  have hbs := hb.size
  have Ul := ((unhide Ml).below hb).kept T5 (fun q hq e => by have := (unhide Il).1 q hq; have := (unhide Il).2; omega)
  have Us := hO.kept T5 (fun q hq e => by have := (hlt q hq).1; omega)
  have Is := hide (show (∀ q, (Value.slice sa' st.length sc').ownBlock = some q → u1.heap.size ≤ q ∧ q < w2.heap.size) ∧ w.heap.size + 1 < u1.heap.size from ⟨hlt, by omega⟩)
  have Js := hide (show u1.heap.size ≤ w2.heap.size from hbs)
  have nc_ := O5.cell 6 rfl
  have hsz : (w2.setCell ⟨w.heap.size, 4, none⟩ (.slice sa' st.length sc')).heap.size = w2.heap.size := by simp
  have E2 := hide hsz
  have Z5 := hide (show w.heap.size + 2 ≤ (w2.setCell ⟨w.heap.size, 4, none⟩ (.slice sa' st.length sc')).heap.size by rw [hsz]; omega)
  have HO5 := hide O5
  have HR5 := hide R5
  have HB5 := hide B5
  have Nl := hide Ul
  have Ns := hide Us
  clear OO O5 R5 B5 T5 hO hlt hb hbs hz hsz HO HR HB HZ Tst Ul Us Ml
  go_wp2_with fail
  clear oc fc nc_
  generalize (w2.setCell ⟨w.heap.size, 4, none⟩ (.slice sa' st.length sc')) = u2 at *
  have HO := hide (unhide HO5)
  clear HO5
  have HR := hide (unhide HR5)
  clear HR5
  have HB := hide (unhide HB5)
  clear HB5
  have HZ := hide (unhide Z5)
  clear Z5
  have Ml := hide (unhide Nl)
  clear Nl
  have Ms := hide (unhide Ns)
  clear Ns
  refine (unhide Tvs u2 (unhide HB)).mono ?_
  rintro e w3 ⟨va', vc', rfl, hO, hb⟩
  have hlt := hO.lt
  have hz := unhide HZ
  have OO := (unhide HO).below hb
  have oc := OO.cell 6 rfl
  have fc := OO.fro 6
  have O5 := OO.set 6 (.slice va' vs.length vc') (by simp)
  have R5 := ((unhide HR).below hb).other (C := w.heap.size) 6 (.slice va' vs.length vc') (by omega)
  have B5 := ((unhide HB).trans (hb.mono (unhide HB).size)).setCell (p := ⟨w.heap.size, 6, none⟩) (Nat.le_refl _) (.slice va' vs.length vc')
  have T5 := (Touch.refl (fun q => q = w.heap.size) w3).setCell ⟨w.heap.size, 6, none⟩ (.slice va' vs.length vc') (fun _ => rfl)
  have hbs := hb.size
  have Ul := ((unhide Ml).below hb).kept T5 (fun q hq e => by have := (unhide Il).1 q hq; have := (unhide Il).2; omega)
  have Us := ((unhide Ms).below hb).kept T5 (fun q hq e => by have := (unhide Is).1 q hq; have := (unhide Is).2; omega)
  have Uv := hO.kept T5 (fun q hq e => by have := (hlt q hq).1; omega)
  have Iv := hide (show (∀ q, (Value.slice va' vs.length vc').ownBlock = some q → u2.heap.size ≤ q ∧ q < w3.heap.size) ∧ w.heap.size + 1 < u2.heap.size from ⟨hlt, by omega⟩)
  have Jv := hide (show u2.heap.size ≤ w3.heap.size from hbs)
  have nc_ := O5.cell 7 rfl
  have hsz : (w3.setCell ⟨w.heap.size, 6, none⟩ (.slice va' vs.length vc')).heap.size = w3.heap.size := by simp
  have E3 := hide hsz
  have Z5 := hide (show w.heap.size + 2 ≤ (w3.setCell ⟨w.heap.size, 6, none⟩ (.slice va' vs.length vc')).heap.size by rw [hsz]; omega)
  have HO5 := hide O5
  have HR5 := hide R5
  have HB5 := hide B5
  have Nl := hide Ul
  have Ns := hide Us
  have Nv := hide Uv
  clear OO O5 R5 B5 T5 hO hlt hb hbs hz hsz HO HR HB HZ Tvs Ul Us Uv Ml Ms
  go_wp2_with fail
  clear oc fc nc_
  generalize (w3.setCell ⟨w.heap.size, 6, none⟩ (.slice va' vs.length vc')) = u3 at *
  have HO := hide (unhide HO5)
  clear HO5
  have HR := hide (unhide HR5)
  clear HR5
  have HB := hide (unhide HB5)
  clear HB5
  have HZ := hide (unhide Z5)
  clear Z5
  have Ml := hide (unhide Nl)
  clear Nl
  have Ms := hide (unhide Ns)
  clear Ns
  have Mv := hide (unhide Nv)
  clear Nv
  refine (unhide Tnx u3 (unhide HB)).mono ?_
  rintro e w4 ⟨na', nc', rfl, hO, hb⟩
  have hlt := hO.lt
  have hz := unhide HZ
  have OO := (unhide HO).below hb
  have oc := OO.cell 7 rfl
  have fc := OO.fro 7
  have O5 := OO.set 7 (.slice na' nx.length nc') (by simp)
  have R5 := ((unhide HR).below hb).other (C := w.heap.size) 7 (.slice na' nx.length nc') (by omega)
  have B5 := ((unhide HB).trans (hb.mono (unhide HB).size)).setCell (p := ⟨w.heap.size, 7, none⟩) (Nat.le_refl _) (.slice na' nx.length nc')
  have T5 := (Touch.refl (fun q => q = w.heap.size) w4).setCell ⟨w.heap.size, 7, none⟩ (.slice na' nx.length nc') (fun _ => rfl)
  have hbs := hb.size
  have Ul := ((unhide Ml).below hb).kept T5 (fun q hq e => by have := (unhide Il).1 q hq; have := (unhide Il).2; omega)
  have Us := ((unhide Ms).below hb).kept T5 (fun q hq e => by have := (unhide Is).1 q hq; have := (unhide Is).2; omega)
  have Uv := ((unhide Mv).below hb).kept T5 (fun q hq e => by have := (unhide Iv).1 q hq; have := (unhide Iv).2; omega)
  have Un := hO.kept T5 (fun q hq e => by have := (hlt q hq).1; omega)
  have In := hide (show (∀ q, (Value.slice na' nx.length nc').ownBlock = some q → u3.heap.size ≤ q ∧ q < w4.heap.size) ∧ w.heap.size + 1 < u3.heap.size from ⟨hlt, by omega⟩)
  have Jn := hide (show u3.heap.size ≤ w4.heap.size from hbs)
  have nc_ := O5.cell 8 rfl
  have hsz : (w4.setCell ⟨w.heap.size, 7, none⟩ (.slice na' nx.length nc')).heap.size = w4.heap.size := by simp
  have E4 := hide hsz
  have Z5 := hide (show w.heap.size + 2 ≤ (w4.setCell ⟨w.heap.size, 7, none⟩ (.slice na' nx.length nc')).heap.size by rw [hsz]; omega)
  have HO5 := hide O5
  have HR5 := hide R5
  have HB5 := hide B5
  have Nl := hide Ul
  have Ns := hide Us
  have Nv := hide Uv
  have Nn := hide Un
  clear OO O5 R5 B5 T5 hO hlt hb hbs hz hsz HO HR HB HZ Tnx Ul Us Uv Un Ml Ms Mv
  go_wp2_with fail
  clear oc fc nc_
  generalize (w4.setCell ⟨w.heap.size, 7, none⟩ (.slice na' nx.length nc')) = u4 at *
  have HO := hide (unhide HO5)
  clear HO5
  have HR := hide (unhide HR5)
  clear HR5
  have HB := hide (unhide HB5)
  clear HB5
  have HZ := hide (unhide Z5)
  clear Z5
  have Ml := hide (unhide Nl)
  clear Nl
  have Ms := hide (unhide Ns)
  clear Ns
  have Mv := hide (unhide Nv)
  clear Nv
  have Mn := hide (unhide Nn)
  clear Nn
  refine (unhide Tmt u4 (unhide HB)).mono ?_
  rintro e w5 ⟨ma', mc', rfl, hO, hb⟩
  have hlt := hO.lt
  have hz := unhide HZ
  have OO := (unhide HO).below hb
  have oc := OO.cell 8 rfl
  have fc := OO.fro 8
  have O5 := OO.set 8 (.slice ma' mt.length mc') (by simp)
  have R5 := ((unhide HR).below hb).other (C := w.heap.size) 8 (.slice ma' mt.length mc') (by omega)
  have B5 := ((unhide HB).trans (hb.mono (unhide HB).size)).setCell (p := ⟨w.heap.size, 8, none⟩) (Nat.le_refl _) (.slice ma' mt.length mc')
  have T5 := (Touch.refl (fun q => q = w.heap.size) w5).setCell ⟨w.heap.size, 8, none⟩ (.slice ma' mt.length mc') (fun _ => rfl)
  have hbs := hb.size
  have Ul := ((unhide Ml).below hb).kept T5 (fun q hq e => by have := (unhide Il).1 q hq; have := (unhide Il).2; omega)
  have Us := ((unhide Ms).below hb).kept T5 (fun q hq e => by have := (unhide Is).1 q hq; have := (unhide Is).2; omega)
  have Uv := ((unhide Mv).below hb).kept T5 (fun q hq e => by have := (unhide Iv).1 q hq; have := (unhide Iv).2; omega)
  have Un := ((unhide Mn).below hb).kept T5 (fun q hq e => by have := (unhide In).1 q hq; have := (unhide In).2; omega)
  have Um := hO.kept T5 (fun q hq e => by have := (hlt q hq).1; omega)
  have Im := hide (show (∀ q, (Value.slice ma' mt.length mc').ownBlock = some q → u4.heap.size ≤ q ∧ q < w5.heap.size) ∧ w.heap.size + 1 < u4.heap.size from ⟨hlt, by omega⟩)
  have Jm := hide (show u4.heap.size ≤ w5.heap.size from hbs)
  have o50 := O5.cell 0 rfl
  have o51 := O5.cell 1 rfl
  have o52 := O5.cell 2 rfl
  have o53 := O5.cell 3 rfl
  have o54 := O5.cell 4 rfl
  have o55 := O5.cell 5 rfl
  have o56 := O5.cell 6 rfl
  have o57 := O5.cell 7 rfl
  have o58 := O5.cell 8 rfl
  have o59 := O5.cell 9 rfl
  have o510 := O5.cell 10 rfl
  have o511 := O5.cell 11 rfl
  have o512 := O5.cell 12 rfl
  have r50 := R5.cell 0 rfl
  have fr0 := R5.fro 0
  have r51 := R5.cell 1 rfl
  have fr1 := R5.fro 1
  have r52 := R5.cell 2 rfl
  have fr2 := R5.fro 2
  have r53 := R5.cell 3 rfl
  have fr3 := R5.fro 3
  have r54 := R5.cell 4 rfl
  have fr4 := R5.fro 4
  have r55 := R5.cell 5 rfl
  have fr5 := R5.fro 5
  have r56 := R5.cell 6 rfl
  have fr6 := R5.fro 6
  have r57 := R5.cell 7 rfl
  have fr7 := R5.fro 7
  have r58 := R5.cell 8 rfl
  have fr8 := R5.fro 8
  have r59 := R5.cell 9 rfl
  have fr9 := R5.fro 9
  have r510 := R5.cell 10 rfl
  have fr10 := R5.fro 10
  have r511 := R5.cell 11 rfl
  have fr11 := R5.fro 11
  have r512 := R5.cell 12 rfl
  have fr12 := R5.fro 12
  have R9 := (((((((((((((R5.set 0 (.int .i64 id) (by simp)).set 1 (.int .i64 tm) (by simp)).set 2 (.int .i64 vo) (by simp)).set 3 (.slice la' lg.length lc') (by simp)).set 4 (.slice sa' st.length sc') (by simp)).set 5 (.int .i64 ro) (by simp)).set 6 (.slice va' vs.length vc') (by simp)).set 7 (.slice na' nx.length nc') (by simp)).set 8 (.slice ma' mt.length mc') (by simp)).set 9 (.int .i64 cm) (by simp)).set 10 (.int .i64 el) (by simp)).set 11 (.int .i64 wt) (by simp)).set 12 (.bool up) (by simp))
  have B9 := hide (((((((((((((B5.setCell (p := ⟨w.heap.size + 1, 0, none⟩) (by simp) (.int .i64 id)).setCell (p := ⟨w.heap.size + 1, 1, none⟩) (by simp) (.int .i64 tm)).setCell (p := ⟨w.heap.size + 1, 2, none⟩) (by simp) (.int .i64 vo)).setCell (p := ⟨w.heap.size + 1, 3, none⟩) (by simp) (.slice la' lg.length lc')).setCell (p := ⟨w.heap.size + 1, 4, none⟩) (by simp) (.slice sa' st.length sc')).setCell (p := ⟨w.heap.size + 1, 5, none⟩) (by simp) (.int .i64 ro)).setCell (p := ⟨w.heap.size + 1, 6, none⟩) (by simp) (.slice va' vs.length vc')).setCell (p := ⟨w.heap.size + 1, 7, none⟩) (by simp) (.slice na' nx.length nc')).setCell (p := ⟨w.heap.size + 1, 8, none⟩) (by simp) (.slice ma' mt.length mc')).setCell (p := ⟨w.heap.size + 1, 9, none⟩) (by simp) (.int .i64 cm)).setCell (p := ⟨w.heap.size + 1, 10, none⟩) (by simp) (.int .i64 el)).setCell (p := ⟨w.heap.size + 1, 11, none⟩) (by simp) (.int .i64 wt)).setCell (p := ⟨w.heap.size + 1, 12, none⟩) (by simp) (.bool up))
  have T9 := ((((((((((((((Touch.refl (fun q => q = w.heap.size + 1) (w5.setCell ⟨w.heap.size, 8, none⟩ (.slice ma' mt.length mc'))).setCell ⟨w.heap.size + 1, 0, none⟩ (.int .i64 id) (fun _ => rfl)).setCell ⟨w.heap.size + 1, 1, none⟩ (.int .i64 tm) (fun _ => rfl)).setCell ⟨w.heap.size + 1, 2, none⟩ (.int .i64 vo) (fun _ => rfl)).setCell ⟨w.heap.size + 1, 3, none⟩ (.slice la' lg.length lc') (fun _ => rfl)).setCell ⟨w.heap.size + 1, 4, none⟩ (.slice sa' st.length sc') (fun _ => rfl)).setCell ⟨w.heap.size + 1, 5, none⟩ (.int .i64 ro) (fun _ => rfl)).setCell ⟨w.heap.size + 1, 6, none⟩ (.slice va' vs.length vc') (fun _ => rfl)).setCell ⟨w.heap.size + 1, 7, none⟩ (.slice na' nx.length nc') (fun _ => rfl)).setCell ⟨w.heap.size + 1, 8, none⟩ (.slice ma' mt.length mc') (fun _ => rfl)).setCell ⟨w.heap.size + 1, 9, none⟩ (.int .i64 cm) (fun _ => rfl)).setCell ⟨w.heap.size + 1, 10, none⟩ (.int .i64 el) (fun _ => rfl)).setCell ⟨w.heap.size + 1, 11, none⟩ (.int .i64 wt) (fun _ => rfl)).setCell ⟨w.heap.size + 1, 12, none⟩ (.bool up) (fun _ => rfl))
  have Vl := Ul.kept T9 (fun q hq e => by have := (unhide Il).1 q hq; have := (unhide Il).2; omega)
  have Vs := Us.kept T9 (fun q hq e => by have := (unhide Is).1 q hq; have := (unhide Is).2; omega)
  have Vv := Uv.kept T9 (fun q hq e => by have := (unhide Iv).1 q hq; have := (unhide Iv).2; omega)
  have Vn := Un.kept T9 (fun q hq e => by have := (unhide In).1 q hq; have := (unhide In).2; omega)
  have Vm := Um.kept T9 (fun q hq e => by have := (unhide Im).1 q hq; have := (unhide Im).2; omega)
  have z0 := R9.cell 0 rfl
  have z1 := R9.cell 1 rfl
  have z2 := R9.cell 2 rfl
  have z3 := R9.cell 3 rfl
  have z4 := R9.cell 4 rfl
  have z5 := R9.cell 5 rfl
  have z6 := R9.cell 6 rfl
  have z7 := R9.cell 7 rfl
  have z8 := R9.cell 8 rfl
  have z9 := R9.cell 9 rfl
  have z10 := R9.cell 10 rfl
  have z11 := R9.cell 11 rfl
  have z12 := R9.cell 12 rfl
  have F9 := hide (And.intro Vl (And.intro Vs (And.intro Vv (And.intro Vn Vm))))
  clear OO O5 R5 B5 T5 R9 T9 hO hlt hb hbs hz Ul Us Uv Un Um Vl Vs Vv Vn Vm HO HR HB HZ Tmt Ml Ms Mv Mn
  go_wp2_with fail
  refine bodyPost_ret (v := .agg #[.int .i64 id, .int .i64 tm, .int .i64 vo, .slice la' lg.length lc', .slice sa' st.length sc', .int .i64 ro, .slice va' vs.length vc', .slice na' nx.length nc', .slice ma' mt.length mc', .int .i64 cm, .int .i64 el, .int .i64 wt, .bool up]) (by simp [results, Try.results27, go_sem, z0, z1, z2, z3, z4, z5, z6, z7, z8, z9, z10, z11, z12]) rfl ?_
  have il := unhide Il
  have is_ := unhide Is
  have iv := unhide Iv
  have in_ := unhide In
  have im := unhide Im
  have js := unhide Js
  have jv := unhide Jv
  have jn := unhide Jn
  have e1 := unhide E1
  have e2 := unhide E2
  have e3 := unhide E3
  have e4 := unhide E4
  refine ⟨la', lc', sa', sc', va', vc', na', nc', ma', mc', rfl, ⟨?_, ?_, ?_, ?_, ?_, ?_⟩, unhide B9⟩
  · exact World.ownsRow_monoE (unhide F9).1 (by omega)
  · exact (unhide F9).2.1.mono (by omega)
  · exact (unhide F9).2.2.1.mono (by omega)
  · exact (unhide F9).2.2.2.1.mono (by omega)
  · exact (unhide F9).2.2.2.2.mono (by omega)
  · simp only [List.pairwise_cons, List.mem_cons, List.not_mem_nil, or_false, forall_eq_or_imp, forall_eq, List.Pairwise.nil, and_true, false_implies, implies_true]
    refine ⟨⟨?_, ?_, ?_, ?_⟩, ⟨?_, ?_, ?_⟩, ⟨?_, ?_⟩, ?_⟩
    · exact apart_iv il.1 is_.1 (by omega)
    · exact apart_iv il.1 iv.1 (by omega)
    · exact apart_iv il.1 in_.1 (by omega)
    · exact apart_iv il.1 im.1 (by omega)
    · exact apart_iv is_.1 iv.1 (by omega)
    · exact apart_iv is_.1 in_.1 (by omega)
    · exact apart_iv is_.1 im.1 (by omega)
    · exact apart_iv iv.1 in_.1 (by omega)
    · exact apart_iv iv.1 im.1 (by omega)
    · exact apart_iv in_.1 im.1 (by omega)
/-- An actor: a node that is its own, and what it sends (nothing yet). -/
structure Actor (B : Nat) (w : World) (b : Nat) (id tm vo ro cm el wt : Int) (up : Bool) (lv sv vv nv mv : Value) (lg : List En) (st vs nx mt : List Int) : Prop where
  bk : Blk w b [.int .i64 id, .int .i64 tm, .int .i64 vo, lv, sv, .int .i64 ro, vv, nv, mv, .int .i64 cm, .int .i64 el, .int .i64 wt, .bool up, .slice none 0 0]
  lo : B ≤ b
  no : NoO B w lv sv vv nv mv lg st vs nx mt
  ap : ∀ v ∈ [lv, sv, vv, nv, mv], v.ownBlock ≠ some b
set_option maxRecDepth 100000 in
set_option maxHeartbeats 4000000 in
theorem newActor_any (id tm vo ro cm el wt : Int) (up : Bool) (lg : List En) (st vs nx mt : List Int) (la : Option Addr) (lc : Nat) (sa : Option Addr) (sc : Nat) (va : Option Addr) (vc : Nat) (na : Option Addr) (nc : Nat) (ma : Option Addr) (mc : Nat) (w : World) (h : NoR w (.slice la lg.length lc) (.slice sa st.length sc) (.slice va vs.length vc) (.slice na nx.length nc) (.slice ma mt.length mc) lg st vs nx mt) (z0 : lg.length ≤ 4096) (z1 : st.length ≤ 4096) (z2 : vs.length ≤ 4096) (z3 : nx.length ≤ 4096) (z4 : mt.length ≤ 4096) :
    Calls Try.prog 28 #[.agg #[.int .i64 id, .int .i64 tm, .int .i64 vo, .slice la lg.length lc, .slice sa st.length sc, .int .i64 ro, .slice va vs.length vc, .slice na nx.length nc, .slice ma mt.length mc, .int .i64 cm, .int .i64 el, .int .i64 wt, .bool up]] w fun e w' => ∃ b la' lc' sa' sc' va' vc' na' nc' ma' mc', e = .returned (.pointer (some ⟨b, 0, none⟩)) ∧ Actor w.heap.size w' b id tm vo ro cm el wt up (.slice la' lg.length lc') (.slice sa' st.length sc') (.slice va' vs.length vc') (.slice na' nx.length nc') (.slice ma' mt.length mc') lg st vs nx mt ∧ Below w.heap.size w w' := by
  have HB := hide ((Below.refl w.heap.size w).alloc (Nat.le_refl _) (.cells #[.int .i64 id, .int .i64 tm, .int .i64 vo, .slice la lg.length lc, .slice sa st.length sc, .int .i64 ro, .slice va vs.length vc, .slice na nx.length nc, .slice ma mt.length mc, .int .i64 cm, .int .i64 el, .int .i64 wt, .bool up] 29))
  have HX := hide (fun wx (hx : Below w.heap.size w wx) => copyNode_any id tm vo ro cm el wt up lg st vs nx mt la lc sa sc va vc na nc ma mc wx (h.below hx) z0 z1 z2 z3 z4)
  clear h z0 z1 z2 z3 z4
  go_enter Try.func28, Try.ntmps28
  go_wp2_with fail
  generalize w.alloc (.cells #[.int .i64 id, .int .i64 tm, .int .i64 vo, .slice la lg.length lc, .slice sa st.length sc, .int .i64 ro, .slice va vs.length vc, .slice na nx.length nc, .slice ma mt.length mc, .int .i64 cm, .int .i64 el, .int .i64 wt, .bool up] 29) = w0 at *
  refine (unhide HX w0 (unhide HB)).mono ?_
  rintro e w1 ⟨la', lc', sa', sc', va', vc', na', nc', ma', mc', rfl, hO, hb⟩
  have hbs := (unhide HB).size
  have K1 := hide ((unhide HB).trans (hb.mono hbs))
  have HO := hide hO
  clear hO hb HX HB
  go_wp2_with fail
  go_ret
  have hk := (unhide K1).size
  refine ⟨w1.heap.size, la', lc', sa', sc', va', vc', na', nc', ma', mc', rfl, ⟨Blk.new w1 _ _ w1.heap.size rfl, by omega, ?_, ?_⟩, ?_⟩
  · have hn := (unhide HO).below ((Below.refl w1.heap.size w1).alloc (Nat.le_refl _) (.cells #[.int .i64 id, .int .i64 tm, .int .i64 vo, .slice la' lg.length lc', .slice sa' st.length sc', .int .i64 ro, .slice va' vs.length vc', .slice na' nx.length nc', .slice ma' mt.length mc', .int .i64 cm, .int .i64 el, .int .i64 wt, .bool up, .slice none 0 0] 54))
    exact ⟨World.ownsRow_monoE hn.lg hbs, hn.st.mono hbs, hn.vs.mono hbs, hn.nx.mono hbs, hn.mt.mono hbs, hn.ap⟩
  · have hn := unhide HO
    have b0 := World.ownsRow.lt hn.lg
    have b1 := hn.st.lt
    have b2 := hn.vs.lt
    have b3 := hn.nx.lt
    have b4 := hn.mt.lt
    intro v hv he
    simp only [List.mem_cons, List.not_mem_nil, or_false] at hv
    rcases hv with rfl | rfl | rfl | rfl | rfl
    · have := (b0 _ he).2; omega
    · have := (b1 _ he).2; omega
    · have := (b2 _ he).2; omega
    · have := (b3 _ he).2; omega
    · have := (b4 _ he).2; omega
  · exact (unhide K1).alloc hk _
end Go.Proofs.Ytglkgmijcefjkaa
