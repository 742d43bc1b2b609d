/- spec.l10Own, walked. (Written by py/nodl.py.) -/
import Derived.Test.YtljolldacpkeeaaHaa
import Derived.Deep.Cut
namespace Go.Proofs.Ytljolldacpkeeaa
open Go.ChangeShapes Go.WideShapes Go.ChangeAt Go.RowKit Go.Deep
set_option linter.unusedVariables false
set_option maxRecDepth 100000 in
set_option maxHeartbeats 4000000 in
theorem l10Own_any (id tm vo ro cm el wt : Int) (up : Bool) (lg : List En) (st vs nx mt : List Int) (la : Option Addr) (lc : Nat) (sa : Option Addr) (sc : Nat) (va : Option Addr) (vc : Nat) (na : Option Addr) (nc : Nat) (ma : Option Addr) (mc : Nat) (w : World) (h : NoR w (.slice la lg.length lc) (.slice sa st.length sc) (.slice va vs.length vc) (.slice na nx.length nc) (.slice ma mt.length mc) lg st vs nx mt) (z0 : lg.length ≤ 4096) (z1 : st.length ≤ 4096) (z2 : vs.length ≤ 4096) (z3 : nx.length ≤ 4096) (z4 : mt.length ≤ 4096) :
    Calls Try.prog 21 #[.agg #[.int .i64 id, .int .i64 tm, .int .i64 vo, .slice la lg.length lc, .slice sa st.length sc, .int .i64 ro, .slice va vs.length vc, .slice na nx.length nc, .slice ma mt.length mc, .int .i64 cm, .int .i64 el, .int .i64 wt, .bool up]] w fun e w' => CpNR id tm vo ro cm el wt up lg st vs nx mt w.heap.size w e w' := by
  obtain ⟨i0, hi, hz0, hz1, hz2⟩ := info_parts infoEn
  obtain ⟨j0, hj, hy0, hy1, hy2⟩ := info_parts info3
  have HR_ := hide h
  have hlen := ensC_len lg
  have HB := hide (((Below.refl w.heap.size w).alloc (Nat.le_refl _) (.cells #[.int .i64 id, .int .i64 tm, .int .i64 vo, .slice la lg.length lc, .slice sa st.length sc, .int .i64 ro, .slice va vs.length vc, .slice na nx.length nc, .slice ma mt.length mc, .int .i64 cm, .int .i64 el, .int .i64 wt, .bool up] 29)).alloc (by simp) (.cells #[.int .i64 0, .int .i64 0, .int .i64 0, .slice none 0 0, .slice none 0 0, .int .i64 0, .slice none 0 0, .slice none 0 0, .slice none 0 0, .int .i64 0, .int .i64 0, .int .i64 0, .bool false] 29))
  have HO := hide ((Blk.new w #[.int .i64 id, .int .i64 tm, .int .i64 vo, .slice la lg.length lc, .slice sa st.length sc, .int .i64 ro, .slice va vs.length vc, .slice na nx.length nc, .slice ma mt.length mc, .int .i64 cm, .int .i64 el, .int .i64 wt, .bool up] 29 w.heap.size rfl).alloc (.cells #[.int .i64 0, .int .i64 0, .int .i64 0, .slice none 0 0, .slice none 0 0, .int .i64 0, .slice none 0 0, .slice none 0 0, .slice none 0 0, .int .i64 0, .int .i64 0, .int .i64 0, .bool false] 29))
  have HR := hide (Blk.new (w.alloc (.cells #[.int .i64 id, .int .i64 tm, .int .i64 vo, .slice la lg.length lc, .slice sa st.length sc, .int .i64 ro, .slice va vs.length vc, .slice na nx.length nc, .slice ma mt.length mc, .int .i64 cm, .int .i64 el, .int .i64 wt, .bool up] 29)) #[.int .i64 0, .int .i64 0, .int .i64 0, .slice none 0 0, .slice none 0 0, .int .i64 0, .slice none 0 0, .slice none 0 0, .slice none 0 0, .int .i64 0, .int .i64 0, .int .i64 0, .bool false] 29 (w.heap.size + 1) (by simp))
  have HZ := hide (show w.heap.size + 2 ≤ ((w.alloc (.cells #[.int .i64 id, .int .i64 tm, .int .i64 vo, .slice la lg.length lc, .slice sa st.length sc, .int .i64 ro, .slice va vs.length vc, .slice na nx.length nc, .slice ma mt.length mc, .int .i64 cm, .int .i64 el, .int .i64 wt, .bool up] 29)).alloc (.cells #[.int .i64 0, .int .i64 0, .int .i64 0, .slice none 0 0, .slice none 0 0, .int .i64 0, .slice none 0 0, .slice none 0 0, .slice none 0 0, .int .i64 0, .int .i64 0, .int .i64 0, .bool false] 29)).heap.size by simp)
  clear h
  go_enter Try.func21, Try.ntmps21
  go_upto_region 1 with (fail)
  generalize (w.alloc (.cells #[.int .i64 id, .int .i64 tm, .int .i64 vo, .slice la lg.length lc, .slice sa st.length sc, .int .i64 ro, .slice va vs.length vc, .slice na nx.length nc, .slice ma mt.length mc, .int .i64 cm, .int .i64 el, .int .i64 wt, .bool up] 29)).alloc (.cells #[.int .i64 0, .int .i64 0, .int .i64 0, .slice none 0 0, .slice none 0 0, .int .i64 0, .slice none 0 0, .slice none 0 0, .slice none 0 0, .int .i64 0, .int .i64 0, .int .i64 0, .bool false] 29) = w0 at *
  have hz := unhide HZ
  have hkb := (unhide HB).size
  have OO1 := (unhide HO).alloc (.cells #[] 63)
  have oc1 := OO1.cell 3 rfl
  have HK1 := hide ((unhide HB).alloc hkb (.cells #[] 63))
  have HE := hide (own_noneE w0 w.heap.size w0.heap.size rfl hkb)
  have HRW := hide ((unhide HR_).below (unhide HK1)).lg.rw
  have HOO := hide OO1
  have hbase := (unhide HK1).size
  have HZW := hide hz
  clear OO1 hz hkb
  go_upto_region 2 with (at_builtin; refine wpList_append_row _ rfl _ _ _ rfl w.heap.size 63 i0 _ 3 32 Try.underlying27 hi hz0 hz1 hz2 rfl (by omega) (.slice (some ⟨w0.heap.size, 0, none⟩) 0 0) 0 [] rfl (unhide HE) (.slice la lg.length lc) lg.length (ensC lg) rfl (unhide HRW) hlen (ensC_one lg) (by unfold maxLen; omega) (by omega) hbase ?_; intro la' lc' w1 hown hgrow hat; rw [Nat.zero_add] at hown hat ⊢; have TT := (Touch.refl (fun q => q = w0.heap.size) (w0.alloc (.cells #[] 63))).grown hgrow (fun q e _ => by simp [Value.ownBlock] at e; exact e.symm); have O4 := (unhide HOO).kept TT (fun e => by have := unhide HZW; omega); have oc := O4.cell 3 rfl; have fc := O4.fro 3; have HA := hide (And.intro hown (And.intro hgrow (And.intro hat (And.intro TT O4)))); clear hown hgrow hat TT O4)
  obtain ⟨hown, hgrow, hat, TT, O4⟩ := unhide HA
  have hz := unhide HZW
  have hO : OwnE w.heap.size w1 (.slice la' lg.length lc') lg := by simpa [OwnE] using hown
  have hlt : ∀ q, (Value.slice la' lg.length lc').ownBlock = some q → w0.heap.size ≤ q ∧ q < w1.heap.size := fun q hq => by
    refine ⟨?_, (World.ownsRow.lt hO q hq).2⟩
    rcases hat with e | e
    · rw [hq] at e; simp [Value.ownBlock] at e; omega
    · rw [hq] at e; simp at e; omega
  have O5 := O4.set 3 (.slice la' lg.length lc') (by simp)
  have R5 := (((unhide HR).alloc (.cells #[] 63)).kept TT (fun e => by omega)).other (C := w.heap.size) 3 (.slice la' lg.length lc') (by omega)
  have B5 := ((unhide HK1).grown hgrow (unhide HK1).size (fun q e => by simp [Value.ownBlock] at e; omega)).setCell (p := ⟨w.heap.size, 3, none⟩) (Nat.le_refl _) (.slice la' lg.length lc')
  have T5 := (Touch.refl (fun q => q = w.heap.size) w1).setCell ⟨w.heap.size, 3, none⟩ (.slice la' lg.length lc') (fun _ => rfl)
  have TF := (Touch.refl (fun _ => False) w0).alloc (.cells #[] 63)
  have hbs : w0.heap.size ≤ w1.heap.size := by have := TT.size; simp at this; omega
  have Ul := hO.kept T5 (fun q hq e => by have := (hlt q hq).1; omega)
  have Il := hide (show (∀ q, (Value.slice la' lg.length lc').ownBlock = some q → w0.heap.size ≤ q ∧ q < w1.heap.size) ∧ w.heap.size + 1 < w0.heap.size from ⟨hlt, by omega⟩)
  have hsz : (w1.setCell ⟨w.heap.size, 3, none⟩ (.slice la' lg.length lc')).heap.size = w1.heap.size := by simp
  have Z5 := hide (show w.heap.size + 2 ≤ (w1.setCell ⟨w.heap.size, 3, none⟩ (.slice la' lg.length lc')).heap.size by rw [hsz]; omega)
  have Jl := hide (show w1.heap.size ≤ (w1.setCell ⟨w.heap.size, 3, none⟩ (.slice la' lg.length lc')).heap.size by rw [hsz]; exact Nat.le_refl _)
  have HO5 := hide O5
  have HR5 := hide R5
  have HB5 := hide B5
  have Nl := hide Ul
  clear O5 R5 B5 T5 TF hO hlt hz hsz hbs hown hgrow hat TT O4 HO HR HB HZ HZW oc fc oc1 HA HOO HRW HE HK1 hbase Ul 
  generalize (w1.setCell ⟨w.heap.size, 3, none⟩ (.slice la' lg.length lc')) = u1 at *
  have HO := hide (unhide HO5)
  clear HO5
  have HR := hide (unhide HR5)
  clear HR5
  have HB := hide (unhide HB5)
  clear HB5
  have HZ := hide (unhide Z5)
  clear Z5
  have Ml := hide (unhide Nl)
  clear Nl
  have Els := hide (unhide Jl)
  have hz := unhide HZ
  have hkb := (unhide HB).size
  have OO1 := (unhide HO).alloc (.cells #[] 3)
  have oc1 := OO1.cell 4 rfl
  have HK1 := hide ((unhide HB).alloc hkb (.cells #[] 3))
  have HE := hide (own_noneJ u1 w.heap.size u1.heap.size rfl hkb)
  have HRW := hide ((unhide HR_).below (unhide HK1)).st.rw
  have HOO := hide OO1
  have hbase := (unhide HK1).size
  have HZW := hide hz
  clear OO1 hz hkb
  go_upto_region 3 with (at_builtin; refine wpList_append_row _ rfl _ _ _ rfl w.heap.size 3 j0 _ 1 8 Try.underlying23 hj hy0 hy1 hy2 rfl (by omega) (.slice (some ⟨u1.heap.size, 0, none⟩) 0 0) 0 [] rfl (unhide HE) (.slice sa st.length sc) st.length (st.map (Value.int .i64)) rfl (unhide HRW) (by simp) (by intro u hu; simp only [List.mem_map] at hu; obtain ⟨s, _, rfl⟩ := hu; rfl) (by unfold maxLen; omega) (by omega) hbase ?_; intro sa' sc' w2 hown hgrow hat; rw [Nat.zero_add] at hown hat ⊢; have TT := (Touch.refl (fun q => q = u1.heap.size) (u1.alloc (.cells #[] 3))).grown hgrow (fun q e _ => by simp [Value.ownBlock] at e; exact e.symm); have O4 := (unhide HOO).kept TT (fun e => by have := unhide HZW; omega); have oc := O4.cell 4 rfl; have fc := O4.fro 4; have HA := hide (And.intro hown (And.intro hgrow (And.intro hat (And.intro TT O4)))); clear hown hgrow hat TT O4)
  obtain ⟨hown, hgrow, hat, TT, O4⟩ := unhide HA
  have hz := unhide HZW
  have hO : OwnI w.heap.size w2 (.slice sa' st.length sc') st := by simpa [OwnI] using hown
  have hlt : ∀ q, (Value.slice sa' st.length sc').ownBlock = some q → u1.heap.size ≤ q ∧ q < w2.heap.size := fun q hq => by
    refine ⟨?_, (hO.lt q hq).2⟩
    rcases hat with e | e
    · rw [hq] at e; simp [Value.ownBlock] at e; omega
    · rw [hq] at e; simp at e; omega
  have O5 := O4.set 4 (.slice sa' st.length sc') (by simp)
  have R5 := (((unhide HR).alloc (.cells #[] 3)).kept TT (fun e => by omega)).other (C := w.heap.size) 4 (.slice sa' st.length sc') (by omega)
  have B5 := ((unhide HK1).grown hgrow (unhide HK1).size (fun q e => by simp [Value.ownBlock] at e; omega)).setCell (p := ⟨w.heap.size, 4, none⟩) (Nat.le_refl _) (.slice sa' st.length sc')
  have T5 := (Touch.refl (fun q => q = w.heap.size) w2).setCell ⟨w.heap.size, 4, none⟩ (.slice sa' st.length sc') (fun _ => rfl)
  have TF := (Touch.refl (fun _ => False) u1).alloc (.cells #[] 3)
  have hbs : u1.heap.size ≤ w2.heap.size := by have := TT.size; simp at this; omega
  have Ul := (((unhide Ml).kept TF (fun _ _ e => e)).kept TT (fun q hq e => by have := (unhide Il).1 q hq; have := unhide Jl; omega)).kept T5 (fun q hq e => by have := (unhide Il).1 q hq; have := (unhide Il).2; omega)
  have Us := hO.kept T5 (fun q hq e => by have := (hlt q hq).1; omega)
  have Is := hide (show (∀ q, (Value.slice sa' st.length sc').ownBlock = some q → u1.heap.size ≤ q ∧ q < w2.heap.size) ∧ w.heap.size + 1 < u1.heap.size from ⟨hlt, by omega⟩)
  have hsz : (w2.setCell ⟨w.heap.size, 4, none⟩ (.slice sa' st.length sc')).heap.size = w2.heap.size := by simp
  have Z5 := hide (show w.heap.size + 2 ≤ (w2.setCell ⟨w.heap.size, 4, none⟩ (.slice sa' st.length sc')).heap.size by rw [hsz]; omega)
  have Js := hide (show w2.heap.size ≤ (w2.setCell ⟨w.heap.size, 4, none⟩ (.slice sa' st.length sc')).heap.size by rw [hsz]; exact Nat.le_refl _)
  have J2l := hide (Nat.le_trans (unhide Jl) (show u1.heap.size ≤ (w2.setCell ⟨w.heap.size, 4, none⟩ (.slice sa' st.length sc')).heap.size by rw [hsz]; exact hbs))
  have HO5 := hide O5
  have HR5 := hide R5
  have HB5 := hide B5
  have Nl := hide Ul
  have Ns := hide Us
  clear O5 R5 B5 T5 TF hO hlt hz hsz hbs hown hgrow hat TT O4 HO HR HB HZ HZW oc fc oc1 HA HOO HRW HE HK1 hbase Ul Us Ml Jl
  generalize (w2.setCell ⟨w.heap.size, 4, none⟩ (.slice sa' st.length sc')) = u2 at *
  have HO := hide (unhide HO5)
  clear HO5
  have HR := hide (unhide HR5)
  clear HR5
  have HB := hide (unhide HB5)
  clear HB5
  have HZ := hide (unhide Z5)
  clear Z5
  have Ml := hide (unhide Nl)
  clear Nl
  have Ms := hide (unhide Ns)
  clear Ns
  have Jl := hide (unhide J2l)
  clear J2l
  have Elv := hide (unhide Jl)
  have Esv := hide (unhide Js)
  have hz := unhide HZ
  have hkb := (unhide HB).size
  have OO1 := (unhide HO).alloc (.cells #[] 3)
  have oc1 := OO1.cell 6 rfl
  have HK1 := hide ((unhide HB).alloc hkb (.cells #[] 3))
  have HE := hide (own_noneJ u2 w.heap.size u2.heap.size rfl hkb)
  have HRW := hide ((unhide HR_).below (unhide HK1)).vs.rw
  have HOO := hide OO1
  have hbase := (unhide HK1).size
  have HZW := hide hz
  clear OO1 hz hkb
  go_upto_region 4 with (at_builtin; refine wpList_append_row _ rfl _ _ _ rfl w.heap.size 3 j0 _ 1 8 Try.underlying23 hj hy0 hy1 hy2 rfl (by omega) (.slice (some ⟨u2.heap.size, 0, none⟩) 0 0) 0 [] rfl (unhide HE) (.slice va vs.length vc) vs.length (vs.map (Value.int .i64)) rfl (unhide HRW) (by simp) (by intro u hu; simp only [List.mem_map] at hu; obtain ⟨s, _, rfl⟩ := hu; rfl) (by unfold maxLen; omega) (by omega) hbase ?_; intro va' vc' w3 hown hgrow hat; rw [Nat.zero_add] at hown hat ⊢; have TT := (Touch.refl (fun q => q = u2.heap.size) (u2.alloc (.cells #[] 3))).grown hgrow (fun q e _ => by simp [Value.ownBlock] at e; exact e.symm); have O4 := (unhide HOO).kept TT (fun e => by have := unhide HZW; omega); have oc := O4.cell 6 rfl; have fc := O4.fro 6; have HA := hide (And.intro hown (And.intro hgrow (And.intro hat (And.intro TT O4)))); clear hown hgrow hat TT O4)
  obtain ⟨hown, hgrow, hat, TT, O4⟩ := unhide HA
  have hz := unhide HZW
  have hO : OwnI w.heap.size w3 (.slice va' vs.length vc') vs := by simpa [OwnI] using hown
  have hlt : ∀ q, (Value.slice va' vs.length vc').ownBlock = some q → u2.heap.size ≤ q ∧ q < w3.heap.size := fun q hq => by
    refine ⟨?_, (hO.lt q hq).2⟩
    rcases hat with e | e
    · rw [hq] at e; simp [Value.ownBlock] at e; omega
    · rw [hq] at e; simp at e; omega
  have O5 := O4.set 6 (.slice va' vs.length vc') (by simp)
  have R5 := (((unhide HR).alloc (.cells #[] 3)).kept TT (fun e => by omega)).other (C := w.heap.size) 6 (.slice va' vs.length vc') (by omega)
  have B5 := ((unhide HK1).grown hgrow (unhide HK1).size (fun q e => by simp [Value.ownBlock] at e; omega)).setCell (p := ⟨w.heap.size, 6, none⟩) (Nat.le_refl _) (.slice va' vs.length vc')
  have T5 := (Touch.refl (fun q => q = w.heap.size) w3).setCell ⟨w.heap.size, 6, none⟩ (.slice va' vs.length vc') (fun _ => rfl)
  have TF := (Touch.refl (fun _ => False) u2).alloc (.cells #[] 3)
  have hbs : u2.heap.size ≤ w3.heap.size := by have := TT.size; simp at this; omega
  have Ul := (((unhide Ml).kept TF (fun _ _ e => e)).kept TT (fun q hq e => by have := (unhide Il).1 q hq; have := unhide Jl; omega)).kept T5 (fun q hq e => by have := (unhide Il).1 q hq; have := (unhide Il).2; omega)
  have Us := (((unhide Ms).kept TF (fun _ _ e => e)).kept TT (fun q hq e => by have := (unhide Is).1 q hq; have := unhide Js; omega)).kept T5 (fun q hq e => by have := (unhide Is).1 q hq; have := (unhide Is).2; omega)
  have Uv := hO.kept T5 (fun q hq e => by have := (hlt q hq).1; omega)
  have Iv := hide (show (∀ q, (Value.slice va' vs.length vc').ownBlock = some q → u2.heap.size ≤ q ∧ q < w3.heap.size) ∧ w.heap.size + 1 < u2.heap.size from ⟨hlt, by omega⟩)
  have hsz : (w3.setCell ⟨w.heap.size, 6, none⟩ (.slice va' vs.length vc')).heap.size = w3.heap.size := by simp
  have Z5 := hide (show w.heap.size + 2 ≤ (w3.setCell ⟨w.heap.size, 6, none⟩ (.slice va' vs.length vc')).heap.size by rw [hsz]; omega)
  have Jv := hide (show w3.heap.size ≤ (w3.setCell ⟨w.heap.size, 6, none⟩ (.slice va' vs.length vc')).heap.size by rw [hsz]; exact Nat.le_refl _)
  have J2l := hide (Nat.le_trans (unhide Jl) (show u2.heap.size ≤ (w3.setCell ⟨w.heap.size, 6, none⟩ (.slice va' vs.length vc')).heap.size by rw [hsz]; exact hbs))
  have J2s := hide (Nat.le_trans (unhide Js) (show u2.heap.size ≤ (w3.setCell ⟨w.heap.size, 6, none⟩ (.slice va' vs.length vc')).heap.size by rw [hsz]; exact hbs))
  have HO5 := hide O5
  have HR5 := hide R5
  have HB5 := hide B5
  have Nl := hide Ul
  have Ns := hide Us
  have Nv := hide Uv
  clear O5 R5 B5 T5 TF hO hlt hz hsz hbs hown hgrow hat TT O4 HO HR HB HZ HZW oc fc oc1 HA HOO HRW HE HK1 hbase Ul Us Uv Ml Jl Ms Js
  generalize (w3.setCell ⟨w.heap.size, 6, none⟩ (.slice va' vs.length vc')) = u3 at *
  have HO := hide (unhide HO5)
  clear HO5
  have HR := hide (unhide HR5)
  clear HR5
  have HB := hide (unhide HB5)
  clear HB5
  have HZ := hide (unhide Z5)
  clear Z5
  have Ml := hide (unhide Nl)
  clear Nl
  have Ms := hide (unhide Ns)
  clear Ns
  have Mv := hide (unhide Nv)
  clear Nv
  have Jl := hide (unhide J2l)
  clear J2l
  have Js := hide (unhide J2s)
  clear J2s
  have Eln := hide (unhide Jl)
  have Esn := hide (unhide Js)
  have Evn := hide (unhide Jv)
  have hz := unhide HZ
  have hkb := (unhide HB).size
  have OO1 := (unhide HO).alloc (.cells #[] 3)
  have oc1 := OO1.cell 7 rfl
  have HK1 := hide ((unhide HB).alloc hkb (.cells #[] 3))
  have HE := hide (own_noneJ u3 w.heap.size u3.heap.size rfl hkb)
  have HRW := hide ((unhide HR_).below (unhide HK1)).nx.rw
  have HOO := hide OO1
  have hbase := (unhide HK1).size
  have HZW := hide hz
  clear OO1 hz hkb
  go_upto_region 5 with (at_builtin; refine wpList_append_row _ rfl _ _ _ rfl w.heap.size 3 j0 _ 1 8 Try.underlying23 hj hy0 hy1 hy2 rfl (by omega) (.slice (some ⟨u3.heap.size, 0, none⟩) 0 0) 0 [] rfl (unhide HE) (.slice na nx.length nc) nx.length (nx.map (Value.int .i64)) rfl (unhide HRW) (by simp) (by intro u hu; simp only [List.mem_map] at hu; obtain ⟨s, _, rfl⟩ := hu; rfl) (by unfold maxLen; omega) (by omega) hbase ?_; intro na' nc' w4 hown hgrow hat; rw [Nat.zero_add] at hown hat ⊢; have TT := (Touch.refl (fun q => q = u3.heap.size) (u3.alloc (.cells #[] 3))).grown hgrow (fun q e _ => by simp [Value.ownBlock] at e; exact e.symm); have O4 := (unhide HOO).kept TT (fun e => by have := unhide HZW; omega); have oc := O4.cell 7 rfl; have fc := O4.fro 7; have HA := hide (And.intro hown (And.intro hgrow (And.intro hat (And.intro TT O4)))); clear hown hgrow hat TT O4)
  obtain ⟨hown, hgrow, hat, TT, O4⟩ := unhide HA
  have hz := unhide HZW
  have hO : OwnI w.heap.size w4 (.slice na' nx.length nc') nx := by simpa [OwnI] using hown
  have hlt : ∀ q, (Value.slice na' nx.length nc').ownBlock = some q → u3.heap.size ≤ q ∧ q < w4.heap.size := fun q hq => by
    refine ⟨?_, (hO.lt q hq).2⟩
    rcases hat with e | e
    · rw [hq] at e; simp [Value.ownBlock] at e; omega
    · rw [hq] at e; simp at e; omega
  have O5 := O4.set 7 (.slice na' nx.length nc') (by simp)
  have R5 := (((unhide HR).alloc (.cells #[] 3)).kept TT (fun e => by omega)).other (C := w.heap.size) 7 (.slice na' nx.length nc') (by omega)
  have B5 := ((unhide HK1).grown hgrow (unhide HK1).size (fun q e => by simp [Value.ownBlock] at e; omega)).setCell (p := ⟨w.heap.size, 7, none⟩) (Nat.le_refl _) (.slice na' nx.length nc')
  have T5 := (Touch.refl (fun q => q = w.heap.size) w4).setCell ⟨w.heap.size, 7, none⟩ (.slice na' nx.length nc') (fun _ => rfl)
  have TF := (Touch.refl (fun _ => False) u3).alloc (.cells #[] 3)
  have hbs : u3.heap.size ≤ w4.heap.size := by have := TT.size; simp at this; omega
  have Ul := (((unhide Ml).kept TF (fun _ _ e => e)).kept TT (fun q hq e => by have := (unhide Il).1 q hq; have := unhide Jl; omega)).kept T5 (fun q hq e => by have := (unhide Il).1 q hq; have := (unhide Il).2; omega)
  have Us := (((unhide Ms).kept TF (fun _ _ e => e)).kept TT (fun q hq e => by have := (unhide Is).1 q hq; have := unhide Js; omega)).kept T5 (fun q hq e => by have := (unhide Is).1 q hq; have := (unhide Is).2; omega)
  have Uv := (((unhide Mv).kept TF (fun _ _ e => e)).kept TT (fun q hq e => by have := (unhide Iv).1 q hq; have := unhide Jv; omega)).kept T5 (fun q hq e => by have := (unhide Iv).1 q hq; have := (unhide Iv).2; omega)
  have Un := hO.kept T5 (fun q hq e => by have := (hlt q hq).1; omega)
  have In := hide (show (∀ q, (Value.slice na' nx.length nc').ownBlock = some q → u3.heap.size ≤ q ∧ q < w4.heap.size) ∧ w.heap.size + 1 < u3.heap.size from ⟨hlt, by omega⟩)
  have hsz : (w4.setCell ⟨w.heap.size, 7, none⟩ (.slice na' nx.length nc')).heap.size = w4.heap.size := by simp
  have Z5 := hide (show w.heap.size + 2 ≤ (w4.setCell ⟨w.heap.size, 7, none⟩ (.slice na' nx.length nc')).heap.size by rw [hsz]; omega)
  have Jn := hide (show w4.heap.size ≤ (w4.setCell ⟨w.heap.size, 7, none⟩ (.slice na' nx.length nc')).heap.size by rw [hsz]; exact Nat.le_refl _)
  have J2l := hide (Nat.le_trans (unhide Jl) (show u3.heap.size ≤ (w4.setCell ⟨w.heap.size, 7, none⟩ (.slice na' nx.length nc')).heap.size by rw [hsz]; exact hbs))
  have J2s := hide (Nat.le_trans (unhide Js) (show u3.heap.size ≤ (w4.setCell ⟨w.heap.size, 7, none⟩ (.slice na' nx.length nc')).heap.size by rw [hsz]; exact hbs))
  have J2v := hide (Nat.le_trans (unhide Jv) (show u3.heap.size ≤ (w4.setCell ⟨w.heap.size, 7, none⟩ (.slice na' nx.length nc')).heap.size by rw [hsz]; exact hbs))
  have HO5 := hide O5
  have HR5 := hide R5
  have HB5 := hide B5
  have Nl := hide Ul
  have Ns := hide Us
  have Nv := hide Uv
  have Nn := hide Un
  clear O5 R5 B5 T5 TF hO hlt hz hsz hbs hown hgrow hat TT O4 HO HR HB HZ HZW oc fc oc1 HA HOO HRW HE HK1 hbase Ul Us Uv Un Ml Jl Ms Js Mv Jv
  generalize (w4.setCell ⟨w.heap.size, 7, none⟩ (.slice na' nx.length nc')) = u4 at *
  have HO := hide (unhide HO5)
  clear HO5
  have HR := hide (unhide HR5)
  clear HR5
  have HB := hide (unhide HB5)
  clear HB5
  have HZ := hide (unhide Z5)
  clear Z5
  have Ml := hide (unhide Nl)
  clear Nl
  have Ms := hide (unhide Ns)
  clear Ns
  have Mv := hide (unhide Nv)
  clear Nv
  have Mn := hide (unhide Nn)
  clear Nn
  have Jl := hide (unhide J2l)
  clear J2l
  have Js := hide (unhide J2s)
  clear J2s
  have Jv := hide (unhide J2v)
  clear J2v
  have Elm := hide (unhide Jl)
  have Esm := hide (unhide Js)
  have Evm := hide (unhide Jv)
  have Enm := hide (unhide Jn)
  have hz := unhide HZ
  have hkb := (unhide HB).size
  have OO1 := (unhide HO).alloc (.cells #[] 3)
  have oc1 := OO1.cell 8 rfl
  have HK1 := hide ((unhide HB).alloc hkb (.cells #[] 3))
  have HE := hide (own_noneJ u4 w.heap.size u4.heap.size rfl hkb)
  have HRW := hide ((unhide HR_).below (unhide HK1)).mt.rw
  have HOO := hide OO1
  have hbase := (unhide HK1).size
  have HZW := hide hz
  clear OO1 hz hkb
  go_upto_region 6 with (at_builtin; refine wpList_append_row _ rfl _ _ _ rfl w.heap.size 3 j0 _ 1 8 Try.underlying23 hj hy0 hy1 hy2 rfl (by omega) (.slice (some ⟨u4.heap.size, 0, none⟩) 0 0) 0 [] rfl (unhide HE) (.slice ma mt.length mc) mt.length (mt.map (Value.int .i64)) rfl (unhide HRW) (by simp) (by intro u hu; simp only [List.mem_map] at hu; obtain ⟨s, _, rfl⟩ := hu; rfl) (by unfold maxLen; omega) (by omega) hbase ?_; intro ma' mc' w5 hown hgrow hat; rw [Nat.zero_add] at hown hat ⊢; have TT := (Touch.refl (fun q => q = u4.heap.size) (u4.alloc (.cells #[] 3))).grown hgrow (fun q e _ => by simp [Value.ownBlock] at e; exact e.symm); have O4 := (unhide HOO).kept TT (fun e => by have := unhide HZW; omega); have oc := O4.cell 8 rfl; have fc := O4.fro 8; have HA := hide (And.intro hown (And.intro hgrow (And.intro hat (And.intro TT O4)))); clear hown hgrow hat TT O4)
  obtain ⟨hown, hgrow, hat, TT, O4⟩ := unhide HA
  have hz := unhide HZW
  have hO : OwnI w.heap.size w5 (.slice ma' mt.length mc') mt := by simpa [OwnI] using hown
  have hlt : ∀ q, (Value.slice ma' mt.length mc').ownBlock = some q → u4.heap.size ≤ q ∧ q < w5.heap.size := fun q hq => by
    refine ⟨?_, (hO.lt q hq).2⟩
    rcases hat with e | e
    · rw [hq] at e; simp [Value.ownBlock] at e; omega
    · rw [hq] at e; simp at e; omega
  have O5 := O4.set 8 (.slice ma' mt.length mc') (by simp)
  have R5 := (((unhide HR).alloc (.cells #[] 3)).kept TT (fun e => by omega)).other (C := w.heap.size) 8 (.slice ma' mt.length mc') (by omega)
  have B5 := ((unhide HK1).grown hgrow (unhide HK1).size (fun q e => by simp [Value.ownBlock] at e; omega)).setCell (p := ⟨w.heap.size, 8, none⟩) (Nat.le_refl _) (.slice ma' mt.length mc')
  have T5 := (Touch.refl (fun q => q = w.heap.size) w5).setCell ⟨w.heap.size, 8, none⟩ (.slice ma' mt.length mc') (fun _ => rfl)
  have TF := (Touch.refl (fun _ => False) u4).alloc (.cells #[] 3)
  have hbs : u4.heap.size ≤ w5.heap.size := by have := TT.size; simp at this; omega
  have Ul := (((unhide Ml).kept TF (fun _ _ e => e)).kept TT (fun q hq e => by have := (unhide Il).1 q hq; have := unhide Jl; omega)).kept T5 (fun q hq e => by have := (unhide Il).1 q hq; have := (unhide Il).2; omega)
  have Us := (((unhide Ms).kept TF (fun _ _ e => e)).kept TT (fun q hq e => by have := (unhide Is).1 q hq; have := unhide Js; omega)).kept T5 (fun q hq e => by have := (unhide Is).1 q hq; have := (unhide Is).2; omega)
  have Uv := (((unhide Mv).kept TF (fun _ _ e => e)).kept TT (fun q hq e => by have := (unhide Iv).1 q hq; have := unhide Jv; omega)).kept T5 (fun q hq e => by have := (unhide Iv).1 q hq; have := (unhide Iv).2; omega)
  have Un := (((unhide Mn).kept TF (fun _ _ e => e)).kept TT (fun q hq e => by have := (unhide In).1 q hq; have := unhide Jn; omega)).kept T5 (fun q hq e => by have := (unhide In).1 q hq; have := (unhide In).2; omega)
  have Um := hO.kept T5 (fun q hq e => by have := (hlt q hq).1; omega)
  have Im := hide (show (∀ q, (Value.slice ma' mt.length mc').ownBlock = some q → u4.heap.size ≤ q ∧ q < w5.heap.size) ∧ w.heap.size + 1 < u4.heap.size from ⟨hlt, by omega⟩)
  have o50 := O5.cell 0 rfl
  have o51 := O5.cell 1 rfl
  have o52 := O5.cell 2 rfl
  have o53 := O5.cell 3 rfl
  have o54 := O5.cell 4 rfl
  have o55 := O5.cell 5 rfl
  have o56 := O5.cell 6 rfl
  have o57 := O5.cell 7 rfl
  have o58 := O5.cell 8 rfl
  have o59 := O5.cell 9 rfl
  have o510 := O5.cell 10 rfl
  have o511 := O5.cell 11 rfl
  have o512 := O5.cell 12 rfl
  have r50 := R5.cell 0 rfl
  have fr0 := R5.fro 0
  have r51 := R5.cell 1 rfl
  have fr1 := R5.fro 1
  have r52 := R5.cell 2 rfl
  have fr2 := R5.fro 2
  have r53 := R5.cell 3 rfl
  have fr3 := R5.fro 3
  have r54 := R5.cell 4 rfl
  have fr4 := R5.fro 4
  have r55 := R5.cell 5 rfl
  have fr5 := R5.fro 5
  have r56 := R5.cell 6 rfl
  have fr6 := R5.fro 6
  have r57 := R5.cell 7 rfl
  have fr7 := R5.fro 7
  have r58 := R5.cell 8 rfl
  have fr8 := R5.fro 8
  have r59 := R5.cell 9 rfl
  have fr9 := R5.fro 9
  have r510 := R5.cell 10 rfl
  have fr10 := R5.fro 10
  have r511 := R5.cell 11 rfl
  have fr11 := R5.fro 11
  have r512 := R5.cell 12 rfl
  have fr12 := R5.fro 12
  have HR9 := hide (((((((((((((R5.set 0 (.int .i64 id) (by simp)).set 1 (.int .i64 tm) (by simp)).set 2 (.int .i64 vo) (by simp)).set 3 (.slice la' lg.length lc') (by simp)).set 4 (.slice sa' st.length sc') (by simp)).set 5 (.int .i64 ro) (by simp)).set 6 (.slice va' vs.length vc') (by simp)).set 7 (.slice na' nx.length nc') (by simp)).set 8 (.slice ma' mt.length mc') (by simp)).set 9 (.int .i64 cm) (by simp)).set 10 (.int .i64 el) (by simp)).set 11 (.int .i64 wt) (by simp)).set 12 (.bool up) (by simp))
  have B9 := hide (((((((((((((B5.setCell (p := ⟨w.heap.size + 1, 0, none⟩) (by simp) (.int .i64 id)).setCell (p := ⟨w.heap.size + 1, 1, none⟩) (by simp) (.int .i64 tm)).setCell (p := ⟨w.heap.size + 1, 2, none⟩) (by simp) (.int .i64 vo)).setCell (p := ⟨w.heap.size + 1, 3, none⟩) (by simp) (.slice la' lg.length lc')).setCell (p := ⟨w.heap.size + 1, 4, none⟩) (by simp) (.slice sa' st.length sc')).setCell (p := ⟨w.heap.size + 1, 5, none⟩) (by simp) (.int .i64 ro)).setCell (p := ⟨w.heap.size + 1, 6, none⟩) (by simp) (.slice va' vs.length vc')).setCell (p := ⟨w.heap.size + 1, 7, none⟩) (by simp) (.slice na' nx.length nc')).setCell (p := ⟨w.heap.size + 1, 8, none⟩) (by simp) (.slice ma' mt.length mc')).setCell (p := ⟨w.heap.size + 1, 9, none⟩) (by simp) (.int .i64 cm)).setCell (p := ⟨w.heap.size + 1, 10, none⟩) (by simp) (.int .i64 el)).setCell (p := ⟨w.heap.size + 1, 11, none⟩) (by simp) (.int .i64 wt)).setCell (p := ⟨w.heap.size + 1, 12, none⟩) (by simp) (.bool up))
  have T9 := ((((((((((((((Touch.refl (fun q => q = w.heap.size + 1) (w5.setCell ⟨w.heap.size, 8, none⟩ (.slice ma' mt.length mc'))).setCell ⟨w.heap.size + 1, 0, none⟩ (.int .i64 id) (fun _ => rfl)).setCell ⟨w.heap.size + 1, 1, none⟩ (.int .i64 tm) (fun _ => rfl)).setCell ⟨w.heap.size + 1, 2, none⟩ (.int .i64 vo) (fun _ => rfl)).setCell ⟨w.heap.size + 1, 3, none⟩ (.slice la' lg.length lc') (fun _ => rfl)).setCell ⟨w.heap.size + 1, 4, none⟩ (.slice sa' st.length sc') (fun _ => rfl)).setCell ⟨w.heap.size + 1, 5, none⟩ (.int .i64 ro) (fun _ => rfl)).setCell ⟨w.heap.size + 1, 6, none⟩ (.slice va' vs.length vc') (fun _ => rfl)).setCell ⟨w.heap.size + 1, 7, none⟩ (.slice na' nx.length nc') (fun _ => rfl)).setCell ⟨w.heap.size + 1, 8, none⟩ (.slice ma' mt.length mc') (fun _ => rfl)).setCell ⟨w.heap.size + 1, 9, none⟩ (.int .i64 cm) (fun _ => rfl)).setCell ⟨w.heap.size + 1, 10, none⟩ (.int .i64 el) (fun _ => rfl)).setCell ⟨w.heap.size + 1, 11, none⟩ (.int .i64 wt) (fun _ => rfl)).setCell ⟨w.heap.size + 1, 12, none⟩ (.bool up) (fun _ => rfl))
  have Vl := Ul.kept T9 (fun q hq e => by have := (unhide Il).1 q hq; have := (unhide Il).2; omega)
  have Vs := Us.kept T9 (fun q hq e => by have := (unhide Is).1 q hq; have := (unhide Is).2; omega)
  have Vv := Uv.kept T9 (fun q hq e => by have := (unhide Iv).1 q hq; have := (unhide Iv).2; omega)
  have Vn := Un.kept T9 (fun q hq e => by have := (unhide In).1 q hq; have := (unhide In).2; omega)
  have Vm := Um.kept T9 (fun q hq e => by have := (unhide Im).1 q hq; have := (unhide Im).2; omega)
  have F9 := hide (And.intro Vl (And.intro Vs (And.intro Vv (And.intro Vn Vm))))
  have e5 := hbs
  have HBS := hide e5
  clear O5 R5 B5 T5 T9 TF hO hlt hz hown hgrow hat TT O4 Ul Us Uv Un Um Vl Vs Vv Vn Vm HO HR HB HZ Ml Ms Mv Mn hbs e5 oc fc oc1 HA HOO HRW HE HK1 HZW
  go_wp2_with fail
  have R9 := unhide HR9
  have z0 := R9.cell 0 rfl
  have z1 := R9.cell 1 rfl
  have z2 := R9.cell 2 rfl
  have z3 := R9.cell 3 rfl
  have z4 := R9.cell 4 rfl
  have z5 := R9.cell 5 rfl
  have z6 := R9.cell 6 rfl
  have z7 := R9.cell 7 rfl
  have z8 := R9.cell 8 rfl
  have z9 := R9.cell 9 rfl
  have z10 := R9.cell 10 rfl
  have z11 := R9.cell 11 rfl
  have z12 := R9.cell 12 rfl
  refine bodyPost_ret (v := .agg #[.int .i64 id, .int .i64 tm, .int .i64 vo, .slice la' lg.length lc', .slice sa' st.length sc', .int .i64 ro, .slice va' vs.length vc', .slice na' nx.length nc', .slice ma' mt.length mc', .int .i64 cm, .int .i64 el, .int .i64 wt, .bool up]) (by simp [results, Try.results21, go_sem, z0, z1, z2, z3, z4, z5, z6, z7, z8, z9, z10, z11, z12]) rfl ?_
  have il := unhide Il
  have is_ := unhide Is
  have iv := unhide Iv
  have in_ := unhide In
  have im := unhide Im
  refine ⟨la', lc', sa', sc', va', vc', na', nc', ma', mc', rfl, ⟨(unhide F9).1, (unhide F9).2.1, (unhide F9).2.2.1, (unhide F9).2.2.2.1, (unhide F9).2.2.2.2, ?_⟩, unhide B9⟩
  simp only [List.pairwise_cons, List.mem_cons, List.not_mem_nil, or_false, forall_eq_or_imp, forall_eq, List.Pairwise.nil, and_true, false_implies, implies_true]
  refine ⟨⟨?_, ?_, ?_, ?_⟩, ⟨?_, ?_, ?_⟩, ⟨?_, ?_⟩, ?_⟩
  · exact apart_iv il.1 is_.1 (unhide Els)
  · exact apart_iv il.1 iv.1 (unhide Elv)
  · exact apart_iv il.1 in_.1 (unhide Eln)
  · exact apart_iv il.1 im.1 (unhide Elm)
  · exact apart_iv is_.1 iv.1 (unhide Esv)
  · exact apart_iv is_.1 in_.1 (unhide Esn)
  · exact apart_iv is_.1 im.1 (unhide Esm)
  · exact apart_iv iv.1 in_.1 (unhide Evn)
  · exact apart_iv iv.1 im.1 (unhide Evm)
  · exact apart_iv in_.1 im.1 (unhide Enm)
end Go.Proofs.Ytljolldacpkeeaa
