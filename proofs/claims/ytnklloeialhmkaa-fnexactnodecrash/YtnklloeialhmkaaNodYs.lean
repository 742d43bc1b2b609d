/- spec.l10Crash, spec.NodeCrash, walked. (Written by py/nody.py.) -/
import Derived.Test.YtnklloeialhmkaaNodY
namespace Go.Proofs.Ytnklloeialhmkaa
open Go.ChangeShapes Go.WideShapes Go.ChangeAt Go.RowKit Go.Deep
set_option linter.unusedVariables false

theorem node_id {id tm vo ro cm el wt : Int} {up : Bool} {lg : List En} {st vs nx mt : List Int} (h : nodeB id tm vo ro cm el wt up lg st vs nx mt = true) : 0 ≤ id ∧ id ≤ 6 := by
  unfold nodeB at h
  simp only [Bool.and_eq_true] at h
  exact inB_iff.1 h.1
set_option maxRecDepth 100000 in
set_option maxHeartbeats 4000000 in
theorem l10Crash_any (id tm vo ro cm el wt : Int) (up : Bool) (lg : List En) (st vs nx mt : List Int) (la : Option Addr) (lc : Nat) (sa : Option Addr) (sc : Nat) (va : Option Addr) (vc : Nat) (na : Option Addr) (nc : Nat) (ma : Option Addr) (mc : Nat) (w : World) (h : NoR w (.slice la lg.length lc) (.slice sa st.length sc) (.slice va vs.length vc) (.slice na nx.length nc) (.slice ma mt.length mc) lg st vs nx mt) (hid : 0 ≤ id ∧ id ≤ 6) (z0 : lg.length ≤ 4096) (z1 : st.length ≤ 4096) :
    Calls Try.prog 62 #[.agg #[.int .i64 id, .int .i64 tm, .int .i64 vo, .slice la lg.length lc, .slice sa st.length sc, .int .i64 ro, .slice va vs.length vc, .slice na nx.length nc, .slice ma mt.length mc, .int .i64 cm, .int .i64 el, .int .i64 wt, .bool up]] w fun e w' => ∃ al_ cl_ a1 c1 g12 an cn g15, e = .returned (.agg #[.int .i64 id, .int .i64 tm, .int .i64 vo, .slice al_ lg.length cl_, .slice a1 st.length c1, .int .i64 0, .slice (some ⟨g12, 0, none⟩) 0 0, .slice an 7 cn, .slice (some ⟨g15, 0, none⟩) 7 7, .int .i64 0, .int .i64 0, .int .i64 wt, .bool false]) ∧ NoO w.heap.size w' (.slice al_ lg.length cl_) (.slice a1 st.length c1) (.slice (some ⟨g12, 0, none⟩) 0 0) (.slice an 7 cn) (.slice (some ⟨g15, 0, none⟩) 7 7) lg st [] (List.replicate 7 1) (List.replicate 7 0) ∧ Below w.heap.size w w' := by
  obtain ⟨i0, hi, hz0, hz1, hz2⟩ := info_parts infoEn
  have B0 := hide (((Below.refl w.heap.size w).alloc (Nat.le_refl _) (.cells #[.int .i64 id, .int .i64 tm, .int .i64 vo, .slice la lg.length lc, .slice sa st.length sc, .int .i64 ro, .slice va vs.length vc, .slice na nx.length nc, .slice ma mt.length mc, .int .i64 cm, .int .i64 el, .int .i64 wt, .bool up] 25)).alloc (by simp) (.cells #[.int .i64 0, .int .i64 0, .int .i64 0, .slice none 0 0, .slice none 0 0, .int .i64 0, .slice none 0 0, .slice none 0 0, .slice none 0 0, .int .i64 0, .int .i64 0, .int .i64 0, .bool false] 25))
  have X0 := hide ((Blk.new w #[.int .i64 id, .int .i64 tm, .int .i64 vo, .slice la lg.length lc, .slice sa st.length sc, .int .i64 ro, .slice va vs.length vc, .slice na nx.length nc, .slice ma mt.length mc, .int .i64 cm, .int .i64 el, .int .i64 wt, .bool up] 25 w.heap.size rfl).alloc (.cells #[.int .i64 0, .int .i64 0, .int .i64 0, .slice none 0 0, .slice none 0 0, .int .i64 0, .slice none 0 0, .slice none 0 0, .slice none 0 0, .int .i64 0, .int .i64 0, .int .i64 0, .bool false] 25))
  have R0 := hide (Blk.new (w.alloc (.cells #[.int .i64 id, .int .i64 tm, .int .i64 vo, .slice la lg.length lc, .slice sa st.length sc, .int .i64 ro, .slice va vs.length vc, .slice na nx.length nc, .slice ma mt.length mc, .int .i64 cm, .int .i64 el, .int .i64 wt, .bool up] 25)) #[.int .i64 0, .int .i64 0, .int .i64 0, .slice none 0 0, .slice none 0 0, .int .i64 0, .slice none 0 0, .slice none 0 0, .slice none 0 0, .int .i64 0, .int .i64 0, .int .i64 0, .bool false] 25 (w.heap.size + 1) (by simp))
  have HQ := hide (fun wx (hx : Below w.heap.size w wx) => l10New_any id hid.1 hid.2 sa sc st wx (h.st.below hx) z1)
  have HLG := hide h.lg
  clear h
  go_enter Try.func62, Try.ntmps62
  go_wp2_with fail
  generalize (w.alloc (.cells #[.int .i64 id, .int .i64 tm, .int .i64 vo, .slice la lg.length lc, .slice sa st.length sc, .int .i64 ro, .slice va vs.length vc, .slice na nx.length nc, .slice ma mt.length mc, .int .i64 cm, .int .i64 el, .int .i64 wt, .bool up] 25)).alloc (.cells #[.int .i64 0, .int .i64 0, .int .i64 0, .slice none 0 0, .slice none 0 0, .int .i64 0, .slice none 0 0, .slice none 0 0, .slice none 0 0, .int .i64 0, .int .i64 0, .int .i64 0, .bool false] 25) = w0 at *
  refine (unhide HQ w0 (unhide B0)).mono ?_
  rintro e w1 ⟨g8, a1, c1, g12, g15, an, cn, rfl, hO, hb⟩
  have hk0 := (unhide B0).size
  have hr0 := (unhide R0).1
  have K1a := (unhide B0).trans (hb.mono hk0)
  have lt0 := World.ownsRow.lt hO.lg
  have lt1 := hO.st.lt
  have lt2 := hO.vs.lt
  have lt3 := hO.nx.lt
  have lt4 := hO.mt.lt
  have X1 := (unhide X0).below hb
  have R1 := (unhide R0).below hb
  have hs1 := hb.size
  have x1 := (X1.alloc (.cells #[.int .i64 id, .int .i64 0, .int .i64 (-1), .slice (some ⟨g8, 0, none⟩) 0 0, .slice a1 st.length c1, .int .i64 0, .slice (some ⟨g12, 0, none⟩) 0 0, .slice an 7 cn, .slice (some ⟨g15, 0, none⟩) 7 7, .int .i64 0, .int .i64 0, .int .i64 (5 + id), .bool true] 25)).cell 1 rfl
  have x2 := (X1.alloc (.cells #[.int .i64 id, .int .i64 tm, .int .i64 (-1), .slice (some ⟨g8, 0, none⟩) 0 0, .slice a1 st.length c1, .int .i64 0, .slice (some ⟨g12, 0, none⟩) 0 0, .slice an 7 cn, .slice (some ⟨g15, 0, none⟩) 7 7, .int .i64 0, .int .i64 0, .int .i64 (5 + id), .bool true] 25)).cell 2 rfl
  have Xc := (X1.alloc (.cells #[.int .i64 id, .int .i64 tm, .int .i64 vo, .slice (some ⟨g8, 0, none⟩) 0 0, .slice a1 st.length c1, .int .i64 0, .slice (some ⟨g12, 0, none⟩) 0 0, .slice an 7 cn, .slice (some ⟨g15, 0, none⟩) 7 7, .int .i64 0, .int .i64 0, .int .i64 (5 + id), .bool true] 25)).alloc (.cells #[] 82)
  have x3 := Xc.cell 3 rfl
  have HXc := hide Xc
  have HNc := hide ((Blk.new w1 #[.int .i64 id, .int .i64 tm, .int .i64 vo, .slice (some ⟨g8, 0, none⟩) 0 0, .slice a1 st.length c1, .int .i64 0, .slice (some ⟨g12, 0, none⟩) 0 0, .slice an 7 cn, .slice (some ⟨g15, 0, none⟩) 7 7, .int .i64 0, .int .i64 0, .int .i64 (5 + id), .bool true] 25 w1.heap.size rfl).alloc (.cells #[] 82))
  have HRc := hide ((R1.alloc (.cells #[.int .i64 id, .int .i64 tm, .int .i64 vo, .slice (some ⟨g8, 0, none⟩) 0 0, .slice a1 st.length c1, .int .i64 0, .slice (some ⟨g12, 0, none⟩) 0 0, .slice an 7 cn, .slice (some ⟨g15, 0, none⟩) 7 7, .int .i64 0, .int .i64 0, .int .i64 (5 + id), .bool true] 25)).alloc (.cells #[] 82))
  have BB := ((Below.refl w1.heap.size w1).alloc (Nat.le_refl _) (.cells #[.int .i64 id, .int .i64 tm, .int .i64 vo, .slice (some ⟨g8, 0, none⟩) 0 0, .slice a1 st.length c1, .int .i64 0, .slice (some ⟨g12, 0, none⟩) 0 0, .slice an 7 cn, .slice (some ⟨g15, 0, none⟩) 7 7, .int .i64 0, .int .i64 0, .int .i64 (5 + id), .bool true] 25)).alloc (by simp) (.cells #[] 82)
  have HOc := hide (hO.below BB)
  have HKc := hide (K1a.trans (BB.mono K1a.size))
  have HE := hide (own_noneE (w1.alloc (.cells #[.int .i64 id, .int .i64 tm, .int .i64 vo, .slice (some ⟨g8, 0, none⟩) 0 0, .slice a1 st.length c1, .int .i64 0, .slice (some ⟨g12, 0, none⟩) 0 0, .slice an 7 cn, .slice (some ⟨g15, 0, none⟩) 7 7, .int .i64 0, .int .i64 0, .int .i64 (5 + id), .bool true] 25)) w.heap.size (w1.heap.size + 1) (by simp) (by omega))
  have HRW := hide ((unhide HLG).below (unhide HKc)).rw
  have hlen := ensC_len lg
  have HLT := hide (And.intro lt0 (And.intro lt1 (And.intro lt2 (And.intro lt3 (And.intro lt4 (And.intro hk0 (And.intro hr0 hs1)))))))
  have hbase := (unhide HKc).size
  clear lt0 lt1 lt2 lt3 lt4 X1 R1 Xc BB K1a hO hb hk0 hr0 hs1 HQ B0 X0 R0
  go_wp2_with (at_builtin; refine wpList_append_row _ rfl _ _ _ rfl w.heap.size 82 i0 _ 3 32 Try.underlying23 hi hz0 hz1 hz2 rfl (by omega) (.slice (some ⟨w1.heap.size + 1, 0, none⟩) 0 0) 0 [] rfl (unhide HE) (.slice la lg.length lc) lg.length (ensC lg) rfl (unhide HRW) hlen (ensC_one lg) (by unfold maxLen; omega) (by omega) hbase ?_; intro al_ cl_ w4 hown1 hgrow1 hat1; rw [Nat.zero_add] at hown1 hat1 ⊢; have TT := (Touch.refl (fun q => q = w1.heap.size + 1) ((w1.alloc (.cells #[.int .i64 id, .int .i64 tm, .int .i64 vo, .slice (some ⟨g8, 0, none⟩) 0 0, .slice a1 st.length c1, .int .i64 0, .slice (some ⟨g12, 0, none⟩) 0 0, .slice an 7 cn, .slice (some ⟨g15, 0, none⟩) 7 7, .int .i64 0, .int .i64 0, .int .i64 (5 + id), .bool true] 25)).alloc (.cells #[] 82))).grown hgrow1 (fun k e _ => by simp [Value.ownBlock] at e; omega); have N4 := (unhide HNc).kept TT (fun e => by omega); have X4 := (unhide HXc).kept TT (fun e => by have := unhide HLT; omega); have n3 := N4.cell 3 rfl; have g3 := N4.fro 3; have X5 := X4.other (C := w1.heap.size) 3 (.slice al_ lg.length cl_) (by have := unhide HLT; omega); have x11 := X5.cell 11 rfl; have N5 := N4.set 3 (.slice al_ lg.length cl_) (by simp); have n11 := N5.cell 11 rfl; have g11 := N5.fro 11; have N6 := N5.set 11 (.int .i64 wt) (by simp); have n12 := N6.cell 12 rfl; have g12_ := N6.fro 12; have N7 := N6.set 12 (.bool false) (by simp); have R6 := ((((unhide HRc).kept TT (fun e => by have := unhide HLT; omega)).other (C := w1.heap.size) 3 (.slice al_ lg.length cl_) (by have := unhide HLT; omega)).other (C := w1.heap.size) 11 (.int .i64 wt) (by have := unhide HLT; omega)).other (C := w1.heap.size) 12 (.bool false) (by have := unhide HLT; omega); have c0 := N7.cell 0 rfl; have r0_ := R6.cell 0 rfl; have f0_ := R6.fro 0; have c1 := N7.cell 1 rfl; have r1_ := R6.cell 1 rfl; have f1_ := R6.fro 1; have c2 := N7.cell 2 rfl; have r2_ := R6.cell 2 rfl; have f2_ := R6.fro 2; have c3 := N7.cell 3 rfl; have r3_ := R6.cell 3 rfl; have f3_ := R6.fro 3; have c4 := N7.cell 4 rfl; have r4_ := R6.cell 4 rfl; have f4_ := R6.fro 4; have c5 := N7.cell 5 rfl; have r5_ := R6.cell 5 rfl; have f5_ := R6.fro 5; have c6 := N7.cell 6 rfl; have r6_ := R6.cell 6 rfl; have f6_ := R6.fro 6; have c7 := N7.cell 7 rfl; have r7_ := R6.cell 7 rfl; have f7_ := R6.fro 7; have c8 := N7.cell 8 rfl; have r8_ := R6.cell 8 rfl; have f8_ := R6.fro 8; have c9 := N7.cell 9 rfl; have r9_ := R6.cell 9 rfl; have f9_ := R6.fro 9; have c10 := N7.cell 10 rfl; have r10_ := R6.cell 10 rfl; have f10_ := R6.fro 10; have c11 := N7.cell 11 rfl; have r11_ := R6.cell 11 rfl; have f11_ := R6.fro 11; have c12 := N7.cell 12 rfl; have r12_ := R6.cell 12 rfl; have f12_ := R6.fro 12; have HR6 := hide R6; have HA := hide (And.intro hown1 (And.intro hgrow1 (And.intro hat1 TT))); clear hown1 hgrow1 hat1 TT N4 X4 X5 N5 N6 N7 R6)
  clear c0 r0_ f0_ c1 r1_ f1_ c2 r2_ f2_ c3 r3_ f3_ c4 r4_ f4_ c5 r5_ f5_ c6 r6_ f6_ c7 r7_ f7_ c8 r8_ f8_ c9 r9_ f9_ c10 r10_ f10_ c11 r11_ f11_ c12 r12_ f12_ x1 x2 x3 n3 g3 x11 n11 g11 n12 g12_
  obtain ⟨hown1, hgrow1, hat1, TT⟩ := unhide HA
  obtain ⟨lt0, lt1, lt2, lt3, lt4, hk0, hr0, hs1⟩ := unhide HLT
  have K4 := (unhide HKc).grown hgrow1 (unhide HKc).size (fun k e => by simp [Value.ownBlock] at e; omega)
  have K6 := ((K4.setCell (p := ⟨w1.heap.size, 3, none⟩) (by simp; omega) (.slice al_ lg.length cl_)).setCell (p := ⟨w1.heap.size, 11, none⟩) (by simp; omega) (.int .i64 wt)).setCell (p := ⟨w1.heap.size, 12, none⟩) (by simp; omega) (.bool false)
  have T6 := (((Touch.refl (fun q => q = w1.heap.size) w4).setCell ⟨w1.heap.size, 3, none⟩ (.slice al_ lg.length cl_) (fun _ => rfl)).setCell ⟨w1.heap.size, 11, none⟩ (.int .i64 wt) (fun _ => rfl)).setCell ⟨w1.heap.size, 12, none⟩ (.bool false) (fun _ => rfl)
  have K9 := hide ((((((((((((((K6.setCell (p := ⟨w.heap.size + 1, 0, none⟩) (by simp) (.int .i64 id)).setCell (p := ⟨w.heap.size + 1, 1, none⟩) (by simp) (.int .i64 tm)).setCell (p := ⟨w.heap.size + 1, 2, none⟩) (by simp) (.int .i64 vo)).setCell (p := ⟨w.heap.size + 1, 3, none⟩) (by simp) (.slice al_ lg.length cl_)).setCell (p := ⟨w.heap.size + 1, 4, none⟩) (by simp) (.slice a1 st.length c1)).setCell (p := ⟨w.heap.size + 1, 5, none⟩) (by simp) (.int .i64 0)).setCell (p := ⟨w.heap.size + 1, 6, none⟩) (by simp) (.slice (some ⟨g12, 0, none⟩) 0 0)).setCell (p := ⟨w.heap.size + 1, 7, none⟩) (by simp) (.slice an 7 cn)).setCell (p := ⟨w.heap.size + 1, 8, none⟩) (by simp) (.slice (some ⟨g15, 0, none⟩) 7 7)).setCell (p := ⟨w.heap.size + 1, 9, none⟩) (by simp) (.int .i64 0)).setCell (p := ⟨w.heap.size + 1, 10, none⟩) (by simp) (.int .i64 0)).setCell (p := ⟨w.heap.size + 1, 11, none⟩) (by simp) (.int .i64 wt)).setCell (p := ⟨w.heap.size + 1, 12, none⟩) (by simp) (.bool false)))
  have T9 := ((((((((((((((Touch.refl (fun q => q = w.heap.size + 1) (((w4.setCell ⟨w1.heap.size, 3, none⟩ (.slice al_ lg.length cl_)).setCell ⟨w1.heap.size, 11, none⟩ (.int .i64 wt)).setCell ⟨w1.heap.size, 12, none⟩ (.bool false))).setCell ⟨w.heap.size + 1, 0, none⟩ (.int .i64 id) (fun _ => rfl)).setCell ⟨w.heap.size + 1, 1, none⟩ (.int .i64 tm) (fun _ => rfl)).setCell ⟨w.heap.size + 1, 2, none⟩ (.int .i64 vo) (fun _ => rfl)).setCell ⟨w.heap.size + 1, 3, none⟩ (.slice al_ lg.length cl_) (fun _ => rfl)).setCell ⟨w.heap.size + 1, 4, none⟩ (.slice a1 st.length c1) (fun _ => rfl)).setCell ⟨w.heap.size + 1, 5, none⟩ (.int .i64 0) (fun _ => rfl)).setCell ⟨w.heap.size + 1, 6, none⟩ (.slice (some ⟨g12, 0, none⟩) 0 0) (fun _ => rfl)).setCell ⟨w.heap.size + 1, 7, none⟩ (.slice an 7 cn) (fun _ => rfl)).setCell ⟨w.heap.size + 1, 8, none⟩ (.slice (some ⟨g15, 0, none⟩) 7 7) (fun _ => rfl)).setCell ⟨w.heap.size + 1, 9, none⟩ (.int .i64 0) (fun _ => rfl)).setCell ⟨w.heap.size + 1, 10, none⟩ (.int .i64 0) (fun _ => rfl)).setCell ⟨w.heap.size + 1, 11, none⟩ (.int .i64 wt) (fun _ => rfl)).setCell ⟨w.heap.size + 1, 12, none⟩ (.bool false) (fun _ => rfl))
  have hAl : OwnE w.heap.size w4 (.slice al_ lg.length cl_) lg := by simpa [OwnE] using hown1
  have ltA : ∀ q, (Value.slice al_ lg.length cl_).ownBlock = some q → w1.heap.size + 1 ≤ q := fun q hq => by
    rcases hat1 with h | h
    · rw [hq] at h; simp [Value.ownBlock] at h; omega
    · rw [hq] at h; simp at h; omega
  have hO := unhide HOc
  have FF := hide (show NoO w.heap.size _ (.slice al_ lg.length cl_) (.slice a1 st.length c1) (.slice (some ⟨g12, 0, none⟩) 0 0) (.slice an 7 cn) (.slice (some ⟨g15, 0, none⟩) 7 7) lg st [] (List.replicate 7 1) (List.replicate 7 0) from
    ⟨OwnE.kept (OwnE.kept hAl T6 (fun k hk e => by have := ltA k hk; omega)) T9 (fun k hk e => by have := ltA k hk; omega),
     (((hO.st.kept TT (fun k hk e => by have := lt1 k hk; omega)).kept T6 (fun k hk e => by have := lt1 k hk; omega)).kept T9 (fun k hk e => by have := lt1 k hk; omega)).mono hk0,
     (((hO.vs.kept TT (fun k hk e => by have := lt2 k hk; omega)).kept T6 (fun k hk e => by have := lt2 k hk; omega)).kept T9 (fun k hk e => by have := lt2 k hk; omega)).mono hk0,
     (((hO.nx.kept TT (fun k hk e => by have := lt3 k hk; omega)).kept T6 (fun k hk e => by have := lt3 k hk; omega)).kept T9 (fun k hk e => by have := lt3 k hk; omega)).mono hk0,
     (((hO.mt.kept TT (fun k hk e => by have := lt4 k hk; omega)).kept T6 (fun k hk e => by have := lt4 k hk; omega)).kept T9 (fun k hk e => by have := lt4 k hk; omega)).mono hk0, by
      have hap := hO.ap
      simp only [List.pairwise_cons, List.mem_cons, List.not_mem_nil, or_false, forall_eq_or_imp, forall_eq, List.Pairwise.nil, and_true, false_implies, implies_true] at hap ⊢
      exact ⟨⟨fun k h1 h2 => by have := ltA k h1; have := lt1 k h2; omega, fun k h1 h2 => by have := ltA k h1; have := lt2 k h2; omega, fun k h1 h2 => by have := ltA k h1; have := lt3 k h2; omega, fun k h1 h2 => by have := ltA k h1; have := lt4 k h2; omega⟩, hap.2⟩⟩)
  clear hO ltA hAl T9 T6 K6 K4 TT hat1 hgrow1 hown1 lt0 lt1 lt2 lt3 lt4 hk0 hr0 hs1
  have R9 := ((((((((((((((unhide HR6).set 0 (.int .i64 id) (by simp)).set 1 (.int .i64 tm) (by simp)).set 2 (.int .i64 vo) (by simp)).set 3 (.slice al_ lg.length cl_) (by simp)).set 4 (.slice a1 st.length c1) (by simp)).set 5 (.int .i64 0) (by simp)).set 6 (.slice (some ⟨g12, 0, none⟩) 0 0) (by simp)).set 7 (.slice an 7 cn) (by simp)).set 8 (.slice (some ⟨g15, 0, none⟩) 7 7) (by simp)).set 9 (.int .i64 0) (by simp)).set 10 (.int .i64 0) (by simp)).set 11 (.int .i64 wt) (by simp)).set 12 (.bool false) (by simp))
  have z0 := R9.cell 0 rfl
  have z1 := R9.cell 1 rfl
  have z2 := R9.cell 2 rfl
  have z3 := R9.cell 3 rfl
  have z4 := R9.cell 4 rfl
  have z5 := R9.cell 5 rfl
  have z6 := R9.cell 6 rfl
  have z7 := R9.cell 7 rfl
  have z8 := R9.cell 8 rfl
  have z9 := R9.cell 9 rfl
  have z10 := R9.cell 10 rfl
  have z11 := R9.cell 11 rfl
  have z12 := R9.cell 12 rfl
  refine bodyPost_ret (v := .agg #[.int .i64 id, .int .i64 tm, .int .i64 vo, .slice al_ lg.length cl_, .slice a1 st.length c1, .int .i64 0, .slice (some ⟨g12, 0, none⟩) 0 0, .slice an 7 cn, .slice (some ⟨g15, 0, none⟩) 7 7, .int .i64 0, .int .i64 0, .int .i64 wt, .bool false]) (by simp [results, Try.results62, go_sem, z0, z1, z2, z3, z4, z5, z6, z7, z8, z9, z10, z11, z12]) rfl ?_
  exact ⟨al_, cl_, a1, c1, g12, an, cn, g15, rfl, unhide FF, unhide K9⟩
end Go.Proofs.Ytnklloeialhmkaa
