/- impl.NodeCrash, walked. (Written by py/nody.py.) -/
import Derived.Test.YtnklloeialhmkaaNodW
import Derived.Test.YtnklloeialhmkaaNodU
namespace Go.Proofs.Ytnklloeialhmkaa
open Go.ChangeShapes Go.WideShapes Go.ChangeAt Go.RowKit Go.Deep
set_option linter.unusedVariables false

/-- What NodeCrash tells. -/
def ncOut (ok : Bool) (id tm vo wt : Int) (lg : List En) (st : List Int) : NoD × Int := if ok then (⟨id, tm, vo, 0, 0, 0, wt, false, lg, st, [], List.replicate 7 1, List.replicate 7 0⟩, 0) else (zeroNo, 1)
set_option maxRecDepth 100000 in
set_option maxHeartbeats 4000000 in
theorem implNodeCrash_any (id tm vo ro cm el wt : Int) (up : Bool) (lg : List En) (st vs nx mt : List Int) (la : Option Addr) (lc : Nat) (sa : Option Addr) (sc : Nat) (va : Option Addr) (vc : Nat) (na : Option Addr) (nc : Nat) (ma : Option Addr) (mc : Nat) (w : World) (h : NoR w (.slice la lg.length lc) (.slice sa st.length sc) (.slice va vs.length vc) (.slice na nx.length nc) (.slice ma mt.length mc) lg st vs nx mt) (hs : NoS lg st vs nx mt) :
    Calls Try.prog 33 #[.agg #[.int .i64 id, .int .i64 tm, .int .i64 vo, .slice la lg.length lc, .slice sa st.length sc, .int .i64 ro, .slice va vs.length vc, .slice na nx.length nc, .slice ma mt.length mc, .int .i64 cm, .int .i64 el, .int .i64 wt, .bool up]] w fun e w' => NAns w.heap.size (ncOut (nodeB id tm vo ro cm el wt up lg st vs nx mt) id tm vo wt lg st).1 (ncOut (nodeB id tm vo ro cm el wt up lg st vs nx mt) id tm vo wt lg st).2 w e w' := by
  have B0 := hide (((Below.refl w.heap.size w).alloc (Nat.le_refl _) (.cells #[.int .i64 id, .int .i64 tm, .int .i64 vo, .slice la lg.length lc, .slice sa st.length sc, .int .i64 ro, .slice va vs.length vc, .slice na nx.length nc, .slice ma mt.length mc, .int .i64 cm, .int .i64 el, .int .i64 wt, .bool up] 25)).alloc (by simp) (.cells #[.int .i64 0, .int .i64 0, .int .i64 0, .slice none 0 0, .slice none 0 0, .int .i64 0, .slice none 0 0, .slice none 0 0, .slice none 0 0, .int .i64 0, .int .i64 0, .int .i64 0, .bool false] 25))
  have X0 := hide ((Blk.new w #[.int .i64 id, .int .i64 tm, .int .i64 vo, .slice la lg.length lc, .slice sa st.length sc, .int .i64 ro, .slice va vs.length vc, .slice na nx.length nc, .slice ma mt.length mc, .int .i64 cm, .int .i64 el, .int .i64 wt, .bool up] 25 w.heap.size rfl).alloc (.cells #[.int .i64 0, .int .i64 0, .int .i64 0, .slice none 0 0, .slice none 0 0, .int .i64 0, .slice none 0 0, .slice none 0 0, .slice none 0 0, .int .i64 0, .int .i64 0, .int .i64 0, .bool false] 25))
  have R0 := hide (Blk.new (w.alloc (.cells #[.int .i64 id, .int .i64 tm, .int .i64 vo, .slice la lg.length lc, .slice sa st.length sc, .int .i64 ro, .slice va vs.length vc, .slice na nx.length nc, .slice ma mt.length mc, .int .i64 cm, .int .i64 el, .int .i64 wt, .bool up] 25)) #[.int .i64 0, .int .i64 0, .int .i64 0, .slice none 0 0, .slice none 0 0, .int .i64 0, .slice none 0 0, .slice none 0 0, .slice none 0 0, .int .i64 0, .int .i64 0, .int .i64 0, .bool false] 25 (w.heap.size + 1) (by simp))
  have HN := hide (fun wx (hx : Below w.heap.size w wx) => implNodeOK_any id tm vo ro cm el wt up lg st vs nx mt la lc sa sc va vc na nc ma mc wx (h.below hx) hs)
  have HU : Hid (∀ ok, ncOut ok id tm vo wt lg st = if ok then (⟨id, tm, vo, 0, 0, 0, wt, false, lg, st, [], List.replicate 7 1, List.replicate 7 0⟩, 0) else (zeroNo, 1)) := hide (fun ok => rfl)
  have HSM := hide (fun hh : nodeB id tm vo ro cm el wt up lg st vs nx mt = true => node_small hh)
  have HQ := hide (fun wx (hx : Below w.heap.size w wx) (hh : nodeB id tm vo ro cm el wt up lg st vs nx mt = true) => freshNode_any id tm vo 0 0 0 wt false lg st [] [] [] la lc sa sc none 0 none 0 none 0 wx ⟨h.lg.below hx, h.st.below hx, ⟨none, 0, rfl, by unfold maxLen; simp, .inl rfl⟩, ⟨none, 0, rfl, by unfold maxLen; simp, .inl rfl⟩, ⟨none, 0, rfl, by unfold maxLen; simp, .inl rfl⟩⟩ (by have := node_small hh; omega) (by have := node_small hh; omega) (by simp) (by simp) (by simp))
  clear h hs
  generalize nodeB id tm vo ro cm el wt up lg st vs nx mt = ok at *
  go_enter Try.func33, Try.ntmps33
  go_wp2_with fail
  generalize (w.alloc (.cells #[.int .i64 id, .int .i64 tm, .int .i64 vo, .slice la lg.length lc, .slice sa st.length sc, .int .i64 ro, .slice va vs.length vc, .slice na nx.length nc, .slice ma mt.length mc, .int .i64 cm, .int .i64 el, .int .i64 wt, .bool up] 25)).alloc (.cells #[.int .i64 0, .int .i64 0, .int .i64 0, .slice none 0 0, .slice none 0 0, .int .i64 0, .slice none 0 0, .slice none 0 0, .slice none 0 0, .int .i64 0, .int .i64 0, .int .i64 0, .bool false] 25) = w0 at *
  refine (unhide HN w0 (unhide B0)).mono ?_
  rintro e w1 ⟨rfl, hb⟩
  have K1 := hide ((unhide B0).trans (hb.mono (unhide B0).size))
  have XX := (unhide X0).below hb
  have RR := (unhide R0).below hb
  have R1 := hide RR
  have x0 := XX.cell 0 rfl
  have r0_ := RR.cell 0 rfl
  have f0_ := RR.fro 0
  have x1 := XX.cell 1 rfl
  have r1_ := RR.cell 1 rfl
  have f1_ := RR.fro 1
  have x2 := XX.cell 2 rfl
  have r2_ := RR.cell 2 rfl
  have f2_ := RR.fro 2
  have x3 := XX.cell 3 rfl
  have r3_ := RR.cell 3 rfl
  have f3_ := RR.fro 3
  have x4 := XX.cell 4 rfl
  have r4_ := RR.cell 4 rfl
  have f4_ := RR.fro 4
  have x5 := XX.cell 5 rfl
  have r5_ := RR.cell 5 rfl
  have f5_ := RR.fro 5
  have x6 := XX.cell 6 rfl
  have r6_ := RR.cell 6 rfl
  have f6_ := RR.fro 6
  have x7 := XX.cell 7 rfl
  have r7_ := RR.cell 7 rfl
  have f7_ := RR.fro 7
  have x8 := XX.cell 8 rfl
  have r8_ := RR.cell 8 rfl
  have f8_ := RR.fro 8
  have x9 := XX.cell 9 rfl
  have r9_ := RR.cell 9 rfl
  have f9_ := RR.fro 9
  have x10 := XX.cell 10 rfl
  have r10_ := RR.cell 10 rfl
  have f10_ := RR.fro 10
  have x11 := XX.cell 11 rfl
  have r11_ := RR.cell 11 rfl
  have f11_ := RR.fro 11
  have x12 := XX.cell 12 rfl
  have r12_ := RR.cell 12 rfl
  have f12_ := RR.fro 12
  clear hb XX RR X0 B0 R0 HN
  cases ok
  · go_wp2_with fail
    have R9 := ((((((((((((((unhide R1).set 0 (.int .i64 0) (by simp)).set 1 (.int .i64 0) (by simp)).set 2 (.int .i64 0) (by simp)).set 3 (.slice none 0 0) (by simp)).set 4 (.slice none 0 0) (by simp)).set 5 (.int .i64 0) (by simp)).set 6 (.slice none 0 0) (by simp)).set 7 (.slice none 0 0) (by simp)).set 8 (.slice none 0 0) (by simp)).set 9 (.int .i64 0) (by simp)).set 10 (.int .i64 0) (by simp)).set 11 (.int .i64 0) (by simp)).set 12 (.bool false) (by simp))
    have K9 := hide ((((((((((((((unhide K1).setCell (p := ⟨w.heap.size + 1, 0, none⟩) (by simp) (.int .i64 0)).setCell (p := ⟨w.heap.size + 1, 1, none⟩) (by simp) (.int .i64 0)).setCell (p := ⟨w.heap.size + 1, 2, none⟩) (by simp) (.int .i64 0)).setCell (p := ⟨w.heap.size + 1, 3, none⟩) (by simp) (.slice none 0 0)).setCell (p := ⟨w.heap.size + 1, 4, none⟩) (by simp) (.slice none 0 0)).setCell (p := ⟨w.heap.size + 1, 5, none⟩) (by simp) (.int .i64 0)).setCell (p := ⟨w.heap.size + 1, 6, none⟩) (by simp) (.slice none 0 0)).setCell (p := ⟨w.heap.size + 1, 7, none⟩) (by simp) (.slice none 0 0)).setCell (p := ⟨w.heap.size + 1, 8, none⟩) (by simp) (.slice none 0 0)).setCell (p := ⟨w.heap.size + 1, 9, none⟩) (by simp) (.int .i64 0)).setCell (p := ⟨w.heap.size + 1, 10, none⟩) (by simp) (.int .i64 0)).setCell (p := ⟨w.heap.size + 1, 11, none⟩) (by simp) (.int .i64 0)).setCell (p := ⟨w.heap.size + 1, 12, none⟩) (by simp) (.bool false))
    have z0 := R9.cell 0 rfl
    have z1 := R9.cell 1 rfl
    have z2 := R9.cell 2 rfl
    have z3 := R9.cell 3 rfl
    have z4 := R9.cell 4 rfl
    have z5 := R9.cell 5 rfl
    have z6 := R9.cell 6 rfl
    have z7 := R9.cell 7 rfl
    have z8 := R9.cell 8 rfl
    have z9 := R9.cell 9 rfl
    have z10 := R9.cell 10 rfl
    have z11 := R9.cell 11 rfl
    have z12 := R9.cell 12 rfl
    refine bodyPost_ret (v := .tuple #[.agg #[.int .i64 0, .int .i64 0, .int .i64 0, .slice none 0 0, .slice none 0 0, .int .i64 0, .slice none 0 0, .slice none 0 0, .slice none 0 0, .int .i64 0, .int .i64 0, .int .i64 0, .bool false], .int .i64 1]) (by simp [results, Try.results33, go_sem, z0, z1, z2, z3, z4, z5, z6, z7, z8, z9, z10, z11, z12]) rfl ?_
    rw [unhide HU]
    exact ⟨none, 0, none, 0, none, 0, none, 0, none, 0, rfl, noO_zero _ _, unhide K9⟩
  have HC := hide (unhide HQ w1 (unhide K1) (by first | trivial | rfl))
  go_wp2_with fail
  refine (unhide HC).mono ?_
  rintro e w2 ⟨la', lc', sa', sc', gn, gm, rfl, hO, hb⟩
  clear x0 r0_ f0_ x1 r1_ f1_ x2 r2_ f2_ x3 r3_ f3_ x4 r4_ f4_ x5 r5_ f5_ x6 r6_ f6_ x7 r7_ f7_ x8 r8_ f8_ x9 r9_ f9_ x10 r10_ f10_ x11 r11_ f11_ x12 r12_ f12_
  have hk1 := (unhide K1).size
  have hrb := (unhide R1).1
  have RR := (unhide R1).below hb
  have K2 := (unhide K1).trans (hb.mono hk1)
  have r0_ := RR.cell 0 rfl
  have f0_ := RR.fro 0
  have r1_ := RR.cell 1 rfl
  have f1_ := RR.fro 1
  have r2_ := RR.cell 2 rfl
  have f2_ := RR.fro 2
  have r3_ := RR.cell 3 rfl
  have f3_ := RR.fro 3
  have r4_ := RR.cell 4 rfl
  have f4_ := RR.fro 4
  have r5_ := RR.cell 5 rfl
  have f5_ := RR.fro 5
  have r6_ := RR.cell 6 rfl
  have f6_ := RR.fro 6
  have r7_ := RR.cell 7 rfl
  have f7_ := RR.fro 7
  have r8_ := RR.cell 8 rfl
  have f8_ := RR.fro 8
  have r9_ := RR.cell 9 rfl
  have f9_ := RR.fro 9
  have r10_ := RR.cell 10 rfl
  have f10_ := RR.fro 10
  have r11_ := RR.cell 11 rfl
  have f11_ := RR.fro 11
  have r12_ := RR.cell 12 rfl
  have f12_ := RR.fro 12
  have HR9 := hide (((((((((((((RR.set 0 (.int .i64 id) (by simp)).set 1 (.int .i64 tm) (by simp)).set 2 (.int .i64 vo) (by simp)).set 3 (.slice la' lg.length lc') (by simp)).set 4 (.slice sa' st.length sc') (by simp)).set 5 (.int .i64 0) (by simp)).set 6 (.slice none 0 0) (by simp)).set 7 (.slice (some ⟨gn, 0, none⟩) 7 7) (by simp)).set 8 (.slice (some ⟨gm, 0, none⟩) 7 7) (by simp)).set 9 (.int .i64 0) (by simp)).set 10 (.int .i64 0) (by simp)).set 11 (.int .i64 wt) (by simp)).set 12 (.bool false) (by simp))
  have K9 := hide (((((((((((((K2.setCell (p := ⟨w.heap.size + 1, 0, none⟩) (by simp) (.int .i64 id)).setCell (p := ⟨w.heap.size + 1, 1, none⟩) (by simp) (.int .i64 tm)).setCell (p := ⟨w.heap.size + 1, 2, none⟩) (by simp) (.int .i64 vo)).setCell (p := ⟨w.heap.size + 1, 3, none⟩) (by simp) (.slice la' lg.length lc')).setCell (p := ⟨w.heap.size + 1, 4, none⟩) (by simp) (.slice sa' st.length sc')).setCell (p := ⟨w.heap.size + 1, 5, none⟩) (by simp) (.int .i64 0)).setCell (p := ⟨w.heap.size + 1, 6, none⟩) (by simp) (.slice none 0 0)).setCell (p := ⟨w.heap.size + 1, 7, none⟩) (by simp) (.slice (some ⟨gn, 0, none⟩) 7 7)).setCell (p := ⟨w.heap.size + 1, 8, none⟩) (by simp) (.slice (some ⟨gm, 0, none⟩) 7 7)).setCell (p := ⟨w.heap.size + 1, 9, none⟩) (by simp) (.int .i64 0)).setCell (p := ⟨w.heap.size + 1, 10, none⟩) (by simp) (.int .i64 0)).setCell (p := ⟨w.heap.size + 1, 11, none⟩) (by simp) (.int .i64 wt)).setCell (p := ⟨w.heap.size + 1, 12, none⟩) (by simp) (.bool false))
  have T9 := ((((((((((((((Touch.refl (fun q => q = w.heap.size + 1) w2).setCell ⟨w.heap.size + 1, 0, none⟩ (.int .i64 id) (fun _ => rfl)).setCell ⟨w.heap.size + 1, 1, none⟩ (.int .i64 tm) (fun _ => rfl)).setCell ⟨w.heap.size + 1, 2, none⟩ (.int .i64 vo) (fun _ => rfl)).setCell ⟨w.heap.size + 1, 3, none⟩ (.slice la' lg.length lc') (fun _ => rfl)).setCell ⟨w.heap.size + 1, 4, none⟩ (.slice sa' st.length sc') (fun _ => rfl)).setCell ⟨w.heap.size + 1, 5, none⟩ (.int .i64 0) (fun _ => rfl)).setCell ⟨w.heap.size + 1, 6, none⟩ (.slice none 0 0) (fun _ => rfl)).setCell ⟨w.heap.size + 1, 7, none⟩ (.slice (some ⟨gn, 0, none⟩) 7 7) (fun _ => rfl)).setCell ⟨w.heap.size + 1, 8, none⟩ (.slice (some ⟨gm, 0, none⟩) 7 7) (fun _ => rfl)).setCell ⟨w.heap.size + 1, 9, none⟩ (.int .i64 0) (fun _ => rfl)).setCell ⟨w.heap.size + 1, 10, none⟩ (.int .i64 0) (fun _ => rfl)).setCell ⟨w.heap.size + 1, 11, none⟩ (.int .i64 wt) (fun _ => rfl)).setCell ⟨w.heap.size + 1, 12, none⟩ (.bool false) (fun _ => rfl))
  have O9 := hO.kept T9 (fun k e _ => by omega)
  have FF := hide (NoO.mk (World.ownsRow_monoE O9.lg hk1) (O9.st.mono hk1) (O9.vs.mono hk1) (O9.nx.mono hk1) (O9.mt.mono hk1) O9.ap)
  clear T9 O9 hO hb K2 RR HC HQ K1 R1
  go_wp2_with fail
  all_goals
    have R9 := unhide HR9
    have z0 := R9.cell 0 rfl
    have z1 := R9.cell 1 rfl
    have z2 := R9.cell 2 rfl
    have z3 := R9.cell 3 rfl
    have z4 := R9.cell 4 rfl
    have z5 := R9.cell 5 rfl
    have z6 := R9.cell 6 rfl
    have z7 := R9.cell 7 rfl
    have z8 := R9.cell 8 rfl
    have z9 := R9.cell 9 rfl
    have z10 := R9.cell 10 rfl
    have z11 := R9.cell 11 rfl
    have z12 := R9.cell 12 rfl
    refine bodyPost_ret (v := .tuple #[.agg #[.int .i64 id, .int .i64 tm, .int .i64 vo, .slice la' lg.length lc', .slice sa' st.length sc', .int .i64 0, .slice none 0 0, .slice (some ⟨gn, 0, none⟩) 7 7, .slice (some ⟨gm, 0, none⟩) 7 7, .int .i64 0, .int .i64 0, .int .i64 wt, .bool false], .int .i64 0]) (by simp [results, Try.results33, go_sem, z0, z1, z2, z3, z4, z5, z6, z7, z8, z9, z10, z11, z12]) rfl ?_
    rw [unhide HU]
    exact ⟨la', lc', sa', sc', none, 0, some ⟨gn, 0, none⟩, 7, some ⟨gm, 0, none⟩, 7, rfl, unhide FF, unhide K9⟩
end Go.Proofs.Ytnklloeialhmkaa
