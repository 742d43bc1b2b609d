/- For every branch that can be read, laws.FnExactMapList returns true, the branch reads as it did, and so do the two tables of words, which the card ties to the program's text. Condition: the listed tables start as the program's text lays them. -/
import Derived.Test.YtcmdilmjdnbfkaaDoorBrLi
import Derived.Test.YtcmdilmjdnbfkaaDoorBrI
import Derived.Test.YtcmdilmjdnbfkaaDoorMsB
import Derived.Test.YtcmdilmjdnbfkaaDoorBrE
import Derived.Test.YtcmdilmjdnbfkaaDoorLawG
import Derived.Test.YtcmdilmjdnbfkaaDoorCards
import Derived.Test.YtcmdilmjdnbfkaaDoorTie
namespace Go.Proofs.YtcmdilmjdnbfkaaDoor.fnExactMapList
open Go.ChangeShapes Go.WideShapes Go.ChangeAt Go.RowKit Sha
open Go.ChangeMaps (open_string shut_string)
set_option linter.unusedVariables false

/-- What is carried on: all that was there; the argument's box; the specification's answer; the argument handed in in box Y; the program's answer. -/
structure Kw (w : World) (Y : Nat) (ax : List Value) (Sx : Nat → Prop) (yh : List Value) (wv yv gv : Value) (p : List Cm) (lx : List Br) (pg : List Cm) (wx : World) : Prop where
  b : Below w.heap.size w wx
  x : Blk wx w.heap.size ax
  ow : OwnC w.heap.size wx wv p
  by_ : Blk wx Y (yh ++ [yv])
  oy : BrO wx Sx yv lx
  og : OwnC w.heap.size wx gv pg
  dy : ∀ q, Sx q → w.heap.size < q ∧ q ≠ Y ∧ wv.ownBlock ≠ some q ∧ gv.ownBlock ≠ some q
  dg : ∀ q, gv.ownBlock = some q → w.heap.size < q ∧ q ≠ Y ∧ wv.ownBlock ≠ some q ∧ ¬ Sx q
variable {w : World} {Y : Nat} {ax : List Value} {Sx : Nat → Prop} {yh : List Value} {wv yv gv : Value} {p : List Cm} {lx : List Br} {pg : List Cm} {wx : World}
theorem Kw.below {wy : World} (h : Kw w Y ax Sx yh wv yv gv p lx pg wx) (hb : Below wx.heap.size wx wy) : Kw w Y ax Sx yh wv yv gv p lx pg wy :=
  ⟨h.b.trans (hb.mono h.b.size), h.x.below hb, h.ow.below hb, h.by_.below hb, h.oy.blw hb, h.og.below hb, h.dy, h.dg⟩
theorem Kw.markY {wy : World} {lx' : List Br} (h : Kw w Y ax Sx yh wv yv gv p lx pg wx) (ho : BrO wy Sx yv lx') (ht : Touch Sx wx wy) : Kw w Y ax Sx yh wv yv gv p lx' pg wy :=
  ⟨h.b.trans (ht.below h.b.size (fun k hk e => by have := (h.dy k e).1; omega)), h.x.kept ht (fun e => by have := (h.dy _ e).1; omega), h.ow.kept ht (fun k hk e => (h.dy k e).2.2.1 hk), h.by_.kept ht (fun e => (h.dy _ e).2.1 rfl), ho, h.og.kept ht (fun k hk e => (h.dy k e).2.2.2 hk), h.dy, h.dg⟩
theorem Kw.markG {wy : World} {pg' : List Cm} (h : Kw w Y ax Sx yh wv yv gv p lx pg wx) (ho : OwnC w.heap.size wy gv pg') (ht : Touch (fun q => gv.ownBlock = some q) wx wy) : Kw w Y ax Sx yh wv yv gv p lx pg' wy :=
  ⟨h.b.trans (ht.below h.b.size (fun k hk e => by have := (h.dg k e).1; omega)), h.x.kept ht (fun e => by have := (h.dg _ e).1; omega), h.ow.kept ht (fun k hk e => (h.dg k e).2.2.1 hk), h.by_.kept ht (fun e => (h.dg _ e).2.1 rfl), h.oy.touch ht (fun k hk e => (h.dg k e).2.2.2 hk), ho, h.dy, h.dg⟩
set_option maxRecDepth 100000 in
set_option maxHeartbeats 8000000 in
theorem walk (k v : ByteArray) (at_ : Int) (u : Value) (l : List Br) (w : World) (hB : Brs (fun _ => True) w u l) (hk : k.size ≤ maxLen) (hv : v.size ≤ maxLen) (hf : First w) (ht : Table w) :
    Calls Tryd.prog 8 #[.agg #[.string k, .string v, .int .i64 at_, u]] w fun e w' => e = .returned (.bool true) ∧ Below w.heap.size w w' := by
  have HT := hide (show Tab w from ⟨hf, ht⟩)
  obtain ⟨sa, cap, rfl, hcap, hcm⟩ := hB.shape
  have HB := hide hB
  have HZ := hide (And.intro hk hv)
  have B0 := hide ((Below.refl w.heap.size w).alloc (Nat.le_refl _) (.cells #[.string k, .string v, .int .i64 at_, .slice sa l.length cap] 33))
  have X0 := hide (Blk.new w #[.string k, .string v, .int .i64 at_, .slice sa l.length cap] 33 w.heap.size rfl)
  have HS := hide (fun wx (hx : Below w.heap.size w wx) => szBranch_of k v at_ l sa l.length cap 1048576 wx (by omega) (by omega) hk hv (fun L wy h0 h1 hy => szBranchS_any hB L wy h0 h1 (hx.trans (hy.mono hx.size))))
  have HW := hide (Br.wt_eq (.mk k v at_ l))
  have hwl := Br.wt_lo (.mk k v at_ l)
  have HC := hide (szB_cases 1048576 (Br.mk k v at_ l).wt hwl)
  have HL := hide (fun (h : (Br.mk k v at_ l).wt ≤ 1048576) => show wtL l ≤ 1048576 by have := unhide HW; simp only [Br.key, Br.val, Br.kids] at this; omega)
  have HTO := hide (fun (h : wtL l ≤ 1048576) wx (hx : Below w.heap.size w wx) => toBranch_of k v at_ l sa l.length cap wx (fun wy hy => toBranchS_any hB h wy (hx.trans (hy.mono hx.size))))
  have HCN := hide (fun (h : wtL l ≤ 1048576) => show 1 + 3 * cntL l ≤ 8388608 by have := cntL_wt l; omega)
  have HPL := hide (Nat.le_trans (ml_len (.mk k v at_ l)) (show 40 ≤ 1048576 by omega))
  have HSP := hide (fun (S : Nat → Prop) (kv : Value) (wx : World) (hb : Brs S wx kv l) => specMapList_any k v at_ l S kv wx hb hk hv)
  have HIM := hide (fun (S : Nat → Prop) (kv : Value) (wx : World) (hb : Brs S wx kv l) (ht : Tab wx) => implMapList_any k v at_ l S kv wx hb hk hv ht)
  generalize (mlOut (.mk k v at_ l)).1 = p at *
  generalize (mlOut (.mk k v at_ l)).2 = pc at *
  clear hf ht hB hk hv hwl hcm hcap
  generalize (Br.mk k v at_ l).wt = wt at *
  generalize szB 1048576 wt = r at *
  go_enter Tryd.func8, Tryd.ntmps8
  go_wp2_with fail
  generalize w.alloc (.cells #[.string k, .string v, .int .i64 at_, .slice sa l.length cap] 33) = w0 at *
  refine (unhide HS w0 (unhide B0)).mono ?_
  rintro e w1 ⟨rfl, hb1⟩
  have K1 := hide ((unhide B0).trans (hb1.mono (unhide B0).size))
  have X1 := (unhide X0).below hb1
  have x10 := X1.cell 0 rfl
  have x11 := X1.cell 1 rfl
  have x12 := X1.cell 2 rfl
  have x13 := X1.cell 3 rfl
  have HX1 := hide X1
  clear hb1 B0 X0 X1 HS
  rcases unhide HC with hr | ⟨hr, _, hrw⟩
  · subst hr
    go_wp2_with fail
    go_ret
    exact ⟨rfl, unhide K1⟩
  have HWL := hide (unhide HL hrw)
  have HTT := hide (unhide HTO (unhide HWL))
  have hr2 : ¬ r < 0 := by omega
  clear HL HTO hr
  go_wp2_with fail
  refine (unhide HTT w1 (unhide K1)).mono ?_
  rintro e w2 ⟨g2, rfl, hO2, hb2⟩
  have K2 := hide ((unhide K1).trans (hb2.mono (unhide K1).size))
  have V2 := hide hO2.brs
  have X2 := (unhide HX1).below hb2
  have x20 := X2.cell 0 rfl
  have x21 := X2.cell 1 rfl
  have x22 := X2.cell 2 rfl
  have x23 := X2.cell 3 rfl
  have HX2 := hide X2
  clear hb2 hO2 X2 HX1 x10 x11 x12 x13 K1
  go_wp2_with fail
  refine (unhide HSP _ _ w2 (unhide V2)).mono ?_
  rintro e w3 ⟨wv, rfl, hO3, hb3⟩
  have K3 := hide ((unhide K2).trans (hb3.mono (unhide K2).size))
  have X3 := (unhide HX2).below hb3
  have O3 := hide hO3
  have Z3 := hide (And.intro (And.intro (unhide HX2).1 hb3.size) (fun q hq => hO3.lt q hq))
  have x30 := X3.cell 0 rfl
  have x31 := X3.cell 1 rfl
  have x32 := X3.cell 2 rfl
  have x33 := X3.cell 3 rfl
  have HX3 := hide X3
  clear hb3 hO3 X3 HX2 x20 x21 x22 x23 V2
  go_wp2_with fail
  refine (unhide HTT w3 (unhide K3)).mono ?_
  rintro e w4 ⟨g4, rfl, hO4, hb4⟩
  have K4 := (unhide K3).trans (hb4.mono (unhide K3).size)
  have X4 := (unhide HX3).below hb4
  have O4w := (unhide O3).below hb4
  have BB := (Below.refl w4.heap.size w4).alloc (Nat.le_refl _) (.cells #[.string k, .string v, .int .i64 at_, .slice (some ⟨g4, 0, none⟩) l.length l.length] 37)
  have O4 := hide (hO4.blw BB)
  have Y4 := hide (Blk.new w4 #[.string k, .string v, .int .i64 at_, .slice (some ⟨g4, 0, none⟩) l.length l.length] 37 w4.heap.size rfl)
  have K4b := hide (K4.trans (BB.mono K4.size))
  have HX4b := hide (X4.below BB)
  have O4wb := hide (O4w.below BB)
  have Z4 := hide (And.intro hb4.size (show (w4.alloc (.cells #[.string k, .string v, .int .i64 at_, .slice (some ⟨g4, 0, none⟩) l.length l.length] 37)).heap.size = w4.heap.size + 1 by simp))
  clear hb4 hO4 X4 O4w HX3 O3 x30 x31 x32 x33 BB K4
  go_wp2_with fail
  generalize w4.alloc (.cells #[.string k, .string v, .int .i64 at_, .slice (some ⟨g4, 0, none⟩) l.length l.length] 37) = w4b at *
  refine (unhide HIM _ _ w4b (unhide O4).brs ((unhide HT).below (unhide K4b))).mono ?_
  rintro e w5 ⟨gv, rfl, hO5, hb5⟩
  have K5 := (unhide K4b).trans (hb5.mono (unhide K4b).size)
  have P5 : Hid (Kw w w4.heap.size [.string k, .string v, .int .i64 at_, .slice sa l.length cap] (fun b => w3.heap.size ≤ b ∧ b < w4.heap.size) [.string k, .string v, .int .i64 at_] wv (.slice (some ⟨g4, 0, none⟩) l.length l.length) gv p l p w5) := hide (by
    obtain ⟨z31, z32⟩ := unhide Z3
    obtain ⟨z41, z42⟩ := unhide Z4
    have z5 := hb5.size
    have hz2 := (unhide K4b).size
    refine ⟨K5, (unhide HX4b).below hb5, OwnC.down ((unhide O4wb).below hb5) (unhide K2).size, (unhide Y4).below hb5, (unhide O4).blw hb5, OwnC.down hO5 hz2, ?_, ?_⟩
    · intro q hq
      refine ⟨by omega, by omega, fun e => ?_, fun e => ?_⟩
      · have := z32 q e; omega
      · have := hO5.lt q e; omega
    · intro q hq
      have h5 := hO5.lt q hq
      refine ⟨by omega, by omega, fun e => ?_, fun e => ?_⟩
      · have := z32 q e; omega
      · omega)
  clear hb5 hO5 K5 K4b HX4b O4wb O4 Y4 Z3 Z4 K2 K3
  go_wp2_with fail
  generalize w4.heap.size = Y at *
  generalize hSx : (fun b => w3.heap.size ≤ b ∧ b < Y) = Sx at *
  clear hSx
  refine (eqCommandS_any _ _ p w5 (unhide P5).og.read (unhide P5).ow.read (unhide HPL)).mono ?_
  rintro e w6 ⟨rfl, hb6⟩
  have P6 := hide ((unhide P5).below hb6)
  clear hb6 P5
  have cy0 := (unhide P6).by_.cell 0 rfl
  have cy1 := (unhide P6).by_.cell 1 rfl
  have cy2 := (unhide P6).by_.cell 2 rfl
  have cy3 := (unhide P6).by_.cell 3 rfl
  have cx0 := (unhide P6).x.cell 0 rfl
  have cx1 := (unhide P6).x.cell 1 rfl
  have cx2 := (unhide P6).x.cell 2 rfl
  have cx3 := (unhide P6).x.cell 3 rfl
  have HD6 := hide (below_drewN (Below.refl w6.heap.size w6) 1)
  have P6d := hide ((unhide P6).below (unhide HD6))
  have HTW := hide (unhide HTT w6.drew (unhide P6d).b)
  have hzy := (unhide P6).by_.1
  have hzx := (unhide P6).x.1
  have V6d := hide (unhide P6d).oy.brs
  go_upto_region 10 with fail
  go_cut [45] (fun s wx => s = .bool false ∧ Kw w Y [.string k, .string v, .int .i64 at_, .slice sa l.length cap] Sx [.string k, .string v, .int .i64 at_] wv (.slice (some ⟨g4, 0, none⟩) l.length l.length) gv p l p wx)
  case first =>
    go_wp2_with fail
    go_region_held3 (fun wx => wx.cell? ⟨Y, 0, none⟩ = some (.string k) ∧ wx.cell? ⟨Y, 1, none⟩ = some (.string v) ∧ wx.cell? ⟨Y, 2, none⟩ = some (.int .i64 at_) ∧ wx.cell? ⟨Y, 3, none⟩ = some (.slice (some ⟨g4, 0, none⟩) l.length l.length) ∧ wx.cell? ⟨w.heap.size, 0, none⟩ = some (.string k) ∧ wx.cell? ⟨w.heap.size, 1, none⟩ = some (.string v) ∧ wx.cell? ⟨w.heap.size, 2, none⟩ = some (.int .i64 at_) ∧ wx.cell? ⟨w.heap.size, 3, none⟩ = some (.slice sa l.length cap))
      (first | go_keep | exact ⟨P8.by_.cell 0 rfl, P8.by_.cell 1 rfl, P8.by_.cell 2 rfl, P8.by_.cell 3 rfl, P8.x.cell 0 rfl, P8.x.cell 1 rfl, P8.x.cell 2 rfl, P8.x.cell 3 rfl⟩ | exact ⟨P7.by_.cell 0 rfl, P7.by_.cell 1 rfl, P7.by_.cell 2 rfl, P7.by_.cell 3 rfl, P7.x.cell 0 rfl, P7.x.cell 1 rfl, P7.x.cell 2 rfl, P7.x.cell 3 rfl⟩)
      (first
        | (go_at_call 22; refine (eqBranch_of k v at_ (some ⟨g4, 0, none⟩) (some ⟨g7, 0, none⟩) l.length l.length l.length l.length w7 (fun wx hx => eqBranchS_any P7.oy.brs _ _ wx hx (hO7.blw hx).brs)).mono ?_; rintro e w8 ⟨rfl, hb8⟩; have P8 := P7.below hb8)
        | (go_at_call 20; refine (unhide HTW).mono ?_; rintro e w7 ⟨g7, rfl, hO7, hb7⟩; have P7 := (unhide P6d).below hb7))
    all_goals
      have HP8 := hide P8
      clear hb7 hb8 hO7 P7 P8
      go_wp2_with fail
      go_meet
      exact ⟨rfl, unhide HP8⟩
  case rest =>
    obtain ⟨rfl, hPc⟩ := hcut
    have PC := hide hPc
    clear hPc P6 P6d HTW V6d HD6 hzy hzx
    clear cy0 cy1 cy2 cy3 cx0 cx1 cx2 cx3
    have cy0 := (unhide PC).by_.cell 0 rfl
    have cy1 := (unhide PC).by_.cell 1 rfl
    have cy2 := (unhide PC).by_.cell 2 rfl
    have cy3 := (unhide PC).by_.cell 3 rfl
    go_wp2_with fail
    refine (markBranch_any k v at_ _ _ _ (unhide PC).oy (unhide HCN (unhide HWL))).mono ?_
    rintro e w9 ⟨rfl, hO9, hT9⟩
    have P9 := hide ((unhide PC).markY hO9 hT9)
    clear hO9 hT9 PC
    clear cy0 cy1 cy2 cy3
    have hk9 : ¬ ((1 + 3 * cntL l : Nat) : Int) < 0 := by omega
    generalize ((1 + 3 * cntL l : Nat) : Int) = kn at *
    go_wp2_with fail
    refine (eqCommandS_any _ _ p w9 (unhide P9).og.read (unhide P9).ow.read (unhide HPL)).mono ?_
    rintro e w10 ⟨rfl, hb10⟩
    have P10 := hide ((unhide P9).below hb10)
    clear hb10 P9
    go_wp2_with fail
    refine (markCommandS_any 1 (by omega) (by omega) _ _ p w10 (unhide P10).og (unhide HPL)).mono ?_
    rintro e w11 ⟨rfl, hO11, hT11⟩
    have P11 := hide ((unhide P10).markG hO11 hT11)
    clear hO11 hT11 P10
    go_wp2_with fail
    refine (heldCommandS_any 1 (by omega) (by omega) _ _ p.length w11 (unhide P11).og (unhide HPL)).mono ?_
    rintro e w12 ⟨rfl, hb12⟩
    have P12 := hide ((unhide P11).below hb12)
    clear hb12 P11
    have cx0 := (unhide P12).x.cell 0 rfl
    have cx1 := (unhide P12).x.cell 1 rfl
    have cx2 := (unhide P12).x.cell 2 rfl
    have cx3 := (unhide P12).x.cell 3 rfl
    have hk12 : ¬ ((1 : Nat) : Int) + 5 * (p.length : Int) < 0 := by omega
    have hk13 := hk12
    simp only [Int.cast_ofNat_Int] at hk13
    go_wp2_with fail
    refine (unhide HTT w12 (unhide P12).b).mono ?_
    rintro e w13 ⟨g13, rfl, hO13, hb13⟩
    have P13 := hide ((unhide P12).below hb13)
    have V13 := hide hO13.brs
    clear hb13 hO13 P12
    clear cx0 cx1 cx2 cx3
    go_wp2_with fail
    refine (unhide HIM _ _ w13 (unhide V13) ((unhide HT).below (unhide P13).b)).mono ?_
    rintro e w14 ⟨hv14, rfl, hO14, hb14⟩
    have P14 := hide ((unhide P13).below hb14)
    have O14 := hide hO14
    clear hb14 hO14 P13 V13
    go_wp2_with fail
    refine (eqCommandS_any _ _ p w14 (unhide O14).read (unhide P14).ow.read (unhide HPL)).mono ?_
    rintro e w16 ⟨rfl, hb16⟩
    have P16 := hide ((unhide P14).below hb16)
    clear hb16 P14 O14
    go_wp2_with fail
    refine (heldCommandS_any 1 (by omega) (by omega) _ _ p.length w16 (unhide P16).og (unhide HPL)).mono ?_
    rintro e w17 ⟨rfl, hb17⟩
    have P17 := hide ((unhide P16).below hb17)
    clear hb17 P16
    go_wp2_with fail
    go_ret
    exact ⟨rfl, (unhide P17).b⟩

theorem vars_of_laid {W : World} (h : laidMetH Tryd.prog Rows.fnExactMapListRow.laid W) :
    W.var? Tryd.prog "loop.example/g00220/impl.firstWords" = some firstCells ∧ W.var? Tryd.prog "loop.example/g00220/impl.roundWords" = some roundCells := by
  rw [MakeChecks.laidMetH_plain _ _ _ (by kernel_rfl)] at h
  obtain ⟨ps, ⟨g0, t0, cs0, f0, p0, q0, hg0, ht0, hv0, hd0, ⟨g1, t1, cs1, f1, p1, q1, hg1, ht1, hv1, hd1, _, _⟩, _⟩, _, _⟩ := h
  obtain rfl := Option.some.inj (gFirst.symm.trans hg0)
  obtain rfl := Option.some.inj (gRound.symm.trans hg1)
  obtain rfl := Option.some.inj (gFirstType.symm.trans ht0)
  obtain rfl := Option.some.inj (gRoundType.symm.trans ht1)
  have e0 := Lib.cells_of_tab (k := .u32) (cs := cs0.toList) (zs := iL.map fun (n : Nat) => (n : Int)) Tryd.underlying118 Tryd.underlying113 cellsE cellsA hd0
  have e1 := Lib.cells_of_tab (k := .u32) (cs := cs1.toList) (zs := kL.map fun (n : Nat) => (n : Int)) Tryd.underlying122 Tryd.underlying113 cellsE cellsB hd1
  have a0 : cs0 = firstCells := by
    have : cs0.toList = firstCells.toList := e0.trans (by kernel_rfl)
    exact Array.toList_inj.1 this
  have a1 : cs1 = roundCells := by
    have : cs1.toList = roundCells.toList := e1.trans (by kernel_rfl)
    exact Array.toList_inj.1 this
  exact ⟨by rw [hv0, a0], by rw [hv1, a1]⟩
theorem door_met (os : Os) (args : Array Value) : laidMetH Tryd.prog Rows.fnExactMapListRow.laid ((World.doorLaid Tryd.prog 19 os).forCall (fun _ _ => 0) ⟨#[], args, []⟩).memory :=
  laidMetH_of_parts3 (fuel := 8) (laidMet_of_run' 8 (by kernel_rfl) (by kernel_rfl)) (by kernel_rfl) (by kernel_rfl)
set_option maxRecDepth 100000 in
theorem lifted (os : Os) (started : os.Started) (H : Type) (enc : TypeId × Value → H) :
    ReturnsInHanded {} Tryd.checked os 8 .any (fun w args => (Rows.fnExactMapListSpec.pre enc Tryd.prog Tryd.f8 [] false w args ∧ laidMetH Tryd.prog Rows.fnExactMapListRow.laid w) ∧ sizedMet enc Tryd.prog Tryd.f8 (OpenSpec.ofChange Rows.fnExactMapListSpec) false w args)
      (Rows.fnExactMapListSpec.post enc Tryd.prog Tryd.f8 false true false false) := by
  refine returnsInHanded_of_change_and (C := Tryd.checked) (X := fun w _ => laidMetH Tryd.prog Rows.fnExactMapListRow.laid w) (fun _ _ _ hh h => h.of_heap hh) own started (by kernel_rfl) Tryd.func8
    (ChangeSpec.witness_shaped (enc := enc) (C := Tryd.checked) (os := os) (X := fun w _ => laidMetH Tryd.prog Rows.fnExactMapListRow.laid w) false (World.doorLaid Tryd.prog 19 os) #[.agg #[.string ByteArray.empty, .string ByteArray.empty, .int .i64 0, .slice none 0 0]] 8 rfl (World.shaped_of_RefB (by kernel_rfl) (by kernel_rfl)) (by kernel_rfl) (by kernel_rfl) (by kernel_rfl) (door_met os _)) ?_
  intro W base args ds gs before hval0 hW _ _ hL _
  have hval : ∀ (j : Nat) t v, Tryd.f8.params[j]? = some t → args[j]? = some v → Value.okWide Tryd.prog W .any base t v := hval0
  have hW' := hW
  obtain ⟨p, q, hA0, hV0, rfl, hfz, hnd⟩ := hW
  have hA : DataW.TrodAll enc Tryd.prog W 0 (fun _ => true) true Tryd.f8.params.toList args.toList ds p := hA0
  have hV : DataW.TrodVars enc Tryd.prog W (fun _ => true) ["loop.example/g00220/impl.firstWords", "loop.example/g00220/impl.roundWords"] gs q := hV0
  rw [Tryd.params8] at hA hval
  obtain ⟨v0, vs0, d0, ds0, p0, q0, hargs, rfl, rfl, h0, r0⟩ := trodAll_cons hA
  obtain ⟨rfl, rfl, rfl⟩ := trodAll_nil r0
  obtain rfl : args = #[v0] := by cases args; simp_all
  have k0 := h0
  have lt0 : ∀ x ∈ p0, x.block < W.heap.size := by obtain ⟨m, hm⟩ := k0; exact DataW.trod_lt m _ _ _ hm
  obtain ⟨ky0, va0, at0, u0, l0, rfl, hf0, hz0, hy0⟩ := open_branch (hval 0 33 v0 rfl rfl) h0
  obtain ⟨hv1, hv2⟩ := vars_of_laid hL
  clear hA0 hV0 hval0
  refine (walk ky0 va0 at0 u0 l0 W hf0 hz0 hy0 (first_of hv1) (table_of hv2)).mono fun e W' ⟨he, bel⟩ => ?_
  subst he
  obtain ⟨rfl, pv, hvs⟩ := vars_again (sp := fun b => decide (b < W.heap.size)) hv1 hv2 hV bel
  exact ⟨_, rfl, _, _, _, [], _, pv, hW', trodAll_mk1 (shut_bool Tryd.underlying4 _), (trodAll_cons_mk (Below.trod laidOut (by kernel_rfl) (of_decide_eq_true (by kernel_rfl)) k0 bel lt0) trodAll_mk0), hvs, bel.frame _, fun h => by cases h⟩

theorem said : Rows.FnExactMapListSaid :=
  OpenClaim.holds_of_wide 8 Tryd.f8 rfl rfl rfl rfl rfl rfl rfl ⟨rfl, rfl, rfl, rfl, rfl⟩ rfl rfl rfl rfl rfl (by kernel_rfl) Tryd.func8 (by kernel_rfl)
    (of_decide_eq_true (by kernel_rfl)) (by unfold Func.isWrapper; first | (rw [if_pos (by decide +kernel)]; kernel_rfl) | (rw [if_neg (by decide +kernel)]; exact ⟨rfl, rfl⟩))
    (fun os started H enc _ => lifted os started H enc)

theorem plain (f : FuncId) (fn : Func) (hf : Tryd.pinned.checked.prog.funcNamed "loop.example/g00220/laws.FnExactMapList" = some f) (hfn : Tryd.pinned.checked.prog.funcs[f]? = some fn) :
    false = Tryd.pinned.checked.prog.looks [] ∧ ∀ (j : Nat) t, fn.params[j]? = some t → Tryd.pinned.checked.prog.wantsStandIn t = false := by
  obtain rfl : f = 8 := Option.some.inj ((show Tryd.prog.funcNamed "loop.example/g00220/laws.FnExactMapList" = some 8 by kernel_rfl).symm.trans hf) |>.symm
  obtain rfl : fn = Tryd.f8 := (Option.some.inj (Tryd.func8.symm.trans hfn)).symm
  refine ⟨by kernel_rfl, fun j t ht => ?_⟩
  rw [Tryd.params8] at ht
  obtain rfl : t = 33 := by
    have := Array.mem_of_getElem? ht
    simpa using this
  exact (show Tryd.prog.wantsStandIn 33 = false by kernel_rfl)
end Go.Proofs.YtcmdilmjdnbfkaaDoor.fnExactMapList
namespace Go.Proofs.YtcmdilmjdnbfkaaDoor
theorem fnExactMapList_card : Rows.FnExactMapListCardSaid :=
  Claim7.holds_tied_plain_at .later [] _ _ _ _ fnExactMapList.said (fun _ h => by cases h) (by kernel_rfl) (fun _ h => by cases h) fnExactMapList_row_tie rfl ⟨rfl, rfl⟩ (by kernel_rfl) rfl fnExactMapList.plain (by kernel_rfl)
#print axioms fnExactMapList_card
end Go.Proofs.YtcmdilmjdnbfkaaDoor
