/- For every branch and every two texts that can be read, laws.FnExactMapPut returns true, the branch reads as it did, and so do the two tables of words, which the card ties to the program's text. Condition: the listed tables start as the program's text lays them. -/
import Derived.Test.YtgmaappilopgbaaDoorGtb
import Derived.Test.YtgmaappilopgbaaDoorLawG
import Derived.Test.YtgmaappilopgbaaDoorCards
import Derived.Test.YtgmaappilopgbaaDoorTie
namespace Go.Proofs.YtgmaappilopgbaaDoor.fnExactMapPut
open Go.ChangeShapes Go.WideShapes Go.ChangeAt Go.RowKit Sha
open Go.ChangeMaps (open_string shut_string)
set_option linter.unusedVariables false

theorem mp_cnt (k v : ByteArray) (a : Int) (l : List Br) (key val : ByteArray) : cntL (mpOut (.mk k v a l) key val).1.kids ≤ 82 := by
  have h0 : cntL (brOf none).kids ≤ 82 := by show cntL [] ≤ _; unfold cntL; omega
  unfold mpOut
  split
  · cases hm : mapV (.mk k v a l) with
    | none => exact h0
    | some o =>
      dsimp only
      cases o with
      | none => show cntL [] ≤ _; unfold cntL; omega
      | some t =>
        unfold mpO
        dsimp only
        split
        · exact h0
        · have h1 := tr_cntL (putT (kh key) (putAt t key) key val t)
          have h2 := putT_lvN (kh key) (putAt t key) key val (fd_le _ _) t (mapV_br hm).2
          have h3 := (mapV_sep hm).2
          have h4 : (putT (kh key) (putAt t key) key val t).lvN ≤ 41 := by rw [h2]; split <;> omega
          show cntL (putT (kh key) (putAt t key) key val t).toBr.kids ≤ 82
          omega
  · exact h0
/-- What is carried on: all that was there; the argument's box; the specification's answer in box W, the argument handed in in box Y, the program's answer in box G. -/
structure Kw (w : World) (W Y G : Nat) (ax : List Value) (Sw Sx Sg : Nat → Prop) (wh yh gh : List Value) (wv yv gv : Value) (p lx pg : List Br) (wx : World) : Prop where
  b : Below w.heap.size w wx
  x : Blk wx w.heap.size ax
  bw : Blk wx W (wh ++ [wv])
  ow : BrO wx Sw wv p
  by_ : Blk wx Y (yh ++ [yv])
  oy : BrO wx Sx yv lx
  bg : Blk wx G (gh ++ [gv])
  og : BrO wx Sg gv pg
  dy : ∀ q, Sx q → w.heap.size < q ∧ q ≠ W ∧ q ≠ Y ∧ q ≠ G ∧ ¬ Sw q ∧ ¬ Sg q
  dg : ∀ q, Sg q → w.heap.size < q ∧ q ≠ W ∧ q ≠ Y ∧ q ≠ G ∧ ¬ Sw q ∧ ¬ Sx q
variable {w : World} {W Y G : Nat} {ax : List Value} {Sw Sx Sg : Nat → Prop} {wh yh gh : List Value} {wv yv gv : Value} {p lx pg : List Br} {wx : World}
theorem Kw.below {wy : World} (h : Kw w W Y G ax Sw Sx Sg wh yh gh wv yv gv p lx pg wx) (hb : Below wx.heap.size wx wy) : Kw w W Y G ax Sw Sx Sg wh yh gh wv yv gv p lx pg wy :=
  ⟨h.b.trans (hb.mono h.b.size), h.x.below hb, h.bw.below hb, h.ow.blw hb, h.by_.below hb, h.oy.blw hb, h.bg.below hb, h.og.blw hb, h.dy, h.dg⟩
theorem Kw.markY {wy : World} {lx' : List Br} (h : Kw w W Y G ax Sw Sx Sg wh yh gh wv yv gv p lx pg wx) (ho : BrO wy Sx yv lx') (ht : Touch Sx wx wy) : Kw w W Y G ax Sw Sx Sg wh yh gh wv yv gv p lx' pg wy :=
  ⟨h.b.trans (ht.below h.b.size (fun k hk e => by have := (h.dy k e).1; omega)), h.x.kept ht (fun e => by have := (h.dy _ e).1; omega), h.bw.kept ht (fun e => (h.dy _ e).2.1 rfl), h.ow.touch ht (fun k hk e => (h.dy k e).2.2.2.2.1 hk), h.by_.kept ht (fun e => (h.dy _ e).2.2.1 rfl), ho, h.bg.kept ht (fun e => (h.dy _ e).2.2.2.1 rfl), h.og.touch ht (fun k hk e => (h.dy k e).2.2.2.2.2 hk), h.dy, h.dg⟩
theorem Kw.markG {wy : World} {pg' : List Br} (h : Kw w W Y G ax Sw Sx Sg wh yh gh wv yv gv p lx pg wx) (ho : BrO wy Sg gv pg') (ht : Touch Sg wx wy) : Kw w W Y G ax Sw Sx Sg wh yh gh wv yv gv p lx pg' wy :=
  ⟨h.b.trans (ht.below h.b.size (fun k hk e => by have := (h.dg k e).1; omega)), h.x.kept ht (fun e => by have := (h.dg _ e).1; omega), h.bw.kept ht (fun e => (h.dg _ e).2.1 rfl), h.ow.touch ht (fun k hk e => (h.dg k e).2.2.2.2.1 hk), h.by_.kept ht (fun e => (h.dg _ e).2.2.1 rfl), h.oy.touch ht (fun k hk e => (h.dg k e).2.2.2.2.2 hk), h.bg.kept ht (fun e => (h.dg _ e).2.2.2.1 rfl), ho, h.dy, h.dg⟩
set_option maxRecDepth 100000 in
set_option maxHeartbeats 8000000 in
theorem walk (k v : ByteArray) (at_ : Int) (u : Value) (l : List Br) (key val : ByteArray) (w : World) (hB : Brs (fun _ => True) w u l) (hk : k.size ≤ maxLen) (hv : v.size ≤ maxLen) (hky : key.size ≤ maxLen) (hvl : val.size ≤ maxLen) (hf : First w) (ht : Table w) :
    Calls Tryd.prog 3 #[.agg #[.string k, .string v, .int .i64 at_, u], .string key, .string val] w fun e w' => e = .returned (.bool true) ∧ Below w.heap.size w w' := by
  have HT := hide (show Tab w from ⟨hf, ht⟩)
  obtain ⟨sa, cap, rfl, hcap, hcm⟩ := hB.shape
  have HB := hide hB
  have HZ := hide (And.intro hk hv)
  have B0 := hide ((Below.refl w.heap.size w).alloc (Nat.le_refl _) (.cells #[.string k, .string v, .int .i64 at_, .slice sa l.length cap] 24))
  have X0 := hide (Blk.new w #[.string k, .string v, .int .i64 at_, .slice sa l.length cap] 24 w.heap.size rfl)
  have HS := hide (fun wx (hx : Below w.heap.size w wx) => szBranch_of k v at_ l sa l.length cap 1048576 wx (by omega) (by omega) hk hv (fun L wy h0 h1 hy => szBranchS_any hB L wy h0 h1 (hx.trans (hy.mono hx.size))))
  have HW := hide (Br.wt_eq (.mk k v at_ l))
  have hwl := Br.wt_lo (.mk k v at_ l)
  have HC := hide (szB_cases 1048576 (Br.mk k v at_ l).wt hwl)
  have HL := hide (fun (h : (Br.mk k v at_ l).wt ≤ 1048576) => show wtL l ≤ 1048576 by have := unhide HW; simp only [Br.key, Br.val, Br.kids] at this; omega)
  have HTO := hide (fun (h : wtL l ≤ 1048576) wx (hx : Below w.heap.size w wx) => toBranch_of k v at_ l sa l.length cap wx (fun wy hy => toBranchS_any hB h wy (hx.trans (hy.mono hx.size))))
  have HCN := hide (fun (h : wtL l ≤ 1048576) => show 1 + 3 * cntL l ≤ 8388608 by have := cntL_wt l; omega)
  have HSP := hide (fun (hky : key.size ≤ 1048576) (hvl : val.size ≤ 1048576) (S : Nat → Prop) (kv : Value) (wx : World) (hb : Brs S wx kv l) => specMapPut_any k v at_ l key val S kv wx hb hk hv hky hvl)
  have HIM := hide (fun (hky : key.size ≤ 1048576) (hvl : val.size ≤ 1048576) (S : Nat → Prop) (kv : Value) (wx : World) (hb : Brs S wx kv l) (ht : Tab wx) => implMapPut_any k v at_ l key val S kv wx hb hk hv hky hvl ht)
  have HPC := hide (fun (hcn : cntL l ≤ 1048576) => show 1 + 3 * cntL (mpOut (.mk k v at_ l) key val).1.kids ≤ 8388608 by have := mp_cnt k v at_ l key val; omega)
  generalize (mpOut (.mk k v at_ l) key val).2 = pc at *
  generalize (mpOut (.mk k v at_ l) key val).1 = D at *
  obtain ⟨pk, pv, pa, p⟩ := D
  dsimp only [BrV, Br.key, Br.val, Br.at_, Br.kids] at HSP HIM HPC
  obtain ⟨kq, hkq⟩ : ∃ kq : Int, kq = ((1 + 3 * cntL p : Nat) : Int) := ⟨_, rfl⟩
  have HKQ : Hid (0 ≤ kq) := hide (by omega)
  have HMK := hide (fun (hc : 1 + 3 * cntL p ≤ 8388608) (x : Option Addr) (n c : Nat) (Sq : Nat → Prop) (wx : World) (h : BrO wx Sq (.slice x n c) p) => markBranch_any pk pv pa x n c h hc)
  have HHD := hide (fun (hc : 1 + 3 * cntL p ≤ 8388608) (x : Option Addr) (n c : Nat) (Sq : Nat → Prop) (wx : World) (h : Brs Sq wx (.slice x n c) (markL 1 p)) => heldBranch_any pk pv pa x n c h hc)
  rw [← hkq] at HMK HHD
  clear hkq
  have HCN2 := hide (fun (h : wtL l ≤ 1048576) => show cntL l ≤ 1048576 by have := cntL_wt l; omega)
  clear hf ht hB hk hv hwl hcm hcap
  generalize (Br.mk k v at_ l).wt = wt at *
  generalize szB 1048576 wt = r at *
  unfold maxLen at hky hvl
  by_cases hkl : 1048576 < key.size
  · go_enter Tryd.func3, Tryd.ntmps3
    go_wp2_with fail
    go_ret
    exact ⟨rfl, unhide B0⟩
  by_cases hvl2 : 1048576 < val.size
  · go_enter Tryd.func3, Tryd.ntmps3
    go_wp2_with fail
    go_ret
    exact ⟨rfl, unhide B0⟩
  go_enter Tryd.func3, Tryd.ntmps3
  go_wp2_with fail
  generalize w.alloc (.cells #[.string k, .string v, .int .i64 at_, .slice sa l.length cap] 24) = w0 at *
  refine (unhide HS w0 (unhide B0)).mono ?_
  rintro e w1 ⟨rfl, hb1⟩
  have K1 := hide ((unhide B0).trans (hb1.mono (unhide B0).size))
  have X1 := (unhide X0).below hb1
  have x10 := X1.cell 0 rfl
  have x11 := X1.cell 1 rfl
  have x12 := X1.cell 2 rfl
  have x13 := X1.cell 3 rfl
  have HX1 := hide X1
  clear hb1 B0 X0 X1 HS
  rcases unhide HC with hr | ⟨hr, _, hrw⟩
  · subst hr
    go_wp2_with fail
    go_ret
    exact ⟨rfl, unhide K1⟩
  have HWL := hide (unhide HL hrw)
  have HTT := hide (unhide HTO (unhide HWL))
  have hr2 : ¬ r < 0 := by omega
  clear HL HTO hr
  go_wp2_with fail
  refine (unhide HTT w1 (unhide K1)).mono ?_
  rintro e w2 ⟨g2, rfl, hO2, hb2⟩
  have K2 := hide ((unhide K1).trans (hb2.mono (unhide K1).size))
  have V2 := hide hO2.brs
  have X2 := (unhide HX1).below hb2
  have x20 := X2.cell 0 rfl
  have x21 := X2.cell 1 rfl
  have x22 := X2.cell 2 rfl
  have x23 := X2.cell 3 rfl
  have HX2 := hide X2
  clear hb2 hO2 X2 HX1 x10 x11 x12 x13 K1
  go_wp2_with fail
  refine (unhide HSP (by omega) (by omega) _ _ w2 (unhide V2)).mono ?_
  rintro e w3 ⟨u3, rfl, ⟨wa, wn, wq, rfl, hO3⟩, hb3⟩
  obtain ⟨_, _, hsh3, _, _⟩ := hO3.shape
  cases hsh3
  have K3 := (unhide K2).trans (hb3.mono (unhide K2).size)
  have X3 := (unhide HX2).below hb3
  have BB3 := (Below.refl w3.heap.size w3).alloc (Nat.le_refl _) (.cells #[.string pk, .string pv, .int .i64 pa, .slice wa p.length wq] 28)
  have K3b := hide (K3.trans (BB3.mono K3.size))
  have X3b := X3.below BB3
  have W3b := hide (Blk.new w3 #[.string pk, .string pv, .int .i64 pa, .slice wa p.length wq] 28 w3.heap.size rfl)
  have O3b := hide (hO3.blw BB3)
  have Z3 := hide (And.intro (And.intro (unhide HX2).1 hb3.size) (And.intro (show w2.heap.size ≤ w3.heap.size from hb3.size) (show (w3.alloc (.cells #[.string pk, .string pv, .int .i64 pa, .slice wa p.length wq] 28)).heap.size = w3.heap.size + 1 by simp)))
  have x30 := X3b.cell 0 rfl
  have x31 := X3b.cell 1 rfl
  have x32 := X3b.cell 2 rfl
  have x33 := X3b.cell 3 rfl
  have HX3 := hide X3b
  clear hb3 hO3 X3 X3b K3 BB3 HX2 x20 x21 x22 x23 K2 V2
  go_wp2_with fail
  generalize w3.alloc (.cells #[.string pk, .string pv, .int .i64 pa, .slice wa p.length wq] 28) = w3b at *
  refine (unhide HTT w3b (unhide K3b)).mono ?_
  rintro e w4 ⟨g4, rfl, hO4, hb4⟩
  have K4 := (unhide K3b).trans (hb4.mono (unhide K3b).size)
  have X4 := (unhide HX3).below hb4
  have W4 := (unhide W3b).below hb4
  have O4w := (unhide O3b).blw hb4
  have BB := (Below.refl w4.heap.size w4).alloc (Nat.le_refl _) (.cells #[.string k, .string v, .int .i64 at_, .slice (some ⟨g4, 0, none⟩) l.length l.length] 28)
  have O4 := hide (hO4.blw BB)
  have Y4 := hide (Blk.new w4 #[.string k, .string v, .int .i64 at_, .slice (some ⟨g4, 0, none⟩) l.length l.length] 28 w4.heap.size rfl)
  have K4b := hide (K4.trans (BB.mono K4.size))
  have HX4b := hide (X4.below BB)
  have W4b := hide (W4.below BB)
  have O4wb := hide (O4w.blw BB)
  have Z4 := hide (And.intro hb4.size (show (w4.alloc (.cells #[.string k, .string v, .int .i64 at_, .slice (some ⟨g4, 0, none⟩) l.length l.length] 28)).heap.size = w4.heap.size + 1 by simp))
  clear hb4 hO4 X4 W4 O4w HX3 W3b O3b x30 x31 x32 x33 K3b BB K4
  go_wp2_with fail
  generalize w4.alloc (.cells #[.string k, .string v, .int .i64 at_, .slice (some ⟨g4, 0, none⟩) l.length l.length] 28) = w4b at *
  refine (unhide HIM (by omega) (by omega) _ _ w4b (unhide O4).brs ((unhide HT).below (unhide K4b))).mono ?_
  rintro e w5 ⟨u5, rfl, ⟨ga, gn, gc, rfl, hO5⟩, hb5⟩
  obtain ⟨_, _, hsh5, _, _⟩ := hO5.shape
  cases hsh5
  have K5 := (unhide K4b).trans (hb5.mono (unhide K4b).size)
  have BB5 := (Below.refl w5.heap.size w5).alloc (Nat.le_refl _) (.cells #[.string pk, .string pv, .int .i64 pa, .slice ga p.length gc] 28)
  have P5 : Hid (Kw w w3.heap.size w4.heap.size w5.heap.size [.string k, .string v, .int .i64 at_, .slice sa l.length cap] (fun b => w2.heap.size ≤ b ∧ b < w3.heap.size) (fun b => w3b.heap.size ≤ b ∧ b < w4.heap.size) (fun b => w4b.heap.size ≤ b ∧ b < w5.heap.size) [.string pk, .string pv, .int .i64 pa] [.string k, .string v, .int .i64 at_] [.string pk, .string pv, .int .i64 pa] (.slice wa p.length wq) (.slice (some ⟨g4, 0, none⟩) l.length l.length) (.slice ga p.length gc) p l p (w5.alloc (.cells #[.string pk, .string pv, .int .i64 pa, .slice ga p.length gc] 28))) := hide (by
    obtain ⟨z31, z32, z33⟩ := unhide Z3
    obtain ⟨z41, z42⟩ := unhide Z4
    have z5 := hb5.size
    refine ⟨K5.trans (BB5.mono K5.size), ((unhide HX4b).below hb5).below BB5, ((unhide W4b).below hb5).below BB5, ((unhide O4wb).blw hb5).blw BB5, ((unhide Y4).below hb5).below BB5, ((unhide O4).blw hb5).blw BB5, Blk.new w5 _ _ w5.heap.size rfl, hO5.blw BB5, ?_, ?_⟩
    · intro q hq
      exact ⟨by omega, by omega, by omega, by omega, fun e => by omega, fun e => by omega⟩
    · intro q hq
      exact ⟨by omega, by omega, by omega, by omega, fun e => by omega, fun e => by omega⟩)
  clear hb5 hO5 K5 BB5 K4b HX4b W4b O4wb O4 Y4 Z3 Z4
  have cw0 := (unhide P5).bw.cell 0 rfl
  have cw1 := (unhide P5).bw.cell 1 rfl
  have cw2 := (unhide P5).bw.cell 2 rfl
  have cw3 := (unhide P5).bw.cell 3 rfl
  have cg0 := (unhide P5).bg.cell 0 rfl
  have cg1 := (unhide P5).bg.cell 1 rfl
  have cg2 := (unhide P5).bg.cell 2 rfl
  have cg3 := (unhide P5).bg.cell 3 rfl
  go_wp2_with fail
  generalize w5.alloc (.cells #[.string pk, .string pv, .int .i64 pa, .slice ga p.length gc] 28) = w5b at *
  generalize w3.heap.size = W at *
  generalize w4.heap.size = Y at *
  generalize w5.heap.size = G at *
  generalize hSx : (fun b => w3b.heap.size ≤ b ∧ b < Y) = Sx at *
  generalize hSw : (fun b => w2.heap.size ≤ b ∧ b < W) = Sw at *
  generalize hSg : (fun b => w4b.heap.size ≤ b ∧ b < G) = Sg at *
  clear hSx hSw hSg
  refine (eqBranch_of pk pv pa ga wa p.length p.length gc wq w5b (fun wx hx => eqBranchS_any (unhide P5).og.brs _ _ wx hx ((unhide P5).ow.blw hx).brs)).mono ?_
  rintro e w6 ⟨rfl, hb6⟩
  have P6 := hide ((unhide P5).below hb6)
  clear hb6 P5 cw0 cw1 cw2 cw3 cg0 cg1 cg2 cg3
  have cy0 := (unhide P6).by_.cell 0 rfl
  have cy1 := (unhide P6).by_.cell 1 rfl
  have cy2 := (unhide P6).by_.cell 2 rfl
  have cy3 := (unhide P6).by_.cell 3 rfl
  have cx0 := (unhide P6).x.cell 0 rfl
  have cx1 := (unhide P6).x.cell 1 rfl
  have cx2 := (unhide P6).x.cell 2 rfl
  have cx3 := (unhide P6).x.cell 3 rfl
  have HD6 := hide (below_drewN (Below.refl w6.heap.size w6) 1)
  have P6d := hide ((unhide P6).below (unhide HD6))
  have HTW := hide (unhide HTT w6.drew (unhide P6d).b)
  have hzy := (unhide P6).by_.1
  have hzx := (unhide P6).x.1
  have V6d := hide (unhide P6d).oy.brs
  go_upto_region 14 with fail
  go_cut [59] (fun s wx => s = .bool false ∧ Kw w W Y G [.string k, .string v, .int .i64 at_, .slice sa l.length cap] Sw Sx Sg [.string pk, .string pv, .int .i64 pa] [.string k, .string v, .int .i64 at_] [.string pk, .string pv, .int .i64 pa] (.slice wa p.length wq) (.slice (some ⟨g4, 0, none⟩) l.length l.length) (.slice ga p.length gc) p l p wx)
  case first =>
    go_wp2_with fail
    go_region_held3 (fun wx => wx.cell? ⟨Y, 0, none⟩ = some (.string k) ∧ wx.cell? ⟨Y, 1, none⟩ = some (.string v) ∧ wx.cell? ⟨Y, 2, none⟩ = some (.int .i64 at_) ∧ wx.cell? ⟨Y, 3, none⟩ = some (.slice (some ⟨g4, 0, none⟩) l.length l.length) ∧ wx.cell? ⟨w.heap.size, 0, none⟩ = some (.string k) ∧ wx.cell? ⟨w.heap.size, 1, none⟩ = some (.string v) ∧ wx.cell? ⟨w.heap.size, 2, none⟩ = some (.int .i64 at_) ∧ wx.cell? ⟨w.heap.size, 3, none⟩ = some (.slice sa l.length cap))
      (first | go_keep | exact ⟨P8.by_.cell 0 rfl, P8.by_.cell 1 rfl, P8.by_.cell 2 rfl, P8.by_.cell 3 rfl, P8.x.cell 0 rfl, P8.x.cell 1 rfl, P8.x.cell 2 rfl, P8.x.cell 3 rfl⟩ | exact ⟨P7.by_.cell 0 rfl, P7.by_.cell 1 rfl, P7.by_.cell 2 rfl, P7.by_.cell 3 rfl, P7.x.cell 0 rfl, P7.x.cell 1 rfl, P7.x.cell 2 rfl, P7.x.cell 3 rfl⟩)
      (first
        | (go_at_call 12; refine (eqBranch_of k v at_ (some ⟨g4, 0, none⟩) (some ⟨g7, 0, none⟩) l.length l.length l.length l.length w7 (fun wx hx => eqBranchS_any P7.oy.brs _ _ wx hx (hO7.blw hx).brs)).mono ?_; rintro e w8 ⟨rfl, hb8⟩; have P8 := P7.below hb8)
        | (go_at_call 10; refine (unhide HTW).mono ?_; rintro e w7 ⟨g7, rfl, hO7, hb7⟩; have P7 := (unhide P6d).below hb7))
    all_goals
      have HP8 := hide P8
      clear hb7 hb8 hO7 P7 P8
      go_wp2_with fail
      go_meet
      exact ⟨rfl, unhide HP8⟩
  case rest =>
    obtain ⟨rfl, hPc⟩ := hcut
    have PC := hide hPc
    clear hPc P6 P6d HTW V6d HD6 hzy hzx
    clear cy0 cy1 cy2 cy3 cx0 cx1 cx2 cx3
    have cy0 := (unhide PC).by_.cell 0 rfl
    have cy1 := (unhide PC).by_.cell 1 rfl
    have cy2 := (unhide PC).by_.cell 2 rfl
    have cy3 := (unhide PC).by_.cell 3 rfl
    go_wp2_with fail
    refine (markBranch_any k v at_ _ _ _ (unhide PC).oy (unhide HCN (unhide HWL))).mono ?_
    rintro e w9 ⟨rfl, hO9, hT9⟩
    have P9 := hide ((unhide PC).markY hO9 hT9)
    clear hO9 hT9 PC
    clear cy0 cy1 cy2 cy3
    have hk9 : ¬ ((1 + 3 * cntL l : Nat) : Int) < 0 := by omega
    generalize ((1 + 3 * cntL l : Nat) : Int) = kn at *
    have cw0 := (unhide P9).bw.cell 0 rfl
    have cw1 := (unhide P9).bw.cell 1 rfl
    have cw2 := (unhide P9).bw.cell 2 rfl
    have cw3 := (unhide P9).bw.cell 3 rfl
    have cg0 := (unhide P9).bg.cell 0 rfl
    have cg1 := (unhide P9).bg.cell 1 rfl
    have cg2 := (unhide P9).bg.cell 2 rfl
    have cg3 := (unhide P9).bg.cell 3 rfl
    go_wp2_with fail
    refine (eqBranch_of pk pv pa ga wa p.length p.length gc wq w9 (fun wx hx => eqBranchS_any (unhide P9).og.brs _ _ wx hx ((unhide P9).ow.blw hx).brs)).mono ?_
    rintro e w10 ⟨rfl, hb10⟩
    have P10 := hide ((unhide P9).below hb10)
    clear hb10 P9
    clear cw0 cw1 cw2 cw3 cg0 cg1 cg2 cg3
    have cg0 := (unhide P10).bg.cell 0 rfl
    have cg1 := (unhide P10).bg.cell 1 rfl
    have cg2 := (unhide P10).bg.cell 2 rfl
    have cg3 := (unhide P10).bg.cell 3 rfl
    go_wp2_with fail
    refine (unhide HMK (unhide HPC (unhide HCN2 (unhide HWL))) _ _ _ _ _ (unhide P10).og).mono ?_
    rintro e w11 ⟨rfl, hO11, hT11⟩
    have P11 := hide ((unhide P10).markG hO11 hT11)
    clear hO11 hT11 P10
    clear cg0 cg1 cg2 cg3
    have cg0 := (unhide P11).bg.cell 0 rfl
    have cg1 := (unhide P11).bg.cell 1 rfl
    have cg2 := (unhide P11).bg.cell 2 rfl
    have cg3 := (unhide P11).bg.cell 3 rfl
    go_wp2_with fail
    refine (unhide HHD (unhide HPC (unhide HCN2 (unhide HWL))) _ _ _ _ _ (unhide P11).og.brs).mono ?_
    rintro e w12 ⟨rfl, hb12⟩
    have P12 := hide ((unhide P11).below hb12)
    clear hb12 P11
    clear cg0 cg1 cg2 cg3
    have cx0 := (unhide P12).x.cell 0 rfl
    have cx1 := (unhide P12).x.cell 1 rfl
    have cx2 := (unhide P12).x.cell 2 rfl
    have cx3 := (unhide P12).x.cell 3 rfl
    have hk12 : ¬ kq < 0 := by have := unhide HKQ; omega
    go_wp2_with fail
    refine (unhide HTT w12 (unhide P12).b).mono ?_
    rintro e w13 ⟨g13, rfl, hO13, hb13⟩
    have P13 := hide ((unhide P12).below hb13)
    have V13 := hide hO13.brs
    clear hb13 hO13 P12
    clear cx0 cx1 cx2 cx3
    go_wp2_with fail
    refine (unhide HIM (by omega) (by omega) _ _ w13 (unhide V13) ((unhide HT).below (unhide P13).b)).mono ?_
    rintro e w14 ⟨u14, rfl, ⟨ha, hn, hc, rfl, hO14⟩, hb14⟩
    obtain ⟨_, _, hsh14, _, _⟩ := hO14.shape
    cases hsh14
    have BB14 := (Below.refl w14.heap.size w14).alloc (Nat.le_refl _) (.cells #[.string pk, .string pv, .int .i64 pa, .slice ha p.length hc] 28)
    have P14 := hide (((unhide P13).below hb14).below BB14)
    have O14 := hide (hO14.blw BB14)
    have H14 := hide (Blk.new w14 #[.string pk, .string pv, .int .i64 pa, .slice ha p.length hc] 28 w14.heap.size rfl)
    clear hb14 hO14 P13 V13 BB14
    have cw0 := (unhide P14).bw.cell 0 rfl
    have cw1 := (unhide P14).bw.cell 1 rfl
    have cw2 := (unhide P14).bw.cell 2 rfl
    have cw3 := (unhide P14).bw.cell 3 rfl
    have ch0 := (unhide H14).cell 0 rfl
    have ch1 := (unhide H14).cell 1 rfl
    have ch2 := (unhide H14).cell 2 rfl
    have ch3 := (unhide H14).cell 3 rfl
    go_wp2_with fail
    generalize w14.alloc (.cells #[.string pk, .string pv, .int .i64 pa, .slice ha p.length hc] 28) = w15 at *
    refine (eqBranch_of pk pv pa ha wa p.length p.length hc wq w15 (fun wx hx => eqBranchS_any (unhide O14).brs _ _ wx hx ((unhide P14).ow.blw hx).brs)).mono ?_
    rintro e w16 ⟨rfl, hb16⟩
    have P16 := hide ((unhide P14).below hb16)
    clear hb16 P14 O14 H14 ch0 ch1 ch2 ch3
    clear cw0 cw1 cw2 cw3
    have cg0 := (unhide P16).bg.cell 0 rfl
    have cg1 := (unhide P16).bg.cell 1 rfl
    have cg2 := (unhide P16).bg.cell 2 rfl
    have cg3 := (unhide P16).bg.cell 3 rfl
    go_wp2_with fail
    refine (unhide HHD (unhide HPC (unhide HCN2 (unhide HWL))) _ _ _ _ _ (unhide P16).og.brs).mono ?_
    rintro e w17 ⟨rfl, hb17⟩
    have P17 := hide ((unhide P16).below hb17)
    clear hb17 P16
    go_wp2_with fail
    go_ret
    exact ⟨rfl, (unhide P17).b⟩

theorem vars_of_laid {W : World} (h : laidMetH Tryd.prog Rows.fnExactMapPutRow.laid W) :
    W.var? Tryd.prog "loop.example/g00220/impl.firstWords" = some firstCells ∧ W.var? Tryd.prog "loop.example/g00220/impl.roundWords" = some roundCells := by
  rw [MakeChecks.laidMetH_plain _ _ _ (by kernel_rfl)] at h
  obtain ⟨ps, ⟨g0, t0, cs0, f0, p0, q0, hg0, ht0, hv0, hd0, ⟨g1, t1, cs1, f1, p1, q1, hg1, ht1, hv1, hd1, _, _⟩, _⟩, _, _⟩ := h
  obtain rfl := Option.some.inj (gFirst.symm.trans hg0)
  obtain rfl := Option.some.inj (gRound.symm.trans hg1)
  obtain rfl := Option.some.inj (gFirstType.symm.trans ht0)
  obtain rfl := Option.some.inj (gRoundType.symm.trans ht1)
  have e0 := Lib.cells_of_tab (k := .u32) (cs := cs0.toList) (zs := iL.map fun (n : Nat) => (n : Int)) Tryd.underlying137 Tryd.underlying136 cellsE cellsA hd0
  have e1 := Lib.cells_of_tab (k := .u32) (cs := cs1.toList) (zs := kL.map fun (n : Nat) => (n : Int)) Tryd.underlying141 Tryd.underlying136 cellsE cellsB hd1
  have a0 : cs0 = firstCells := by
    have : cs0.toList = firstCells.toList := e0.trans (by kernel_rfl)
    exact Array.toList_inj.1 this
  have a1 : cs1 = roundCells := by
    have : cs1.toList = roundCells.toList := e1.trans (by kernel_rfl)
    exact Array.toList_inj.1 this
  exact ⟨by rw [hv0, a0], by rw [hv1, a1]⟩
theorem door_met (os : Os) (args : Array Value) : laidMetH Tryd.prog Rows.fnExactMapPutRow.laid ((World.doorLaid Tryd.prog 19 os).forCall (fun _ _ => 0) ⟨#[], args, []⟩).memory :=
  laidMetH_of_parts3 (fuel := 8) (laidMet_of_run' 8 (by kernel_rfl) (by kernel_rfl)) (by kernel_rfl) (by kernel_rfl)
set_option maxRecDepth 100000 in
theorem lifted (os : Os) (started : os.Started) (H : Type) (enc : TypeId × Value → H) :
    ReturnsInHanded {} Tryd.checked os 3 .any (fun w args => (Rows.fnExactMapPutSpec.pre enc Tryd.prog Tryd.f3 [] false w args ∧ laidMetH Tryd.prog Rows.fnExactMapPutRow.laid w) ∧ sizedMet enc Tryd.prog Tryd.f3 (OpenSpec.ofChange Rows.fnExactMapPutSpec) false w args)
      (Rows.fnExactMapPutSpec.post enc Tryd.prog Tryd.f3 false true false false) := by
  refine returnsInHanded_of_change_and (C := Tryd.checked) (X := fun w _ => laidMetH Tryd.prog Rows.fnExactMapPutRow.laid w) (fun _ _ _ hh h => h.of_heap hh) own started (by kernel_rfl) Tryd.func3
    (ChangeSpec.witness_shaped (enc := enc) (C := Tryd.checked) (os := os) (X := fun w _ => laidMetH Tryd.prog Rows.fnExactMapPutRow.laid w) false (World.doorLaid Tryd.prog 19 os) #[.agg #[.string ByteArray.empty, .string ByteArray.empty, .int .i64 0, .slice none 0 0], .string ByteArray.empty, .string ByteArray.empty] 8 rfl (World.shaped_of_RefB (by kernel_rfl) (by kernel_rfl)) (by kernel_rfl) (by kernel_rfl) (by kernel_rfl) (door_met os _)) ?_
  intro W base args ds gs before hval0 hW _ _ hL _
  have hval : ∀ (j : Nat) t v, Tryd.f3.params[j]? = some t → args[j]? = some v → Value.okWide Tryd.prog W .any base t v := hval0
  have hW' := hW
  obtain ⟨p, q, hA0, hV0, rfl, hfz, hnd⟩ := hW
  have hA : DataW.TrodAll enc Tryd.prog W 0 (fun _ => true) true Tryd.f3.params.toList args.toList ds p := hA0
  have hV : DataW.TrodVars enc Tryd.prog W (fun _ => true) ["loop.example/g00220/impl.firstWords", "loop.example/g00220/impl.roundWords"] gs q := hV0
  rw [Tryd.params3] at hA hval
  obtain ⟨v0, vs0, d0, ds0, p0, q0, hargs, rfl, rfl, h0, r0⟩ := trodAll_cons hA
  obtain ⟨v1, vs1, d1, ds1, p1, q1, rfl, rfl, rfl, h1, r1⟩ := trodAll_cons r0
  obtain ⟨v2, vs2, d2, ds2, p2, q2, rfl, rfl, rfl, h2, r2⟩ := trodAll_cons r1
  obtain ⟨rfl, rfl, rfl⟩ := trodAll_nil r2
  obtain rfl : args = #[v0, v1, v2] := by cases args; simp_all
  have k0 := h0
  have lt0 : ∀ x ∈ p0, x.block < W.heap.size := by obtain ⟨m, hm⟩ := k0; exact DataW.trod_lt m _ _ _ hm
  obtain ⟨ky0, va0, at0, u0, l0, rfl, hf0, hz0, hy0⟩ := open_branch (hval 0 24 v0 rfl rfl) h0
  have k1 := h1
  have lt1 : ∀ x ∈ p1, x.block < W.heap.size := by obtain ⟨m, hm⟩ := k1; exact DataW.trod_lt m _ _ _ hm
  obtain ⟨a1, rfl, _, _, w1⟩ := open_string Tryd.underlying9 (hval 1 9 v1 rfl rfl) h1
  have k2 := h2
  have lt2 : ∀ x ∈ p2, x.block < W.heap.size := by obtain ⟨m, hm⟩ := k2; exact DataW.trod_lt m _ _ _ hm
  obtain ⟨a2, rfl, _, _, w2⟩ := open_string Tryd.underlying9 (hval 2 9 v2 rfl rfl) h2
  obtain ⟨hv1, hv2⟩ := vars_of_laid hL
  clear hA0 hV0 hval0
  refine (walk ky0 va0 at0 u0 l0 a1 a2 W hf0 hz0 hy0 w1 w2 (first_of hv1) (table_of hv2)).mono fun e W' ⟨he, bel⟩ => ?_
  subst he
  obtain ⟨rfl, pv, hvs⟩ := vars_again (sp := fun b => decide (b < W.heap.size)) hv1 hv2 hV bel
  exact ⟨_, rfl, _, _, _, [], _, pv, hW', trodAll_mk1 (shut_bool Tryd.underlying4 _), (trodAll_cons_mk (Below.trod laidOut (by kernel_rfl) (of_decide_eq_true (by kernel_rfl)) k0 bel lt0) (trodAll_cons_mk (Below.trod laidOut (by kernel_rfl) (of_decide_eq_true (by kernel_rfl)) k1 bel lt1) (trodAll_cons_mk (Below.trod laidOut (by kernel_rfl) (of_decide_eq_true (by kernel_rfl)) k2 bel lt2) trodAll_mk0))), hvs, bel.frame _, fun h => by cases h⟩

theorem said : Rows.FnExactMapPutSaid :=
  OpenClaim.holds_of_wide 3 Tryd.f3 rfl rfl rfl rfl rfl rfl rfl ⟨rfl, rfl, rfl, rfl, rfl⟩ rfl rfl rfl rfl rfl (by kernel_rfl) Tryd.func3 (by kernel_rfl)
    (of_decide_eq_true (by kernel_rfl)) (by unfold Func.isWrapper; first | (rw [if_pos (by decide +kernel)]; kernel_rfl) | (rw [if_neg (by decide +kernel)]; exact ⟨rfl, rfl⟩))
    (fun os started H enc _ => lifted os started H enc)

theorem plain (f : FuncId) (fn : Func) (hf : Tryd.pinned.checked.prog.funcNamed "loop.example/g00220/laws.FnExactMapPut" = some f) (hfn : Tryd.pinned.checked.prog.funcs[f]? = some fn) :
    false = Tryd.pinned.checked.prog.looks [] ∧ ∀ (j : Nat) t, fn.params[j]? = some t → Tryd.pinned.checked.prog.wantsStandIn t = false := by
  obtain rfl : f = 3 := Option.some.inj ((show Tryd.prog.funcNamed "loop.example/g00220/laws.FnExactMapPut" = some 3 by kernel_rfl).symm.trans hf) |>.symm
  obtain rfl : fn = Tryd.f3 := (Option.some.inj (Tryd.func3.symm.trans hfn)).symm
  refine ⟨by kernel_rfl, fun j t ht => ?_⟩
  rw [Tryd.params3] at ht
  have hmem : t = 24 ∨ t = 9 := by
    have := Array.mem_of_getElem? ht
    simp at this
    omega
  rcases hmem with rfl | rfl
  · exact (show Tryd.prog.wantsStandIn 24 = false by kernel_rfl)
  · exact (show Tryd.prog.wantsStandIn 9 = false by kernel_rfl)
end Go.Proofs.YtgmaappilopgbaaDoor.fnExactMapPut
namespace Go.Proofs.YtgmaappilopgbaaDoor
theorem fnExactMapPut_card : Rows.FnExactMapPutCardSaid :=
  Claim7.holds_tied_plain_at .later [] _ _ _ _ fnExactMapPut.said (fun _ h => by cases h) (by kernel_rfl) (fun _ h => by cases h) fnExactMapPut_row_tie rfl ⟨rfl, rfl⟩ (by kernel_rfl) rfl fnExactMapPut.plain (by kernel_rfl)
#print axioms fnExactMapPut_card
end Go.Proofs.YtgmaappilopgbaaDoor
