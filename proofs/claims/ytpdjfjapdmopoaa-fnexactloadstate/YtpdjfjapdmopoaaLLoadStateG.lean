/- For every disk that can be read, laws.FnExactLoadState returns true, and the disk reads as it did. No condition. -/
import Derived.Test.YtpdjfjapdmopoaaGrE
import Derived.Test.YtpdjfjapdmopoaaSmallD
import Derived.Deep.DeepCutAuto
namespace Go.Proofs.Ytpdjfjapdmopoaa.fnExactLoadState
open Go.ChangeShapes Go.WideShapes Go.ChangeAt Go.RowKit
open Go.ChangeMaps (open_string shut_string)
set_option linter.unusedVariables false

theorem ld_len (room : Int) (l : List Fl) : (ldOut room l).1.l.length ≤ 60 := by
  unfold ldOut
  split
  · cases h : foldS (walOut room l).1.recs with
    | none => show 0 ≤ 60; omega
    | some s =>
      unfold foldS at h
      cases hf : foldAt (walOut room l).1.recs (walOut room l).1.recs.length with
      | none => rw [hf] at h; cases h
      | some s2 =>
        rw [hf] at h
        dsimp only at h
        split at h
        · cases h; exact (foldAt_ok _ _ _ hf).1
        · cases h
  · show 0 ≤ 60; omega
/-- What is carried on: all that was there; the argument's box; the specification's answer in box W, the disk handed in in box Y, the program's answer in box G. -/
structure Kw (w : World) (W Y G : Nat) (room : Int) (av : Value) (tm vo : Int) (wv : Value) (yg : Nat) (gv : Value) (p : List En) (l : List Fl) (pg : List En) (wx : World) : Prop where
  b : Below w.heap.size w wx
  x : Blk wx w.heap.size [.int .i64 room, av]
  bw : Blk wx W [.int .i64 tm, .int .i64 vo, wv]
  ow : OwnE w.heap.size wx wv p
  by_ : Blk wx Y [.int .i64 room, (.slice (some ⟨yg, 0, none⟩) l.length l.length)]
  bg : Blk wx G [.int .i64 tm, .int .i64 vo, gv]
  og : OwnE w.heap.size wx gv pg
  dy : w.heap.size < yg ∧ yg ≠ W ∧ yg ≠ Y ∧ yg ≠ G ∧ wv.ownBlock ≠ some yg ∧ gv.ownBlock ≠ some yg
  dg : ∀ q, gv.ownBlock = some q → w.heap.size < q ∧ q ≠ W ∧ q ≠ Y ∧ q ≠ G ∧ wv.ownBlock ≠ some q ∧ q ≠ yg
variable {w : World} {W Y G : Nat} {room : Int} {av : Value} {tm vo : Int} {wv : Value} {yg : Nat} {gv : Value} {p : List En} {l : List Fl} {pg : List En} {wx : World}
theorem Kw.below {wy : World} (h : Kw w W Y G room av tm vo wv yg gv p l pg wx) (hb : Below wx.heap.size wx wy) : Kw w W Y G room av tm vo wv yg gv p l pg wy :=
  ⟨h.b.trans (hb.mono h.b.size), h.x.below hb, h.bw.below hb, h.ow.below hb, h.by_.below hb, h.bg.below hb, h.og.below hb, h.dy, h.dg⟩
theorem Kw.markY {wy : World} (h : Kw w W Y G room av tm vo wv yg gv p l pg wx) (ht : Touch (fun q => q = yg) wx wy) : Kw w W Y G room av tm vo wv yg gv p l pg wy :=
  ⟨h.b.trans (ht.below h.b.size (fun k hk e => by have := h.dy.1; omega)), h.x.kept ht (fun e => by have := h.dy.1; omega), h.bw.kept ht (fun e => h.dy.2.1 e.symm), h.ow.kept ht (fun k hk e => h.dy.2.2.2.2.1 (by rw [← e]; exact hk)), h.by_.kept ht (fun e => h.dy.2.2.1 e.symm), h.bg.kept ht (fun e => h.dy.2.2.2.1 e.symm), h.og.kept ht (fun k hk e => h.dy.2.2.2.2.2 (by rw [← e]; exact hk)), h.dy, h.dg⟩
theorem Kw.markG {wy : World} {pg' : List En} (h : Kw w W Y G room av tm vo wv yg gv p l pg wx) (ho : OwnE w.heap.size wy gv pg') (ht : Touch (fun q => gv.ownBlock = some q) wx wy) : Kw w W Y G room av tm vo wv yg gv p l pg' wy :=
  ⟨h.b.trans (ht.below h.b.size (fun k hk e => by have := (h.dg k e).1; omega)), h.x.kept ht (fun e => by have := (h.dg _ e).1; omega), h.bw.kept ht (fun e => (h.dg _ e).2.1 rfl), h.ow.kept ht (fun k hk e => (h.dg k e).2.2.2.2.1 hk), h.by_.kept ht (fun e => (h.dg _ e).2.2.1 rfl), h.bg.kept ht (fun e => (h.dg _ e).2.2.2.1 rfl), ho, h.dy, h.dg⟩
set_option maxRecDepth 100000 in
set_option maxHeartbeats 8000000 in
theorem walk (room : Int) (u : Value) (l : List Fl) (w : World) (hf : Fls w u l) (hz : ∀ i, i < l.length → (l.getD i default).n.size ≤ maxLen ∧ (l.getD i default).d.size ≤ maxLen) :
    Calls Try.prog 4 #[.agg #[.int .i64 room, u]] w fun e w' => e = .returned (.bool true) ∧ Below w.heap.size w w' := by
  have HF := hide hf
  have HZ := hide hz
  obtain ⟨a, cap, rfl, hn, hm, hc⟩ := hf
  clear hc hm hn hz
  have B0 := hide ((Below.refl w.heap.size w).alloc (Nat.le_refl _) (.cells #[.int .i64 room, .slice a l.length cap] 36))
  have X0 := hide (Blk.new w #[.int .i64 room, .slice a l.length cap] 36 w.heap.size rfl)
  have HPL := hide (Nat.le_trans (ld_len room l) (show 60 ≤ 1048576 by omega))
  have HSP := hide (fun v wx (h : Fls wx v l) hs => specLoad_any room v l wx h hs)
  have HIM := hide (fun v wx (h : Fls wx v l) hs => implLoad_any room v l wx h hs)
  generalize (ldOut room l).1.tm = tm at *
  generalize (ldOut room l).1.vo = vo at *
  generalize (ldOut room l).1.l = p at *
  generalize (ldOut room l).2 = pc at *
  go_enter Try.func4, Try.ntmps4
  go_wp2_with fail
  generalize w.alloc (.cells #[.int .i64 room, .slice a l.length cap] 36) = w0 at *
  refine (szDisk_any room _ l w0 ((unhide HF).below (unhide B0)) (unhide HZ)).mono ?_
  rintro e w1 ⟨rfl, hb1⟩
  have B1 := hide ((unhide B0).trans (hb1.mono (unhide B0).size))
  have X1 := hide ((unhide X0).below hb1)
  have hsm := hide (small_of l)
  clear hb1 B0 X0
  rcases szR_cases l with hr | hr
  · rw [hr]
    go_wp2_with fail
    go_ret
    exact ⟨rfl, unhide B1⟩
  have HSM := hide (unhide hsm hr)
  have hll := (unhide HSM).1
  clear hsm
  generalize szR l = r at *
  have HTO := hide (fun wx (hx : Below w.heap.size w wx) => toDisk_any room _ l wx ((unhide HF).below hx) hll)
  have x0 := (unhide X1).cell 0 rfl
  have x1 := (unhide X1).cell 1 rfl
  go_wp2_with fail
  clear x0 x1
  refine (unhide HTO w1 (unhide B1)).mono ?_
  rintro e w2 ⟨g2, rfl, hO2, hb2⟩
  have B2 := hide ((unhide B1).trans (hb2.mono (unhide B1).size))
  have X2 := hide ((unhide X1).below hb2)
  have V2 := hide hO2.fls
  clear hb2 hO2 B1 X1
  go_wp2_with fail
  refine (unhide HSP _ w2 (unhide V2) (unhide HSM)).mono ?_
  rintro e w3 ⟨wa, wd, rfl, hO3, hb3⟩
  have AW := (Below.refl w3.heap.size w3).alloc (Nat.le_refl _) (.cells #[.int .i64 tm, .int .i64 vo, .slice wa p.length wd] 26)
  have B3 := hide ((unhide B2).trans ((hb3.trans (AW.mono hb3.size)).mono (unhide B2).size))
  have X3 := hide (((unhide X2).below hb3).below AW)
  have W3 := hide (Blk.new w3 #[.int .i64 tm, .int .i64 vo, .slice wa p.length wd] 26 w3.heap.size rfl)
  have O3 := hide (hO3.below AW)
  have Z3 := hide (And.intro (And.intro (unhide X2).1 hb3.size) (And.intro (fun q hq => World.ownsRow.lt hO3 q hq) (show (w3.alloc (.cells #[.int .i64 tm, .int .i64 vo, .slice wa p.length wd] 26)).heap.size = w3.heap.size + 1 by simp)))
  clear hb3 hO3 AW V2 B2 X2
  have x0 := (unhide X3).cell 0 rfl
  have x1 := (unhide X3).cell 1 rfl
  go_wp2_with fail
  clear x0 x1
  generalize w3.alloc (.cells #[.int .i64 tm, .int .i64 vo, .slice wa p.length wd] 26) = w3b at *
  refine (unhide HTO w3b (unhide B3)).mono ?_
  rintro e w4 ⟨yg, rfl, hO4, hb4⟩
  have AY := (Below.refl w4.heap.size w4).alloc (Nat.le_refl _) (.cells #[.int .i64 room, (.slice (some ⟨yg, 0, none⟩) l.length l.length)] 41)
  have hby := hb4.trans (AY.mono hb4.size)
  have B4 := hide ((unhide B3).trans (hby.mono (unhide B3).size))
  have X4 := hide ((unhide X3).below hby)
  have W4 := hide ((unhide W3).below hby)
  have O4w := hide ((unhide O3).below hby)
  have Y4 := hide (Blk.new w4 #[.int .i64 room, (.slice (some ⟨yg, 0, none⟩) l.length l.length)] 41 w4.heap.size rfl)
  have O4 := hide (hO4.below AY)
  have Z4 := hide (And.intro (World.ownsRow.lt hO4 yg rfl) (And.intro hb4.size (show (w4.alloc (.cells #[.int .i64 room, (.slice (some ⟨yg, 0, none⟩) l.length l.length)] 41)).heap.size = w4.heap.size + 1 by simp)))
  clear hO4 hb4 AY hby B3 X3 W3 O3
  go_wp2_with fail
  generalize w4.alloc (.cells #[.int .i64 room, (.slice (some ⟨yg, 0, none⟩) l.length l.length)] 41) = w4b at *
  refine (unhide HIM _ w4b (unhide O4).fls (unhide HSM)).mono ?_
  rintro e w5 ⟨ga, gd, rfl, hO5, hb5⟩
  have AG := (Below.refl w5.heap.size w5).alloc (Nat.le_refl _) (.cells #[.int .i64 tm, .int .i64 vo, .slice ga p.length gd] 26)
  have P5 : Hid (Kw w w3.heap.size w4.heap.size w5.heap.size room (.slice a l.length cap) tm vo (.slice wa p.length wd) yg (.slice ga p.length gd) p l p (w5.alloc (.cells #[.int .i64 tm, .int .i64 vo, .slice ga p.length gd] 26))) := hide (by
    obtain ⟨⟨z1, z2⟩, z3, z4⟩ := unhide Z3
    obtain ⟨⟨z5, z6⟩, z7, z8⟩ := unhide Z4
    have z9 := hb5.size
    have z10 := (unhide B4).size
    have hbb := hb5.trans (AG.mono z9)
    refine ⟨(unhide B4).trans (hbb.mono z10), (unhide X4).below hbb, (unhide W4).below hbb, World.ownsRow_monoE ((unhide O4w).below hbb) (by omega), (unhide Y4).below hbb, Blk.new w5 #[.int .i64 tm, .int .i64 vo, .slice ga p.length gd] 26 w5.heap.size rfl, World.ownsRow_monoE (hO5.below AG) (by omega), ?_, ?_⟩
    · refine ⟨by omega, by omega, by omega, by omega, fun e => ?_, fun e => ?_⟩
      · have := z3 yg e; omega
      · have := World.ownsRow.lt hO5 yg e; omega
    · intro q hq
      have h5 := World.ownsRow.lt hO5 q hq
      refine ⟨by omega, by omega, by omega, by omega, fun e => ?_, by omega⟩
      have := z3 q e; omega)
  have V5 := hide (((unhide O4).below hb5).below AG)
  clear hb5 hO5 AG B4 X4 W4 O4w O4 Y4 Z3 Z4
  have cw0 := (unhide P5).bw.cell 0 rfl
  have cw1 := (unhide P5).bw.cell 1 rfl
  have cw2 := (unhide P5).bw.cell 2 rfl
  have cg0 := (unhide P5).bg.cell 0 rfl
  have cg1 := (unhide P5).bg.cell 1 rfl
  have cg2 := (unhide P5).bg.cell 2 rfl
  go_wp2_with fail
  generalize w5.alloc (.cells #[.int .i64 tm, .int .i64 vo, .slice ga p.length gd] 26) = w5b at *
  generalize w3.heap.size = W at *
  generalize w4.heap.size = Y at *
  generalize w5.heap.size = G at *
  refine (eqState_any tm vo _ _ p w5b (unhide P5).og.ens (unhide P5).ow.ens (unhide HPL)).mono ?_
  rintro e w6 ⟨rfl, hb6⟩
  have P6 := hide ((unhide P5).below hb6)
  have V6 := hide ((unhide V5).below hb6)
  clear hb6 P5 V5 cw0 cw1 cw2 cg0 cg1 cg2
  go_wp2_with fail
  go_cut [45] (fun s wx => s = .bool false ∧ Below w6.heap.size w6 wx)
  case first =>
    have hb0 := below_drewN (Below.refl w6.heap.size w6) 1
    have hT := (unhide P6).below hb0
    have hO := (unhide V6).below hb0
    clear P6 V6
    go_region_held3 (fun wx => wx.cell? ⟨w.heap.size, 0, none⟩ = some (.int .i64 room) ∧ wx.cell? ⟨w.heap.size, 1, none⟩ = some (.slice a l.length cap) ∧ wx.cell? ⟨Y, 0, none⟩ = some (.int .i64 room) ∧ wx.cell? ⟨Y, 1, none⟩ = some (.slice (some ⟨yg, 0, none⟩) l.length l.length))
      (exact ⟨hT.x.cell 0 rfl, hT.x.cell 1 rfl, hT.by_.cell 0 rfl, hT.by_.cell 1 rfl⟩)
      (first
        | (go_at_call 18; refine (eqDisk_any room _ _ l _ hO.fls hOA.fls hll).mono ?_; rintro e wz ⟨rfl, hbz⟩; have hT2 := hT.below hbz; clear hT; have hT := hT2; clear hT2; have hb2 := hb0.trans (hbz.mono hb0.size); clear hb0; have hb0 := hb2; clear hb2)
        | (go_at_call 16; refine (toDisk_any room (.slice a l.length cap) l _ ((unhide HF).below hT.b) hll).mono ?_; rintro e wA ⟨gC, rfl, hOA, hbA⟩; have hT2 := hT.below hbA; clear hT; have hT := hT2; clear hT2; have hO2 := hO.below hbA; clear hO; have hO := hO2; clear hO2; have hb2 := hb0.trans (hbA.mono hb0.size); clear hb0; have hb0 := hb2; clear hb2))
    all_goals
      go_wp2_with fail
      go_meet
      exact ⟨rfl, hb0⟩
  case rest =>
    obtain ⟨rfl, hb⟩ := hcut
    have P8 := hide ((unhide P6).below hb)
    have V8 := hide ((unhide V6).below hb)
    clear hb P6 V6
    generalize wc = w8 at *
    have d0 := (unhide P8).by_.cell 0 rfl
    have d1 := (unhide P8).by_.cell 1 rfl
    go_wp2_with fail
    clear d0 d1
    refine (markDisk_any room _ yg l.length l w8 (unhide V8) hll).mono ?_
    rintro e w9 ⟨rfl, hT9⟩
    have P9 := hide ((unhide P8).markY hT9)
    clear hT9 P8 V8
    have hmk2 : ¬ (1 : Int) + 3 * (l.length : Int) < 0 := by omega
    have cw0 := (unhide P9).bw.cell 0 rfl
    have cw1 := (unhide P9).bw.cell 1 rfl
    have cw2 := (unhide P9).bw.cell 2 rfl
    have cg0 := (unhide P9).bg.cell 0 rfl
    have cg1 := (unhide P9).bg.cell 1 rfl
    have cg2 := (unhide P9).bg.cell 2 rfl
    go_wp2_with fail
    refine (eqState_any tm vo _ _ p w9 (unhide P9).og.ens (unhide P9).ow.ens (unhide HPL)).mono ?_
    rintro e w10 ⟨rfl, hb10⟩
    have P10 := hide ((unhide P9).below hb10)
    clear hb10 P9 cw0 cw1 cw2 cg0 cg1 cg2
    have cg0 := (unhide P10).bg.cell 0 rfl
    have cg1 := (unhide P10).bg.cell 1 rfl
    have cg2 := (unhide P10).bg.cell 2 rfl
    go_wp2_with fail
    refine (markState_any 1 (by omega) (by omega) tm vo _ _ _ _ p w10 (unhide P10).og (unhide HPL)).mono ?_
    rintro e w11 ⟨rfl, hO11, hT11⟩
    have P11 := hide ((unhide P10).markG hO11 hT11)
    clear hO11 hT11 P10 cg0 cg1 cg2
    have cg0 := (unhide P11).bg.cell 0 rfl
    have cg1 := (unhide P11).bg.cell 1 rfl
    have cg2 := (unhide P11).bg.cell 2 rfl
    go_wp2_with fail
    refine (heldState_any 1 (by omega) (by omega) tm vo _ _ _ _ p.length w11 (unhide P11).og (unhide HPL)).mono ?_
    rintro e w12 ⟨rfl, hb12⟩
    have P12 := hide ((unhide P11).below hb12)
    clear hb12 P11 cg0 cg1 cg2
    have hk12 : ¬ ((1 : Nat) : Int) + 3 * (p.length : Int) < 0 := by omega
    have hk13 := hk12
    simp only [Int.cast_ofNat_Int] at hk13
    have x0 := (unhide P12).x.cell 0 rfl
    have x1 := (unhide P12).x.cell 1 rfl
    go_wp2_with fail
    clear x0 x1
    refine (unhide HTO w12 (unhide P12).b).mono ?_
    rintro e w13 ⟨g13, rfl, hO13, hb13⟩
    have P13 := hide ((unhide P12).below hb13)
    have V13 := hide hO13.fls
    clear hb13 hO13 P12
    go_wp2_with fail
    refine (unhide HIM _ w13 (unhide V13) (unhide HSM)).mono ?_
    rintro e w14 ⟨ha, hd, rfl, hO14, hb14⟩
    have AH := (Below.refl w14.heap.size w14).alloc (Nat.le_refl _) (.cells #[.int .i64 tm, .int .i64 vo, .slice ha p.length hd] 26)
    have P14 := hide (((unhide P13).below hb14).below AH)
    have O14 := hide (hO14.below AH)
    have H14 := hide (Blk.new w14 #[.int .i64 tm, .int .i64 vo, .slice ha p.length hd] 26 w14.heap.size rfl)
    clear hb14 hO14 AH P13 V13
    have cw0 := (unhide P14).bw.cell 0 rfl
    have cw1 := (unhide P14).bw.cell 1 rfl
    have cw2 := (unhide P14).bw.cell 2 rfl
    have ch0 := (unhide H14).cell 0 rfl
    have ch1 := (unhide H14).cell 1 rfl
    have ch2 := (unhide H14).cell 2 rfl
    go_wp2_with fail
    generalize w14.alloc (.cells #[.int .i64 tm, .int .i64 vo, .slice ha p.length hd] 26) = w15 at *
    refine (eqState_any tm vo _ _ p w15 (unhide O14).ens (unhide P14).ow.ens (unhide HPL)).mono ?_
    rintro e w16 ⟨rfl, hb16⟩
    have P16 := hide ((unhide P14).below hb16)
    clear hb16 P14 O14 H14 ch0 ch1 ch2 cw0 cw1 cw2
    have cg0 := (unhide P16).bg.cell 0 rfl
    have cg1 := (unhide P16).bg.cell 1 rfl
    have cg2 := (unhide P16).bg.cell 2 rfl
    go_wp2_with fail
    refine (heldState_any 1 (by omega) (by omega) tm vo _ _ _ _ p.length w16 (unhide P16).og (unhide HPL)).mono ?_
    rintro e w17 ⟨rfl, hb17⟩
    have P17 := hide ((unhide P16).below hb17)
    clear hb17 P16
    go_wp2_with fail
    go_ret
    exact ⟨rfl, (unhide P17).b⟩

theorem own : ownKnob Try.prog.godebug = none := by kernel_rfl
theorem laidOut : laidOutB Try.prog = true := by kernel_rfl
set_option maxRecDepth 100000 in
theorem lifted (os : Os) (started : os.Started) (H : Type) (enc : TypeId × Value → H) :
    ReturnsInHanded {} Try.checked os 4 .any (Rows.fnExactLoadStateSpec.pre6 enc Try.prog Try.f4 Rows.fnExactLoadStateRow.domain false) (Rows.fnExactLoadStateSpec.post enc Try.prog Try.f4 false true false false) := by
  refine returnsInHanded_of_change (C := Try.checked) own started (by kernel_rfl) Try.func4
    (ChangeSpec.witness6 (enc := enc) (C := Try.checked) false ⟨#[], #[.agg #[.int .i64 0, .slice none 0 0]], []⟩ 8 (by kernel_rfl) (by kernel_rfl) (by kernel_rfl) (by kernel_rfl)) ?_
  intro W base args ds gs before hval0 hW hcnd _
  have hval : ∀ (j : Nat) t v, Try.f4.params[j]? = some t → args[j]? = some v → Value.okWide Try.prog W .any base t v := hval0
  have hW' := hW
  obtain ⟨p, q, hA0, hV, rfl, hfz, hnd⟩ := hW
  have hA : DataW.TrodAll enc Try.prog W 0 (fun _ => true) true Try.f4.params.toList args.toList ds p := hA0
  rw [Try.params4] at hA hval
  obtain ⟨v0, vs0, d0, ds0, p0, q0, hargs, rfl, rfl, h0, r0⟩ := trodAll_cons hA
  obtain ⟨rfl, rfl, rfl⟩ := trodAll_nil r0
  obtain rfl : args = #[v0] := by cases args; simp_all
  obtain ⟨rfl, rfl⟩ := trodVars_none hV
  have k0 := h0
  have lt0 : ∀ x ∈ p0, x.block < W.heap.size := by obtain ⟨m, hm⟩ := k0; exact DataW.trod_lt m _ _ _ hm
  obtain ⟨room0, u0, l0, rfl, wr0, hf0, hz0⟩ := open_disk (hval 0 36 v0 rfl rfl) h0
  clear hA0 hval0
  refine (walk room0 u0 l0 W hf0 hz0).mono fun e W' ⟨he, bel⟩ => ?_
  subst he
  exact ⟨_, rfl, _, _, _, [], _, [], hW', trodAll_mk1 (shut_bool Try.underlying4 _), (trodAll_cons_mk (Below.trod laidOut (by kernel_rfl) (of_decide_eq_true (by kernel_rfl)) k0 bel lt0) trodAll_mk0), rfl, bel.frame _, fun h => by cases h⟩

theorem over : Rows.fnExactLoadStateRow.holds Try.pinned (OpenSpec.ofChange Rows.fnExactLoadStateSpec) :=
  OpenClaim.holds_of_wide 4 Try.f4 rfl rfl rfl rfl rfl rfl rfl ⟨rfl, rfl, rfl, rfl, rfl⟩ rfl rfl rfl rfl rfl (by kernel_rfl) Try.func4 (by kernel_rfl)
    (of_decide_eq_true (by kernel_rfl)) (by unfold Func.isWrapper; first | (rw [if_pos (by decide +kernel)]; kernel_rfl) | (rw [if_neg (by decide +kernel)]; exact ⟨rfl, rfl⟩))
    (fun os started H enc _ => lifted os started H enc)

end Go.Proofs.Ytpdjfjapdmopoaa.fnExactLoadState
namespace Go.Proofs.Ytpdjfjapdmopoaa
theorem fnExactLoadState_holds : Rows.FnExactLoadStateSaid := fnExactLoadState.over
#print axioms fnExactLoadState_holds
end Go.Proofs.Ytpdjfjapdmopoaa
