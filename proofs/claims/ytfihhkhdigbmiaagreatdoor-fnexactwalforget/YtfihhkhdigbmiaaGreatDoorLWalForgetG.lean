/- For every disk that can be read, laws.FnExactWalForget returns true, and the disk reads as it did. Condition: the listed variables start as the program's text lays them (the card ties them). (Written by py/ldisk.py.) -/
import Derived.Test.YtfihhkhdigbmiaaGreatDoorGzb
import Derived.Test.YtfihhkhdigbmiaaGreatDoorSmallD
import Derived.Deep.DeepCutAuto
import Derived.LaidMore
import Derived.Lay
import Derived.MakeChecks
import Derived.Lib.LaidTab
import Derived.ChangeVars
import Derived.OpenVars
import Derived.Test.YtfihhkhdigbmiaaGreatDoorCards
import Derived.Test.YtfihhkhdigbmiaaGreatDoorTie
namespace Go.Proofs.YtfihhkhdigbmiaaGreatDoor.fnExactWalForget
open Go.ChangeShapes Go.WideShapes Go.ChangeAt Go.RowKit
open Go.ChangeMaps (open_string shut_string)
set_option linter.unusedVariables false
set_option linter.unusedSimpArgs false

/-- What is carried on: all that was there, the argument's box, the specification's answer. -/
structure Ld (w : World) (room : Int) (v : Value) (sb : Nat) (r : Int) (so : List Fl) (sv : Value) (wx : World) : Prop where
  b : Below w.heap.size w wx
  x : Blk wx w.heap.size [.int .i64 room, v]
  y : Blk wx sb [.int .i64 r, sv]
  o : OwnF 0 wx sv so
  h : ∀ k, sv.ownBlock = some k → k < sb
  p : w.heap.size < sb
theorem Ld.below {w : World} {room : Int} {v : Value} {sb : Nat} {r : Int} {so : List Fl} {sv : Value} {wx wy : World} (h : Ld w room v sb r so sv wx) (hb : Below wx.heap.size wx wy) : Ld w room v sb r so sv wy :=
  ⟨h.b.trans (hb.mono h.b.size), h.x.below hb, h.y.below hb, h.o.below hb, h.h, h.p⟩
theorem Ld.kept {T : Nat → Prop} {w : World} {room : Int} {v : Value} {sb : Nat} {r : Int} {so : List Fl} {sv : Value} {wx wy : World} (h : Ld w room v sb r so sv wx) (ht : Touch T wx wy) (hT : ∀ k, T k → sb < k) : Ld w room v sb r so sv wy :=
  ⟨h.b.trans (ht.below h.b.size (fun k hk e => by have := hT k e; have := h.p; omega)), h.x.kept ht (fun e => by have := hT _ e; have := h.p; omega), h.y.kept ht (fun e => by have := hT _ e; omega), h.o.kept ht (fun k hk e => by have := hT _ e; have := h.h k hk; omega), h.h, h.p⟩
theorem out_len (room below : Int) (l : List Fl) : (wfOut room l below).2.1.length ≤ l.length := wfOut_len room l below
set_option maxRecDepth 100000 in
set_option maxHeartbeats 8000000 in
theorem walk (room : Int) (u : Value) (l : List Fl) (below : Int) (w : World) (hf : Fls w u l) (hz : ∀ i, i < l.length → (l.getD i default).n.size ≤ maxLen ∧ (l.getD i default).d.size ≤ maxLen) (hbw : (Lit.int IntKind.i64 below).wf = true) (hL : laidMetH Tryz.prog Rows.fnExactWalForgetRow.laid w) (hS : w.ShapedOpen Tryz.prog) :
    Calls Tryz.prog 4 #[.agg #[.int .i64 room, u], .int .i64 below] w fun e w' => e = .returned (.bool true) ∧ Below w.heap.size w w' := by
  have HF := hide hf
  have HZ := hide hz
  obtain ⟨a, cap, rfl, hn, hm, hc⟩ := hf
  clear hc hm hn hz
  have B0 := hide ((Below.refl w.heap.size w).alloc (Nat.le_refl _) (.cells #[.int .i64 room, .slice a l.length cap] 24))
  have X0 := hide (Blk.new w #[.int .i64 room, .slice a l.length cap] 24 w.heap.size rfl)
  go_enter Tryz.func4, Tryz.ntmps4
  go_wp2_with fail
  generalize w.alloc (.cells #[.int .i64 room, .slice a l.length cap] 24) = w0 at *
  refine (szDisk_any room _ l w0 ((unhide HF).below (unhide B0)) (unhide HZ)).mono ?_
  rintro e w1 ⟨rfl, hb1⟩
  have B1 := hide ((unhide B0).trans (hb1.mono (unhide B0).size))
  have X1 := hide ((unhide X0).below hb1)
  have hsm := hide (small_of l)
  clear hb1 B0 X0
  rcases szR_cases l with hr | hr
  · rw [hr]
    go_wp2_with fail
    go_ret
    exact ⟨rfl, unhide B1⟩
  have HSM := hide (unhide hsm hr)
  have hll := (unhide HSM).1
  clear hsm
  generalize szR l = r at *
  have x0 := (unhide X1).cell 0 rfl
  have x1 := (unhide X1).cell 1 rfl
  go_wp2_with fail
  clear x0 x1
  refine (toDisk_any room _ l _ ((unhide HF).below (unhide B1)) hll).mono ?_
  rintro e w2 ⟨g2, rfl, hO2, hb2⟩
  have B2 := hide ((unhide B1).trans (hb2.mono (unhide B1).size))
  have X2 := hide ((unhide X1).below hb2)
  have V2 := hide hO2
  clear hb2 hO2 B1 X1
  have hosn := out_len room below l
  have HSP := hide (specWalForget_any room below _ l w2 (unhide V2).fls (unhide HSM))
  have HIM := hide (fun wx vx (hx : Fls wx vx l) => implWalForget_any room below vx l wx hx (unhide HSM))
  generalize wfOut room l below = ox at *
  obtain ⟨r1, so, cd⟩ := ox
  unfold WsE at HSP HIM
  dsimp only at HSP HIM hosn
  go_wp2_with fail
  refine (unhide HSP).mono ?_
  rintro e w3 ⟨sa, sc, rfl, hA3, hb3⟩
  have HL3 : Hid (Ld w room (.slice a l.length cap) w3.heap.size r1 so (.slice sa so.length sc) (w3.alloc (.cells #[.int .i64 r1, .slice sa so.length sc] 28))) := by
    have AA := (Below.refl w3.heap.size w3).alloc (Nat.le_refl _) (.cells #[.int .i64 r1, .slice sa so.length sc] 28)
    have hx := (unhide X2).1
    have := hb3.size
    exact hide ⟨((unhide B2).trans (hb3.mono (unhide B2).size)).trans (AA.mono (Nat.le_trans (unhide B2).size hb3.size)), ((unhide X2).below hb3).below AA, Blk.new w3 #[.int .i64 r1, .slice sa so.length sc] 28 w3.heap.size rfl, World.ownsRow.mono (hA3.below AA) (Nat.zero_le _), fun k hk => (World.ownsRow.lt hA3 k hk).2, by omega⟩
  clear hA3 hb3 B2 X2 V2 HSP
  go_upto_region 6 with fail
  generalize w3.alloc (.cells #[.int .i64 r1, .slice sa so.length sc] 28) = w4 at *
  generalize w3.heap.size = sb at *
  have x0 := (unhide HL3).x.cell 0 rfl
  have x1 := (unhide HL3).x.cell 1 rfl
  go_wp2_with fail
  clear x0 x1
  refine (toDisk_any room _ l _ ((unhide HF).below (unhide HL3).b) hll).mono ?_
  rintro e w5 ⟨g5, rfl, hO5, hb5⟩
  have AA := (Below.refl w5.heap.size w5).alloc (Nat.le_refl _) (.cells #[.int .i64 room, .slice (some ⟨g5, 0, none⟩) l.length l.length] 28)
  have HL5 := hide (((unhide HL3).below hb5).below AA)
  have HV5 := hide (hO5.below AA)
  have HD5 := hide (Blk.new w5 #[.int .i64 room, .slice (some ⟨g5, 0, none⟩) l.length l.length] 28 w5.heap.size rfl)
  have hg5 := World.ownsRow.lt hO5 g5 rfl
  have hsb4 := (unhide HL3).y.1
  clear hO5 hb5 AA HL3
  go_upto_region 7 with fail
  have HZ5 : Hid ((w5.alloc (.cells #[.int .i64 room, .slice (some ⟨g5, 0, none⟩) l.length l.length] 28)).heap.size = w5.heap.size + 1) := hide (by simp)
  generalize w5.alloc (.cells #[.int .i64 room, .slice (some ⟨g5, 0, none⟩) l.length l.length] 28) = w6 at *
  generalize w5.heap.size = db at *
  have d0 := (unhide HD5).cell 0 rfl
  have d1 := (unhide HD5).cell 1 rfl
  go_wp2_with fail
  clear d0 d1
  refine (unhide HIM w6 _ (unhide HV5).fls).mono ?_
  rintro e w7 ⟨ia, ic, rfl, hA7, hb7⟩
  have AA := (Below.refl w7.heap.size w7).alloc (Nat.le_refl _) (.cells #[.int .i64 r1, .slice ia so.length ic] 28)
  have HL7 := hide (((unhide HL5).below hb7).below AA)
  have HV7 := hide (((unhide HV5).below hb7).below AA)
  have HD7 := hide (((unhide HD5).below hb7).below AA)
  have HA7 := hide (hA7.below AA)
  have HI7 := hide (Blk.new w7 #[.int .i64 r1, .slice ia so.length ic] 28 w7.heap.size rfl)
  have hz7 := hb7.size
  have hIB : Hid (∀ k, (Value.slice ia so.length ic).ownBlock = some k → db < k ∧ k < w7.heap.size) := hide (fun k hk => by
    have h1 := unhide HZ5
    have := World.ownsRow.lt hA7 k hk; omega)
  have hz6 : db + 1 ≤ w7.heap.size := by have := unhide HZ5; omega
  clear hA7 hb7 AA HL5 HV5 HD5
  go_upto_region 8 with fail
  generalize w7.alloc (.cells #[.int .i64 r1, .slice ia so.length ic] 28) = w8 at *
  generalize w7.heap.size = ib at *
  have i0 := (unhide HI7).cell 0 rfl
  have i1 := (unhide HI7).cell 1 rfl
  have s0 := (unhide HL7).y.cell 0 rfl
  have s1 := (unhide HL7).y.cell 1 rfl
  have hcc : (cd == cd) = true := by simp
  go_wp2_with fail
  clear i0 i1 s0 s1
  refine (eqDisk_any r1 _ _ so w8 (unhide HA7).fls (unhide HL7).o.fls (by omega)).mono ?_
  rintro e w9 ⟨rfl, hb9⟩
  have HL9 := hide ((unhide HL7).below hb9)
  have HV9 := hide ((unhide HV7).below hb9)
  have HD9 := hide ((unhide HD7).below hb9)
  have HA9 := hide ((unhide HA7).below hb9)
  have HI9 := hide ((unhide HI7).below hb9)
  clear hb9 HL7 HV7 HD7 HA7 HI7
  go_wp2_with fail
  go_cut [49] (fun s wx => s = .bool false ∧ Below w9.heap.size w9 wx)
  case first =>
    have hb0 := below_drewN (Below.refl w9.heap.size w9) 1
    have hT := (unhide HL9).below hb0
    have hO := (unhide HV9).below hb0
    have hY := (unhide HD9).below hb0
    clear HL9 HV9 HD9 HA9 HI9
    go_region_held3 (fun wx => wx.cell? ⟨w.heap.size, 0, none⟩ = some (.int .i64 room) ∧ wx.cell? ⟨w.heap.size, 1, none⟩ = some (.slice a l.length cap) ∧ wx.cell? ⟨db, 0, none⟩ = some (.int .i64 room) ∧ wx.cell? ⟨db, 1, none⟩ = some (.slice (some ⟨g5, 0, none⟩) l.length l.length))
      (exact ⟨hT.x.cell 0 rfl, hT.x.cell 1 rfl, hY.cell 0 rfl, hY.cell 1 rfl⟩)
      (first
        | (go_at_call 9; refine (eqDisk_any room _ _ l _ hO.fls hOA.fls hll).mono ?_; rintro e wz ⟨rfl, hbz⟩; have hT2 := hT.below hbz; clear hT; have hT := hT2; clear hT2; have hY2 := hY.below hbz; clear hY; have hY := hY2; clear hY2; have hb2 := hb0.trans (hbz.mono hb0.size); clear hb0; have hb0 := hb2; clear hb2)
        | (go_at_call 7; refine (toDisk_any room (.slice a l.length cap) l _ ((unhide HF).below hT.b) hll).mono ?_; rintro e wA ⟨gC, rfl, hOA, hbA⟩; have hT2 := hT.below hbA; clear hT; have hT := hT2; clear hT2; have hY2 := hY.below hbA; clear hY; have hY := hY2; clear hY2; have hO2 := hO.below hbA; clear hO; have hO := hO2; clear hO2; have hb2 := hb0.trans (hbA.mono hb0.size); clear hb0; have hb0 := hb2; clear hb2))
    all_goals
      go_wp2_with fail
      go_meet
      exact ⟨rfl, hb0⟩
  case rest =>
    obtain ⟨rfl, hb⟩ := hcut
    have HL := hide ((unhide HL9).below hb)
    have HV := hide ((unhide HV9).below hb)
    have HDD := hide ((unhide HD9).below hb)
    have HA := hide ((unhide HA9).below hb)
    have HI := hide ((unhide HI9).below hb)
    clear hb HL9 HV9 HD9 HA9 HI9
    generalize wc = w10 at *
    have d0 := (unhide HDD).cell 0 rfl
    have d1 := (unhide HDD).cell 1 rfl
    go_wp2_with fail
    clear d0 d1
    refine (markDisk_any room _ g5 l.length l w10 (unhide HV) hll).mono ?_
    rintro e w11 ⟨rfl, hT11⟩
    have HL11 := hide ((unhide HL).kept hT11 (fun k hk => by subst hk; omega))
    have HA11 := hide (World.ownsRow.mono ((unhide HA).kept hT11 (fun k hk e => by have := unhide hIB k hk; subst e; omega)) (Nat.zero_le _))
    have HI11 := hide ((unhide HI).kept hT11 (fun e => by omega))
    clear hT11 HL HV HDD HA HI
    have HA11 : Hid (OwnF 0 w11 (.slice ia so.length ic) so) := HA11
    have i0 := (unhide HI11).cell 0 rfl
    have i1 := (unhide HI11).cell 1 rfl
    have s0 := (unhide HL11).y.cell 0 rfl
    have s1 := (unhide HL11).y.cell 1 rfl
    have hmk : decide ((1 : Int) + 3 * (l.length : Int) < 0) = false := by rw [decide_eq_false_iff_not]; omega
    have hmk2 : ¬ (1 : Int) + 3 * (l.length : Int) < 0 := by omega
    go_wp2_with fail
    clear s0 s1 hmk hmk2
    refine (eqDisk_any r1 _ _ so w11 (unhide HA11).fls (unhide HL11).o.fls (by omega)).mono ?_
    rintro e w12 ⟨rfl, hb12⟩
    have HL12 := hide ((unhide HL11).below hb12)
    have HA12 := hide ((unhide HA11).below hb12)
    have HI12 := hide ((unhide HI11).below hb12)
    clear hb12 HL11 HA11 HI11 i0 i1
    have i0 := (unhide HI12).cell 0 rfl
    have i1 := (unhide HI12).cell 1 rfl
    go_wp2_with fail
    clear i0 i1
    refine (markDiskK_any r1 0 _ so w12 (unhide HA12) (by omega)).mono ?_
    rintro e w13 ⟨rfl, hM, hT13⟩
    have HL13 := hide ((unhide HL12).kept hT13 (fun k hk => by have := unhide hIB k hk; omega))
    have HI13 := hide ((unhide HI12).kept hT13 (fun e => by have := unhide hIB ib e; omega))
    have HM := hide hM
    clear hM hT13 HL12 HA12 HI12
    have hp1 : so.length ≤ 1048576 := by omega
    have i0 := (unhide HI13).cell 0 rfl
    have i1 := (unhide HI13).cell 1 rfl
    go_wp2_with fail
    clear i0 i1
    refine (heldDisk_any r1 0 _ so.length w13 (unhide HM) hp1).mono ?_
    rintro e w14 ⟨rfl, hb14⟩
    have HL14 := hide ((unhide HL13).below hb14)
    have HI14 := hide ((unhide HI13).below hb14)
    have HM14 := hide ((unhide HM).below hb14)
    clear hb14 HL13 HI13 HM
    have hpos : ¬ (1 : Int) + 3 * (so.length : Int) < 0 := by omega
    have hpos2 : decide ((1 : Int) + 3 * (so.length : Int) < 0) = false := by rw [decide_eq_false_iff_not]; omega
    have hself : ((1 : Int) + 3 * (so.length : Int) == (1 : Int) + 3 * (so.length : Int)) = true := by simp
    have x0 := (unhide HL14).x.cell 0 rfl
    have x1 := (unhide HL14).x.cell 1 rfl
    go_wp2_with fail
    clear x0 x1
    refine (toDisk_any room _ l _ ((unhide HF).below (unhide HL14).b) hll).mono ?_
    rintro e w15 ⟨g15, rfl, hO15, hb15⟩
    have HL15 := hide ((unhide HL14).below hb15)
    have HI15 := hide ((unhide HI14).below hb15)
    have HM15 := hide ((unhide HM14).below hb15)
    have HV15 := hide hO15
    clear hb15 hO15 HL14 HI14 HM14
    go_wp2_with fail
    refine (unhide HIM w15 _ (unhide HV15).fls).mono ?_
    rintro e w16 ⟨ka, kc, rfl, hA16, hb16⟩
    have AA := (Below.refl w16.heap.size w16).alloc (Nat.le_refl _) (.cells #[.int .i64 r1, .slice ka so.length kc] 28)
    have HL16 := hide (((unhide HL15).below hb16).below AA)
    have HI16 := hide (((unhide HI15).below hb16).below AA)
    have HM16 := hide (((unhide HM15).below hb16).below AA)
    have HA16 := hide (hA16.below AA)
    have HJ16 := hide (Blk.new w16 #[.int .i64 r1, .slice ka so.length kc] 28 w16.heap.size rfl)
    clear hA16 hb16 AA HL15 HI15 HM15 HV15
    go_upto_region 25 with fail
    generalize w16.alloc (.cells #[.int .i64 r1, .slice ka so.length kc] 28) = w17 at *
    generalize w16.heap.size = jb at *
    have i0 := (unhide HJ16).cell 0 rfl
    have i1 := (unhide HJ16).cell 1 rfl
    have s0 := (unhide HL16).y.cell 0 rfl
    have s1 := (unhide HL16).y.cell 1 rfl
    go_wp2_with fail
    clear i0 i1 s0 s1
    refine (eqDisk_any r1 _ _ so w17 (unhide HA16).fls (unhide HL16).o.fls (by omega)).mono ?_
    rintro e w18 ⟨rfl, hb18⟩
    have HL18 := hide ((unhide HL16).below hb18)
    have HI18 := hide ((unhide HI16).below hb18)
    have HM18 := hide ((unhide HM16).below hb18)
    clear hb18 HL16 HI16 HM16 HA16 HJ16
    have i0 := (unhide HI18).cell 0 rfl
    have i1 := (unhide HI18).cell 1 rfl
    go_wp2_with fail
    clear i0 i1
    refine (heldDisk_any r1 0 _ so.length w18 (unhide HM18) hp1).mono ?_
    rintro e w19 ⟨rfl, hb19⟩
    have HL19 := hide ((unhide HL18).below hb19)
    clear hb19 HL18 HI18 HM18
    go_wp2_with fail
    go_ret
    exact ⟨rfl, (unhide HL19).b⟩

theorem own : ownKnob Tryz.prog.godebug = none := by kernel_rfl
theorem laidOut : laidOutB Tryz.prog = true := by kernel_rfl
theorem trodVars_len {H : Type} {enc : TypeId × Value → H} {P : Program} {W : World} {sp : Nat → Bool} : ∀ (ns : List String) (gs : List (DataW H)) (q : List MemPlace), DataW.TrodVars enc P W sp ns gs q → gs.length = ns.length
  | [], [], _, _ => rfl
  | [], _ :: _, _, h => h.elim
  | _ :: _, [], _, h => h.elim
  | _ :: ns, _ :: ds, _, ⟨_, _, _, _, _, q, _, _, _, _, h, _⟩ => congrArg (· + 1) (trodVars_len ns ds q h)
set_option maxRecDepth 100000 in
theorem lifted (os : Os) (started : os.Started) (H : Type) (enc : TypeId × Value → H) :
    ReturnsInHanded {} Tryz.checked os 4 .any (fun w args => (Rows.fnExactWalForgetSpec.pre enc Tryz.prog Tryz.f4 [] false w args ∧ laidMetH Tryz.prog Rows.fnExactWalForgetRow.laid w) ∧ sizedMet enc Tryz.prog Tryz.f4 (OpenSpec.ofChange Rows.fnExactWalForgetSpec) false w args)
      (Rows.fnExactWalForgetSpec.post enc Tryz.prog Tryz.f4 false true false false) := by
  refine handed_shaped (C := Tryz.checked) (X := fun w _ => laidMetH Tryz.prog Rows.fnExactWalForgetRow.laid w) (fun _ _ _ hh h => h.of_heap hh) own started (by kernel_rfl) Tryz.func4
    (ChangeSpec.witness_shaped (enc := enc) (C := Tryz.checked) (os := os) (X := fun w _ => laidMetH Tryz.prog Rows.fnExactWalForgetRow.laid w) false (World.laidAll Tryz.prog os Rows.fnExactWalForgetRow.laid) #[.agg #[.int .i64 0, .slice none 0 0], .int .i64 0] 8 (World.laidAll_os _ _ _) (World.shaped_of_ZipB (by kernel_rfl) (by kernel_rfl)) (by kernel_rfl) (by kernel_rfl) (by kernel_rfl) (by rw [MakeChecks.laidMetH_plain _ _ _ (by kernel_rfl)]; exact laidMet_laidAll _ (by kernel_rfl) (by kernel_rfl))) ?_
  intro W base args ds gs before hval0 hW hL hS
  have hval : ∀ (j : Nat) t v, Tryz.f4.params[j]? = some t → args[j]? = some v → Value.okWide Tryz.prog W .any base t v := hval0
  have hW' := hW
  obtain ⟨p, q, hA0, hV0, rfl, hfz, hnd⟩ := hW
  have hA : DataW.TrodAll enc Tryz.prog W 0 (fun _ => true) true Tryz.f4.params.toList args.toList ds p := hA0
  have hV : DataW.TrodVars enc Tryz.prog W (fun _ => true) Rows.fnExactWalForgetSpec.vars gs q := hV0
  obtain ⟨gv0, gv1, gv2, gv3, gv4, rfl⟩ : ∃ gv0 gv1 gv2 gv3 gv4, gs = [gv0, gv1, gv2, gv3, gv4] := by
    have hlen := trodVars_len _ _ _ hV
    have hln : Rows.fnExactWalForgetSpec.vars.length = 5 := rfl
    rw [hln] at hlen
    clear hV hV0 hW' hA hA0
    match gs, hlen with
    | [gv0, gv1, gv2, gv3, gv4], _ => exact ⟨_, _, _, _, _, rfl⟩
  have hVs := hV
  rw [Tryz.params4] at hA hval
  obtain ⟨v0, vs0, d0, ds0, p0, q0, hargs, rfl, rfl, h0, r0⟩ := trodAll_cons hA
  obtain ⟨v1, vs1, d1, ds1, p1, q1, rfl, rfl, rfl, h1, r1⟩ := trodAll_cons r0
  obtain ⟨rfl, rfl, rfl⟩ := trodAll_nil r1
  obtain rfl : args = #[v0, v1] := by cases args; simp_all
  have k0 := h0
  have lt0 : ∀ x ∈ p0, x.block < W.heap.size := by obtain ⟨m, hm⟩ := k0; exact DataW.trod_lt m _ _ _ hm
  obtain ⟨room0, u0, l0, rfl, wr0, hf0, hz0⟩ := open_disk (hval 0 24 v0 rfl rfl) h0
  have k1 := h1
  have lt1 : ∀ x ∈ p1, x.block < W.heap.size := by obtain ⟨m, hm⟩ := k1; exact DataW.trod_lt m _ _ _ hm
  obtain ⟨a1, rfl, _, _, w1⟩ := open_int Tryz.underlying3 (hval 1 3 v1 rfl rfl) h1
  clear hA0 hV0 hval0
  refine (walk room0 u0 l0 a1 W hf0 hz0 w1 hL hS).mono fun e W' ⟨he, bel⟩ => ?_
  subst he
  exact ⟨_, rfl, _, _, _, [], _, _, hW', trodAll_mk1 (shut_bool Tryz.underlying4 _), (trodAll_cons_mk (Below.trod laidOut (by kernel_rfl) (of_decide_eq_true (by kernel_rfl)) k0 bel lt0) (trodAll_cons_mk (Below.trod laidOut (by kernel_rfl) (of_decide_eq_true (by kernel_rfl)) k1 bel lt1) trodAll_mk0)), Below.trodVars laidOut bel (by kernel_rfl) hVs, bel.frame _, fun h => by cases h⟩

theorem said : Rows.FnExactWalForgetSaid :=
  OpenClaim.holds_of_wide 4 Tryz.f4 rfl rfl rfl rfl rfl rfl rfl ⟨rfl, rfl, rfl, rfl, rfl⟩ rfl rfl rfl rfl rfl (by kernel_rfl) Tryz.func4 (by kernel_rfl)
    (of_decide_eq_true (by kernel_rfl)) (by unfold Func.isWrapper; first | (rw [if_pos (by decide +kernel)]; kernel_rfl) | (rw [if_neg (by decide +kernel)]; exact ⟨rfl, rfl⟩))
    (fun os started H enc _ => lifted os started H enc)

theorem plain (f : FuncId) (fn : Func) (hf : Tryz.pinned.checked.prog.funcNamed "loop.example/g00220/laws.FnExactWalForget" = some f) (hfn : Tryz.pinned.checked.prog.funcs[f]? = some fn) :
    true = Tryz.pinned.checked.prog.looks [] ∧ ∀ (j : Nat) t, fn.params[j]? = some t → Tryz.pinned.checked.prog.wantsStandIn t = false := by
  obtain rfl : f = 4 := Option.some.inj ((show Tryz.prog.funcNamed "loop.example/g00220/laws.FnExactWalForget" = some 4 by kernel_rfl).symm.trans hf) |>.symm
  obtain rfl : fn = Tryz.f4 := (Option.some.inj (Tryz.func4.symm.trans hfn)).symm
  refine ⟨by kernel_rfl, fun j t ht => ?_⟩
  rw [Tryz.params4] at ht
  have hmem : t = 24 ∨ t = 3 := by
    have := Array.mem_of_getElem? ht
    simp only [List.mem_toArray, List.mem_cons, List.not_mem_nil, or_false] at this
    rcases this with h | h
    all_goals (subst h; simp)
  rcases hmem with rfl | rfl
  · exact (show Tryz.prog.wantsStandIn 24 = false by kernel_rfl)
  · exact (show Tryz.prog.wantsStandIn 3 = false by kernel_rfl)
end Go.Proofs.YtfihhkhdigbmiaaGreatDoor.fnExactWalForget
namespace Go.Proofs.YtfihhkhdigbmiaaGreatDoor
theorem fnExactWalForget_card : Rows.FnExactWalForgetCardSaid :=
  Claim7.holds_tied_plain_at .later [] _ _ _ _ fnExactWalForget.said (fun _ h => by cases h) (by kernel_rfl) (fun _ h => by cases h) fnExactWalForget_row_tie rfl ⟨rfl, rfl⟩ (by kernel_rfl) rfl fnExactWalForget.plain (by kernel_rfl)
#print axioms fnExactWalForget_card
end Go.Proofs.YtfihhkhdigbmiaaGreatDoor
