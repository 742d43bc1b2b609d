/- For every list of texts that can be read, laws.FnExactFoldRecords returns true, and the list reads as it did. -/
import Derived.Test.YtpdjfjapdmopoaaGqB
import Derived.Test.YtpdjfjapdmopoaaGqA
import Derived.Test.YtpdjfjapdmopoaaStM
import Derived.Test.YtpdjfjapdmopoaaStrL
import Derived.Test.YtpdjfjapdmopoaaLawG
import Derived.Test.YtpdjfjapdmopoaaRows
namespace Go.Proofs.Ytpdjfjapdmopoaa.fnExactFoldRecords
open Go.ChangeShapes Go.WideShapes Go.ChangeAt Go.RowKit
open Go.ChangeMaps (open_string shut_string)
set_option linter.unusedVariables false

theorem fold_len (l : List ByteArray) : (foldOut l).1.l.length ≤ 60 := by
  unfold foldOut
  split
  · show 0 ≤ 60; omega
  · split
    · show 0 ≤ 60; omega
    · cases h : foldS l with
      | none => show 0 ≤ 60; omega
      | some s =>
        unfold foldS at h
        cases hf : foldAt l l.length with
        | none => rw [hf] at h; cases h
        | some s2 =>
          rw [hf] at h
          dsimp only at h
          split at h
          · cases h; exact (foldAt_ok l _ _ hf).1
          · cases h
theorem _root_.Go.Proofs.Ytpdjfjapdmopoaa.OwnS.down1 {B B' : Nat} {w : World} {v : Value} {l : List ByteArray} (h : OwnS B w v l) (hB : B' ≤ B) : OwnS B' w v l := World.ownsRow_monoE h hB
/-- What is carried on: all that was there; the specification's answer in box W, the list handed in, the program's answer in box G. -/
structure Kw (w : World) (W G : Nat) (tm vo : Int) (wv yv gv : Value) (p : List En) (y : List ByteArray) (pg : List En) (wx : World) : Prop where
  b : Below w.heap.size w wx
  bw : Blk wx W [.int .i64 tm, .int .i64 vo, wv]
  ow : OwnE w.heap.size wx wv p
  oy : OwnS w.heap.size wx yv y
  bg : Blk wx G [.int .i64 tm, .int .i64 vo, gv]
  og : OwnE w.heap.size wx gv pg
  dy : ∀ q, yv.ownBlock = some q → w.heap.size ≤ q ∧ q ≠ W ∧ q ≠ G ∧ wv.ownBlock ≠ some q ∧ gv.ownBlock ≠ some q
  dg : ∀ q, gv.ownBlock = some q → w.heap.size ≤ q ∧ q ≠ W ∧ q ≠ G ∧ wv.ownBlock ≠ some q ∧ yv.ownBlock ≠ some q
variable {w : World} {W G : Nat} {tm vo : Int} {wv yv gv : Value} {p : List En} {y : List ByteArray} {pg : List En} {wx : World}
theorem Kw.below {wy : World} (h : Kw w W G tm vo wv yv gv p y pg wx) (hb : Below wx.heap.size wx wy) : Kw w W G tm vo wv yv gv p y pg wy :=
  ⟨h.b.trans (hb.mono h.b.size), h.bw.below hb, h.ow.below hb, h.oy.below hb, h.bg.below hb, h.og.below hb, h.dy, h.dg⟩
theorem Kw.markY {wy : World} {y' : List ByteArray} (h : Kw w W G tm vo wv yv gv p y pg wx) (ho : OwnS w.heap.size wy yv y') (ht : Touch (fun q => yv.ownBlock = some q) wx wy) : Kw w W G tm vo wv yv gv p y' pg wy :=
  ⟨h.b.trans (ht.below h.b.size (fun k hk e => by have := (h.dy k e).1; omega)), h.bw.kept ht (fun e => (h.dy _ e).2.1 rfl), h.ow.kept ht (fun k hk e => (h.dy k e).2.2.2.1 hk), ho, h.bg.kept ht (fun e => (h.dy _ e).2.2.1 rfl), h.og.kept ht (fun k hk e => (h.dy k e).2.2.2.2 hk), h.dy, h.dg⟩
theorem Kw.markG {wy : World} {pg' : List En} (h : Kw w W G tm vo wv yv gv p y pg wx) (ho : OwnE w.heap.size wy gv pg') (ht : Touch (fun q => gv.ownBlock = some q) wx wy) : Kw w W G tm vo wv yv gv p y pg' wy :=
  ⟨h.b.trans (ht.below h.b.size (fun k hk e => by have := (h.dg k e).1; omega)), h.bw.kept ht (fun e => (h.dg _ e).2.1 rfl), h.ow.kept ht (fun k hk e => (h.dg k e).2.2.2.1 hk), OwnS.kept h.oy ht (fun k hk e => (h.dg k e).2.2.2.2 hk), h.bg.kept ht (fun e => (h.dg _ e).2.2.1 rfl), ho, h.dy, h.dg⟩
set_option maxRecDepth 100000 in
set_option maxHeartbeats 8000000 in
theorem walk (v : Value) (l : List ByteArray) (w : World) (hs : Strs w v l) (hz : ∀ i, i < l.length → (l.getD i ByteArray.empty).size ≤ maxLen) :
    Calls Try.prog 3 #[v] w fun e w' => e = .returned (.bool true) ∧ Below w.heap.size w w' := by
  have HS := hide hs
  have HM := hide (szStringS_any 1048576 (by omega) (by omega) v l w hs hz)
  have HR := hide (sszR_cases 1048576 l)
  have HQ := hide (ssmall_of 1048576 (by omega) l)
  have HPL := hide (Nat.le_trans (fold_len l) (show 60 ≤ 1048576 by omega))
  have HSP := hide (fun v wx (h : Strs wx v l) hl hz => specFold_any v l wx h hl hz)
  have HIM := hide (fun v wx (h : Strs wx v l) hl hz => implFold_any v l wx h hl hz)
  generalize (foldOut l).1.tm = tm at *
  generalize (foldOut l).1.vo = vo at *
  generalize (foldOut l).1.l = p at *
  generalize (foldOut l).2 = pc at *
  clear hz hs
  generalize sszR 1048576 l = r at *
  go_enter Try.func3, Try.ntmps3
  go_wp2_with fail
  refine (unhide HM).mono ?_
  rintro e w1 ⟨rfl, hb1⟩
  have B1 := hide hb1
  clear hb1
  rcases unhide HR with hr | ⟨hr, _⟩
  · subst hr
    go_wp2_with fail
    go_ret
    exact ⟨rfl, unhide B1⟩
  have HSM := hide (unhide HQ hr)
  have hr2 : ¬ r < 0 := by omega
  go_wp2_with fail
  refine (toStringS_any v l w1 ((unhide HS).below (unhide B1)) (unhide HSM).1).mono ?_
  rintro e w2 ⟨rfl, hO2, hz2, hb2⟩
  have B2 := hide ((unhide B1).trans (hb2.mono (unhide B1).size))
  have O2 := hide hO2
  clear hO2 hz2 hb2
  go_wp2_with fail
  refine (unhide HSP _ w2 (unhide O2).strs (unhide HSM).1 (unhide HSM).2).mono ?_
  rintro e w3 ⟨wa, wc, rfl, hO3, hb3⟩
  have AW := (Below.refl w3.heap.size w3).alloc (Nat.le_refl _) (.cells #[.int .i64 tm, .int .i64 vo, .slice wa p.length wc] 26)
  have B3 := hide ((unhide B2).trans ((hb3.trans (AW.mono hb3.size)).mono (unhide B2).size))
  have W3 := hide (Blk.new w3 #[.int .i64 tm, .int .i64 vo, .slice wa p.length wc] 26 w3.heap.size rfl)
  have O3 := hide (hO3.below AW)
  have Z3 := hide (And.intro (And.intro (unhide B2).size hb3.size) (And.intro (fun q hq => World.ownsRow.lt hO3 q hq) (show (w3.alloc (.cells #[.int .i64 tm, .int .i64 vo, .slice wa p.length wc] 26)).heap.size = w3.heap.size + 1 by simp)))
  clear hb3 hO3 AW O2 B2
  go_wp2_with fail
  generalize w3.alloc (.cells #[.int .i64 tm, .int .i64 vo, .slice wa p.length wc] 26) = w3b at *
  refine (toStringS_any v l w3b ((unhide HS).below (unhide B3)) (unhide HSM).1).mono ?_
  rintro e w4 ⟨rfl, hO4, hz4, hb4⟩
  have B4 := hide ((unhide B3).trans (hb4.mono (unhide B3).size))
  have W4 := hide ((unhide W3).below hb4)
  have O4w := hide ((unhide O3).below hb4)
  have O4 := hide hO4
  have Z4 := hide (And.intro hz4 hb4.size)
  clear hO4 hz4 hb4 B3 W3 O3
  go_wp2_with fail
  generalize hyb : w3b.heap.size = yb at *
  refine (unhide HIM _ w4 (unhide O4).strs (unhide HSM).1 (unhide HSM).2).mono ?_
  rintro e w5 ⟨ga, gc, rfl, hO5, hb5⟩
  have AG := (Below.refl w5.heap.size w5).alloc (Nat.le_refl _) (.cells #[.int .i64 tm, .int .i64 vo, .slice ga p.length gc] 26)
  have P5 : Hid (Kw w w3.heap.size w5.heap.size tm vo (.slice wa p.length wc) (.slice (some ⟨yb, 0, none⟩) l.length l.length) (.slice ga p.length gc) p l p (w5.alloc (.cells #[.int .i64 tm, .int .i64 vo, .slice ga p.length gc] 26))) := hide (by
    obtain ⟨⟨z1, z2⟩, z3, z4⟩ := unhide Z3
    obtain ⟨z5, z6⟩ := unhide Z4
    have z7 := hb5.size
    have z8 := (unhide B4).size
    have hbb := hb5.trans (AG.mono z7)
    refine ⟨(unhide B4).trans (hbb.mono z8), (unhide W4).below hbb, World.ownsRow_monoE ((unhide O4w).below hbb) (by omega), ?_, Blk.new w5 #[.int .i64 tm, .int .i64 vo, .slice ga p.length gc] 26 w5.heap.size rfl, World.ownsRow_monoE (hO5.below AG) (by omega), ?_, ?_⟩
    · exact OwnS.down1 ((unhide O4).below hbb) (by omega)
    · intro q hq
      cases hq
      refine ⟨?_, ?_, ?_, fun e => ?_, fun e => ?_⟩
      · show w.heap.size ≤ yb; omega
      · show yb ≠ w3.heap.size; omega
      · show yb ≠ w5.heap.size; omega
      · have := z3 yb e; omega
      · have := World.ownsRow.lt hO5 yb e; omega
    · intro q hq
      have h5 := World.ownsRow.lt hO5 q hq
      refine ⟨by omega, by omega, by omega, fun e => ?_, fun e => ?_⟩
      · have := z3 q e; omega
      · cases e
        have h6 : w4.heap.size + 1 ≤ yb := h5.1
        omega)
  clear hb5 hO5 AG B4 W4 O4w O4 Z3 Z4
  have cw0 := (unhide P5).bw.cell 0 rfl
  have cw1 := (unhide P5).bw.cell 1 rfl
  have cw2 := (unhide P5).bw.cell 2 rfl
  have cg0 := (unhide P5).bg.cell 0 rfl
  have cg1 := (unhide P5).bg.cell 1 rfl
  have cg2 := (unhide P5).bg.cell 2 rfl
  go_wp2_with fail
  generalize w5.alloc (.cells #[.int .i64 tm, .int .i64 vo, .slice ga p.length gc] 26) = w5b at *
  generalize w3.heap.size = W at *
  generalize w5.heap.size = G at *
  refine (eqState_any tm vo _ _ p w5b (unhide P5).og.ens (unhide P5).ow.ens (unhide HPL)).mono ?_
  rintro e w6 ⟨rfl, hb6⟩
  have P6 := hide ((unhide P5).below hb6)
  clear hb6 P5 cw0 cw1 cw2 cg0 cg1 cg2
  go_wp2_with fail
  refine (toStringS_any v l w6 ((unhide HS).below (unhide P6).b) (unhide HSM).1).mono ?_
  rintro e w7 ⟨rfl, hO7, hz7, hb7⟩
  have P7 := hide ((unhide P6).below hb7)
  have O7 := hide hO7
  clear hb7 hO7 hz7 P6
  go_wp2_with fail
  refine (eqStringS_any _ _ l w7 (unhide P7).oy.strs (unhide O7).strs (unhide HSM).1).mono ?_
  rintro e w8 ⟨rfl, n8, hw8⟩
  have P8 := hide ((unhide P7).below (show Below w7.heap.size w7 w8 by rw [hw8]; exact below_drewN (Below.refl _ _) n8))
  clear hw8 O7 P7
  go_wp2_with fail
  refine (markStringS_any _ _ l w8 (unhide P8).oy (unhide HSM).1).mono ?_
  rintro e w9 ⟨rfl, hO9, hT9⟩
  have P9 := hide ((unhide P8).markY hO9 hT9)
  clear hO9 hT9 P8
  have hk9 : ¬ 1 + (l.length : Int) < 0 := by omega
  have cw0 := (unhide P9).bw.cell 0 rfl
  have cw1 := (unhide P9).bw.cell 1 rfl
  have cw2 := (unhide P9).bw.cell 2 rfl
  have cg0 := (unhide P9).bg.cell 0 rfl
  have cg1 := (unhide P9).bg.cell 1 rfl
  have cg2 := (unhide P9).bg.cell 2 rfl
  go_wp2_with fail
  refine (eqState_any tm vo _ _ p w9 (unhide P9).og.ens (unhide P9).ow.ens (unhide HPL)).mono ?_
  rintro e w10 ⟨rfl, hb10⟩
  have P10 := hide ((unhide P9).below hb10)
  clear hb10 P9 cw0 cw1 cw2 cg0 cg1 cg2
  have cg0 := (unhide P10).bg.cell 0 rfl
  have cg1 := (unhide P10).bg.cell 1 rfl
  have cg2 := (unhide P10).bg.cell 2 rfl
  go_wp2_with fail
  refine (markState_any 1 (by omega) (by omega) tm vo _ _ _ _ p w10 (unhide P10).og (unhide HPL)).mono ?_
  rintro e w11 ⟨rfl, hO11, hT11⟩
  have P11 := hide ((unhide P10).markG hO11 hT11)
  clear hO11 hT11 P10 cg0 cg1 cg2
  have cg0 := (unhide P11).bg.cell 0 rfl
  have cg1 := (unhide P11).bg.cell 1 rfl
  have cg2 := (unhide P11).bg.cell 2 rfl
  go_wp2_with fail
  refine (heldState_any 1 (by omega) (by omega) tm vo _ _ _ _ p.length w11 (unhide P11).og (unhide HPL)).mono ?_
  rintro e w12 ⟨rfl, hb12⟩
  have P12 := hide ((unhide P11).below hb12)
  clear hb12 P11 cg0 cg1 cg2
  have hk12 : ¬ ((1 : Nat) : Int) + 3 * (p.length : Int) < 0 := by omega
  have hk13 := hk12
  simp only [Int.cast_ofNat_Int] at hk13
  go_wp2_with fail
  refine (toStringS_any v l w12 ((unhide HS).below (unhide P12).b) (unhide HSM).1).mono ?_
  rintro e w13 ⟨rfl, hO13, hz13, hb13⟩
  have P13 := hide ((unhide P12).below hb13)
  have O13 := hide hO13
  clear hb13 hO13 hz13 P12
  go_wp2_with fail
  refine (unhide HIM _ w13 (unhide O13).strs (unhide HSM).1 (unhide HSM).2).mono ?_
  rintro e w14 ⟨ha, hc, rfl, hO14, hb14⟩
  have AH := (Below.refl w14.heap.size w14).alloc (Nat.le_refl _) (.cells #[.int .i64 tm, .int .i64 vo, .slice ha p.length hc] 26)
  have P14 := hide (((unhide P13).below hb14).below AH)
  have O14 := hide (hO14.below AH)
  have H14 := hide (Blk.new w14 #[.int .i64 tm, .int .i64 vo, .slice ha p.length hc] 26 w14.heap.size rfl)
  clear hb14 hO14 AH P13 O13
  have cw0 := (unhide P14).bw.cell 0 rfl
  have cw1 := (unhide P14).bw.cell 1 rfl
  have cw2 := (unhide P14).bw.cell 2 rfl
  have ch0 := (unhide H14).cell 0 rfl
  have ch1 := (unhide H14).cell 1 rfl
  have ch2 := (unhide H14).cell 2 rfl
  go_wp2_with fail
  generalize w14.alloc (.cells #[.int .i64 tm, .int .i64 vo, .slice ha p.length hc] 26) = w15 at *
  refine (eqState_any tm vo _ _ p w15 (unhide O14).ens (unhide P14).ow.ens (unhide HPL)).mono ?_
  rintro e w16 ⟨rfl, hb16⟩
  have P16 := hide ((unhide P14).below hb16)
  clear hb16 P14 O14 H14 ch0 ch1 ch2 cw0 cw1 cw2
  have cg0 := (unhide P16).bg.cell 0 rfl
  have cg1 := (unhide P16).bg.cell 1 rfl
  have cg2 := (unhide P16).bg.cell 2 rfl
  go_wp2_with fail
  refine (heldState_any 1 (by omega) (by omega) tm vo _ _ _ _ p.length w16 (unhide P16).og (unhide HPL)).mono ?_
  rintro e w17 ⟨rfl, hb17⟩
  have P17 := hide ((unhide P16).below hb17)
  clear hb17 P16
  go_wp2_with fail
  go_ret
  exact ⟨rfl, (unhide P17).b⟩

theorem own : ownKnob Try.prog.godebug = none := by kernel_rfl
theorem laidOut : laidOutB Try.prog = true := by kernel_rfl
set_option maxRecDepth 100000 in
theorem lifted (os : Os) (started : os.Started) (H : Type) (enc : TypeId × Value → H) :
    ReturnsInHanded {} Try.checked os 3 .any (Rows.fnExactFoldRecordsSpec.pre6 enc Try.prog Try.f3 Rows.fnExactFoldRecordsRow.domain false) (Rows.fnExactFoldRecordsSpec.post enc Try.prog Try.f3 false true false false) := by
  refine returnsInHanded_of_change (C := Try.checked) own started (by kernel_rfl) Try.func3
    (ChangeSpec.witness6 (enc := enc) (C := Try.checked) false ⟨#[], #[.slice none 0 0], []⟩ 8 (by kernel_rfl) (by kernel_rfl) (by kernel_rfl) (by kernel_rfl)) ?_
  intro W base args ds gs before hval0 hW hcnd _
  have hval : ∀ (j : Nat) t v, Try.f3.params[j]? = some t → args[j]? = some v → Value.okWide Try.prog W .any base t v := hval0
  have hW' := hW
  obtain ⟨p, q, hA0, hV, rfl, hfz, hnd⟩ := hW
  have hA : DataW.TrodAll enc Try.prog W 0 (fun _ => true) true Try.f3.params.toList args.toList ds p := hA0
  rw [Try.params3] at hA hval
  obtain ⟨v0, vs0, d0, ds0, p0, q0, hargs, rfl, rfl, h0, r0⟩ := trodAll_cons hA
  obtain ⟨rfl, rfl, rfl⟩ := trodAll_nil r0
  obtain rfl : args = #[v0] := by cases args; simp_all
  obtain ⟨rfl, rfl⟩ := trodVars_none hV
  have k0 := h0
  have lt0 : ∀ x ∈ p0, x.block < W.heap.size := by obtain ⟨m, hm⟩ := k0; exact DataW.trod_lt m _ _ _ hm
  obtain ⟨l0, hf0, hz0⟩ := open_texts (hval 0 22 v0 rfl rfl) h0
  clear hA0 hval0
  refine (walk v0 l0 W hf0 hz0).mono fun e W' ⟨he, bel⟩ => ?_
  subst he
  exact ⟨_, rfl, _, _, _, [], _, [], hW', trodAll_mk1 (shut_bool Try.underlying4 _), (trodAll_cons_mk (Below.trod laidOut (by kernel_rfl) (of_decide_eq_true (by kernel_rfl)) k0 bel lt0) trodAll_mk0), rfl, bel.frame _, fun h => by cases h⟩

theorem over : Rows.fnExactFoldRecordsRow.holds Try.pinned (OpenSpec.ofChange Rows.fnExactFoldRecordsSpec) :=
  OpenClaim.holds_of_wide 3 Try.f3 rfl rfl rfl rfl rfl rfl rfl ⟨rfl, rfl, rfl, rfl, rfl⟩ rfl rfl rfl rfl rfl (by kernel_rfl) Try.func3 (by kernel_rfl)
    (of_decide_eq_true (by kernel_rfl)) (by unfold Func.isWrapper; first | (rw [if_pos (by decide +kernel)]; kernel_rfl) | (rw [if_neg (by decide +kernel)]; exact ⟨rfl, rfl⟩))
    (fun os started H enc _ => lifted os started H enc)

end Go.Proofs.Ytpdjfjapdmopoaa.fnExactFoldRecords
namespace Go.Proofs.Ytpdjfjapdmopoaa
theorem fnExactFoldRecords_holds : Rows.FnExactFoldRecordsSaid := fnExactFoldRecords.over
#print axioms fnExactFoldRecords_holds
end Go.Proofs.Ytpdjfjapdmopoaa
