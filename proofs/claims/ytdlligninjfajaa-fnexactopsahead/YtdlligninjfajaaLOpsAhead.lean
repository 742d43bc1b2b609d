/- For every list of acts that can be read laws.FnExactOpsAhead returns true, and the list reads as it did. No condition. (Written by py/lact.py.) -/
import Derived.Test.YtdlligninjfajaaHiM
namespace Go.Proofs.Ytdlligninjfajaa.fnExactOpsAhead
open Go.ChangeShapes Go.WideShapes Go.ChangeAt Go.RowKit
open Go.ChangeMaps (open_string shut_string)
set_option linter.unusedVariables false

/-- What is carried on: all that was there; the specification's answer; the list handed in; the program's answer. -/
structure Kw (w : World) (wv yv gv : Value) (rw rg : List Value) (p : List (List Bool)) (lx : List Op) (pg : List (List Bool)) (wx : World) : Prop where
  b : Below w.heap.size w wx
  ow : Gd w.heap.size wx wv rw p
  oy : OwnOp w.heap.size wx yv lx
  og : Gd w.heap.size wx gv rg pg
  dy : ∀ q, yv.ownBlock = some q → ¬ GdT wv rw q ∧ ¬ GdT gv rg q
  dg : ∀ q, GdT gv rg q → ¬ GdT wv rw q ∧ yv.ownBlock ≠ some q
variable {w : World} {wv yv gv : Value} {rw rg : List Value} {p : List (List Bool)} {lx : List Op} {pg : List (List Bool)} {wx : World}
theorem Kw.below {wy : World} (h : Kw w wv yv gv rw rg p lx pg wx) (hb : Below wx.heap.size wx wy) : Kw w wv yv gv rw rg p lx pg wy :=
  ⟨h.b.trans (hb.mono h.b.size), h.ow.below hb, h.oy.below hb, h.og.below hb, h.dy, h.dg⟩
theorem Kw.markY {wy : World} {lx' : List Op} (h : Kw w wv yv gv rw rg p lx pg wx) (ho : OwnOp w.heap.size wy yv lx') (ht : Touch (fun q => yv.ownBlock = some q) wx wy) : Kw w wv yv gv rw rg p lx' pg wy :=
  ⟨h.b.trans (ht.below h.b.size (fun k hk e => by have := (h.oy.lt k e).1; omega)), h.ow.kept ht (fun k hk e => (h.dy k e).1 hk), ho, h.og.kept ht (fun k hk e => (h.dy k e).2 hk), h.dy, h.dg⟩
theorem Kw.markG {wy : World} {pg' : List (List Bool)} (h : Kw w wv yv gv rw rg p lx pg wx) (ho : Gd w.heap.size wy gv rg pg') (ht : Touch (GdT gv rg) wx wy) : Kw w wv yv gv rw rg p lx pg' wy :=
  ⟨h.b.trans (ht.below h.b.size (fun k hk e => by have := (h.og.lt k e).1; omega)), h.ow.kept ht (fun k hk e => (h.dg k e).1 hk), h.oy.kept ht (fun k hk e => (h.dg k e).2 hk), ho, h.dy, h.dg⟩
set_option maxRecDepth 100000 in
set_option maxHeartbeats 8000000 in
theorem walk (v : Value) (l : List Op) (w : World) (hf : Ops w v l) (hz : ∀ i, i < l.length → (Lit.int .i64 (l.getD i default).bg).wf = true ∧ (Lit.int .i64 (l.getD i default).en).wf = true ∧ (l.getD i default).va.size ≤ maxLen) :
    Calls Try.prog 4 #[v] w fun e w' => e = .returned (.bool true) ∧ Below w.heap.size w w' := by
  have HF := hide hf
  have HZ := hide hz
  clear hf hz
  go_enter Try.func4, Try.ntmps4
  go_wp2_with fail
  refine (szOpS_any 1048576 (by omega) (by omega) v l w (unhide HF) (fun i hi => (unhide HZ i hi).2.2)).mono ?_
  rintro e w1 ⟨rfl, hb1⟩
  have K1 := hide hb1
  clear hb1
  rcases oszR_cases 1048576 l with hr | ⟨hr, hrl⟩
  · rw [hr]
    go_wp2_with fail
    go_ret
    exact ⟨rfl, unhide K1⟩
  have HS := hide (osmall_of 1048576 (by omega) l hr).1
  have HSV := hide (osmall_of 1048576 (by omega) l hr).2
  generalize oszR 1048576 l = r at *
  have HSP := hide (fun (vx : Value) (wx : World) (hx : Ops wx vx l) => specOpsAhead_any vx l wx hx (unhide HS))
  have HIM := hide (fun (vx : Value) (wx : World) (hx : Ops wx vx l) => implOpsAhead_any vx l wx hx (unhide HS))
  have HTT := hide (fun (wx : World) (hb : Below w.heap.size w wx) => toOpS_any v l wx ((unhide HF).below hb) (unhide HS))
  have HSM := hide (oa_small l)
  generalize (oaOut l).1 = p at *
  generalize (oaOut l).2 = cd at *
  clear HSV
  have HPL : Hid (p.length ≤ 1048576) := hide (by have := (unhide HSM).1; omega)
  have HPS : Hid (∀ i, i < p.length → (p.getD i []).length ≤ 1048576) := hide (fun i hi => by have := (unhide HSM).2 i hi; omega)
  have HPC : Hid (1 + cntR p p.length ≤ 8388608) := hide (by have h1 := cntR_small p (unhide HSM).2 p.length (Nat.le_refl _); have h2 := (unhide HSM).1; omega)
  clear HSM
  have hr2 : ¬ r < 0 := by omega
  go_wp2_with fail
  refine (unhide HTT w1 (unhide K1)).mono ?_
  rintro e w2 ⟨rfl, hO2, hlt2, hb2⟩
  have K2 := hide ((unhide K1).trans (hb2.mono (unhide K1).size))
  have V2 := hide hO2.read
  clear hO2 hlt2 hb2 K1
  go_wp2_with fail
  refine (unhide HSP _ w2 (unhide V2)).mono ?_
  rintro e w3 ⟨wv, rw0, rfl, hO3, hb3⟩
  have K3 := hide ((unhide K2).trans (hb3.mono (unhide K2).size))
  have O3 := hide hO3
  have Z3 := hide (fun q hq => hO3.lt q hq)
  clear hb3 hO3 V2
  go_wp2_with fail
  refine (unhide HTT w3 (unhide K3)).mono ?_
  rintro e w4 ⟨rfl, hO4, hlt4, hb4⟩
  have K4 := hide ((unhide K3).trans (hb4.mono (unhide K3).size))
  have O4 := hide hO4
  have O4w := hide ((unhide O3).below hb4)
  have HL4 := hide hlt4
  clear hb4 hO4 hlt4 O3
  go_wp2_with fail
  refine (unhide HIM _ w4 (unhide O4).read).mono ?_
  rintro e w5 ⟨gv, rg0, rfl, hO5, hb5⟩
  have P5 : Hid (Kw w wv (.slice (some ⟨w3.heap.size, 0, none⟩) l.length l.length) gv rw0 rg0 p l p w5) := hide (by
    have z2 := (unhide K2).size
    have z3 := (unhide K3).size
    have z4 := (unhide K4).size
    have z5 := hb5.size
    refine ⟨(unhide K4).trans (hb5.mono z4), ((unhide O4w).below hb5).down z2, OwnOp.down ((unhide O4).below hb5) z3, hO5.down z4, ?_, ?_⟩
    · intro q hq
      have hq2 : w3.heap.size = q := by simpa [Value.ownBlock] using hq
      have h4 := unhide HL4
      refine ⟨fun e => ?_, fun e => ?_⟩
      · have := unhide Z3 q e; omega
      · have := hO5.lt q e; omega
    · intro q hq
      have h5 := hO5.lt q hq
      have h4 := unhide HL4
      refine ⟨fun e => ?_, fun e => ?_⟩
      · have := unhide Z3 q e; omega
      · have hq2 : w3.heap.size = q := by simpa [Value.ownBlock] using e
        omega)
  clear hb5 hO5 K4 O4 O4w Z3 K2 K3 HL4
  have b3 : (cd == cd) = true := by simp
  have b4 : (cd != cd) = false := by simp
  generalize w3.heap.size = Y at *
  go_wp2_with fail
  refine (eqBoolSS_any _ _ _ (unhide P5).og (unhide P5).ow (unhide HPS) (unhide HPL)).mono ?_
  rintro e w6 ⟨rfl, hb6⟩
  have P6 := hide ((unhide P5).below hb6)
  clear hb6 P5
  go_wp2_with fail
  refine (unhide HTT w6 (unhide P6).b).mono ?_
  rintro e w7 ⟨rfl, hO7, hlt7, hb7⟩
  have P7 := hide ((unhide P6).below hb7)
  have HC := hide (eqOpS_any _ _ l w7 (unhide P7).oy.read hO7.read (unhide HS))
  clear hO7 hb7 hlt7 P6
  go_wp2_with fail
  refine (unhide HC).mono ?_
  rintro e w8 ⟨rfl, hb8⟩
  have P8 := hide ((unhide P7).below hb8)
  clear hb8 P7 HC
  go_wp2_with fail
  refine (markOpS_any 1 (by omega) (by omega) _ _ l w8 (unhide P8).oy (unhide HS)).mono ?_
  rintro e w9 ⟨rfl, hO9, hT9⟩
  have P9 := hide ((unhide P8).markY hO9 hT9)
  clear hO9 hT9 P8
  have hk9 : ¬ (((1 : Nat) : Int) + 4 * (l.length : Int)) < 0 := by omega
  have hk10 := hk9
  simp only [Int.cast_ofNat_Int] at hk10
  go_wp2_with fail
  refine (eqBoolSS_any _ _ _ (unhide P9).og (unhide P9).ow (unhide HPS) (unhide HPL)).mono ?_
  rintro e w10 ⟨rfl, hb10⟩
  have P10 := hide ((unhide P9).below hb10)
  clear hb10 P9 hk9 hk10
  go_wp2_with fail
  refine (markBoolSS_any (unhide P10).og (unhide HPS) (unhide HPL) (unhide HPC)).mono ?_
  rintro e w11 ⟨rfl, hO11, hT11⟩
  have P11 := hide ((unhide P10).markG hO11 hT11)
  clear hO11 hT11 P10
  go_wp2_with fail
  refine (heldBoolSS_any (unhide P11).og (unhide HPS) (unhide HPL) (unhide HPC)).mono ?_
  rintro e w12 ⟨rfl, hb12⟩
  have P12 := hide ((unhide P11).below hb12)
  clear hb12 P11
  have hk12 : ¬ (1 : Int) + (cntR p p.length : Int) < 0 := by omega
  go_wp2_with fail
  refine (unhide HTT w12 (unhide P12).b).mono ?_
  rintro e w13 ⟨rfl, hO13, hlt13, hb13⟩
  have P13 := hide ((unhide P12).below hb13)
  have V13 := hide hO13.read
  clear hb13 hO13 hlt13 P12
  go_wp2_with fail
  refine (unhide HIM _ w13 (unhide V13)).mono ?_
  rintro e w14 ⟨hv14, rv14, rfl, hO14, hb14⟩
  have P14 := hide ((unhide P13).below hb14)
  have O14 := hide hO14
  clear hb14 hO14 P13 V13
  go_wp2_with fail
  refine (eqBoolSS_any _ _ _ (unhide O14) (unhide P14).ow (unhide HPS) (unhide HPL)).mono ?_
  rintro e w16 ⟨rfl, hb16⟩
  have P16 := hide ((unhide P14).below hb16)
  clear hb16 P14 O14
  go_wp2_with fail
  refine (heldBoolSS_any (unhide P16).og (unhide HPS) (unhide HPL) (unhide HPC)).mono ?_
  rintro e w17 ⟨rfl, hb17⟩
  have P17 := hide ((unhide P16).below hb17)
  clear hb17 P16
  go_wp2_with fail
  go_ret
  exact ⟨rfl, (unhide P17).b⟩

theorem own : ownKnob Try.prog.godebug = none := by kernel_rfl
theorem laidOut : laidOutB Try.prog = true := by kernel_rfl
set_option maxRecDepth 100000 in
theorem lifted (os : Os) (started : os.Started) (H : Type) (enc : TypeId × Value → H) :
    ReturnsInHanded {} Try.checked os 4 .any (Rows.fnExactOpsAheadSpec.pre6 enc Try.prog Try.f4 Rows.fnExactOpsAheadRow.domain false) (Rows.fnExactOpsAheadSpec.post enc Try.prog Try.f4 false true false false) := by
  refine returnsInHanded_of_change (C := Try.checked) own started (by kernel_rfl) Try.func4
    (ChangeSpec.witness6 (enc := enc) (C := Try.checked) false ⟨#[], #[.slice none 0 0], []⟩ 8 (by kernel_rfl) (by kernel_rfl) (by kernel_rfl) (by kernel_rfl)) ?_
  intro W base args ds gs before hval0 hW hcnd _
  have hval : ∀ (j : Nat) t v, Try.f4.params[j]? = some t → args[j]? = some v → Value.okWide Try.prog W .any base t v := hval0
  have hW' := hW
  obtain ⟨p, q, hA0, hV, rfl, hfz, hnd⟩ := hW
  have hA : DataW.TrodAll enc Try.prog W 0 (fun _ => true) true Try.f4.params.toList args.toList ds p := hA0
  rw [Try.params4] at hA hval
  obtain ⟨v0, vs0, d0, ds0, p0, q0, hargs, rfl, rfl, h0, r0⟩ := trodAll_cons hA
  obtain ⟨rfl, rfl, rfl⟩ := trodAll_nil r0
  obtain rfl : args = #[v0] := by cases args; simp_all
  obtain ⟨rfl, rfl⟩ := trodVars_none hV
  have k0 := h0
  have lt0 : ∀ x ∈ p0, x.block < W.heap.size := by obtain ⟨m, hm⟩ := k0; exact DataW.trod_lt m _ _ _ hm
  obtain ⟨l0, hf0, hz0⟩ := open_acts (hval 0 22 v0 rfl rfl) h0
  clear hA0 hval0
  refine (walk v0 l0 W hf0 hz0).mono fun e W' ⟨he, bel⟩ => ?_
  subst he
  exact ⟨_, rfl, _, _, _, [], _, [], hW', trodAll_mk1 (shut_bool Try.underlying4 _), (trodAll_cons_mk (Below.trod laidOut (by kernel_rfl) (of_decide_eq_true (by kernel_rfl)) k0 bel lt0) trodAll_mk0), rfl, bel.frame _, fun h => by cases h⟩

theorem over : Rows.fnExactOpsAheadRow.holds Try.pinned (OpenSpec.ofChange Rows.fnExactOpsAheadSpec) :=
  OpenClaim.holds_of_wide 4 Try.f4 rfl rfl rfl rfl rfl rfl rfl ⟨rfl, rfl, rfl, rfl, rfl⟩ rfl rfl rfl rfl rfl (by kernel_rfl) Try.func4 (by kernel_rfl)
    (of_decide_eq_true (by kernel_rfl)) (by unfold Func.isWrapper; first | (rw [if_pos (by decide +kernel)]; kernel_rfl) | (rw [if_neg (by decide +kernel)]; exact ⟨rfl, rfl⟩))
    (fun os started H enc _ => lifted os started H enc)

end Go.Proofs.Ytdlligninjfajaa.fnExactOpsAhead
namespace Go.Proofs.Ytdlligninjfajaa
theorem fnExactOpsAhead_holds : Rows.FnExactOpsAheadSaid := fnExactOpsAhead.over
#print axioms fnExactOpsAhead_holds
end Go.Proofs.Ytdlligninjfajaa
