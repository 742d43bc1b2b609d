/- For every entry that can be read, laws.FnExactEntryBytes returns true, and the entry reads as it did. No condition. -/
import Derived.Test.YtfcnemafbefofahLawE
import Derived.Test.YtfcnemafbefofahEntB
import Derived.Test.YtfcnemafbefofahMark
import Derived.Test.YtfcnemafbefofahCopies
namespace Go.Proofs.Ytfcnemafbefofah.fnExactEntryBytes
open Go.ChangeShapes Go.WideShapes Go.ChangeAt Go.RowKit
open Go.ChangeMaps (open_string shut_string)
set_option linter.unusedVariables false

theorem out_len (t k : Int) (d : ByteArray) : (entOut t k d).1.length ≤ 1000 := by
  unfold entOut
  split
  · rename_i h
    obtain ⟨b1, b2, b3, b4, b5⟩ := entOK_bounds h
    simp [entBytes, encN, textsL_len, sizes]; omega
  · simp

set_option maxRecDepth 100000 in
set_option maxHeartbeats 2000000 in
theorem walk (t k : Int) (d : ByteArray) (w : World) (wt : (Lit.int .i64 t).wf = true) (wk : (Lit.int .i64 k).wf = true) (hd : d.size ≤ maxLen) :
    Calls Try.prog 8 #[.agg #[.int .i64 t, .int .i64 k, .string d]] w fun e w' => e = .returned (.bool true) ∧ Below w.heap.size w w' := by
  have HK := hide hd
  clear wk wt
  have X0 := hide (Blk.new w #[.int .i64 t, .int .i64 k, .string d] 44 w.heap.size rfl)
  have B0 := hide ((Below.refl w.heap.size w).alloc (Nat.le_refl _) (.cells #[.int .i64 t, .int .i64 k, .string d] 44))
  by_cases h : d.size ≤ 1048576
  · unfold maxLen at hd
    have hol := out_len t k d
    go_enter Try.func8, Try.ntmps8
    go_wp2_with fail
    refine (szEntry_yes t k d _ h).mono ?_
    rintro e w1 ⟨rfl, hb1⟩
    have X1 := hide ((unhide X0).below hb1)
    have B1 := hide ((unhide B0).trans (hb1.mono (unhide B0).size))
    clear hb1 X0 B0
    have hB := (unhide X1).1
    have c0 := (unhide X1).cell 0 rfl
    have c1 := (unhide X1).cell 1 rfl
    have c2 := (unhide X1).cell 2 rfl
    go_wp2_with fail
    refine (toEntry_any t k d _).mono ?_
    rintro e w2 ⟨rfl, hb2⟩
    have X2 := hide ((unhide X1).below hb2)
    have B2 := hide ((unhide B1).trans (hb2.mono (unhide B1).size))
    clear hb2 X1 B1 hB c0 c1 c2
    go_wp2_with fail
    refine (specEntryBytes_any t k d _ (unhide HK) h).mono ?_
    rintro e w3 ⟨vs, rfl, hOs, hb3⟩
    have X3 := hide ((unhide X2).below hb3)
    have B3 := hide ((unhide B2).trans (hb3.mono (unhide B2).size))
    have S3 := hide (hOs.mono (unhide B2).size)
    clear hb3 X2 B2 hOs
    have hB := (unhide X3).1
    have c0 := (unhide X3).cell 0 rfl
    have c1 := (unhide X3).cell 1 rfl
    have c2 := (unhide X3).cell 2 rfl
    go_wp2_with fail
    refine (toEntry_any t k d _).mono ?_
    rintro e w4 ⟨rfl, hb4⟩
    have X4 := hide ((unhide X3).below hb4)
    have B4 := hide ((unhide B3).trans (hb4.mono (unhide B3).size))
    have S4 := hide ((unhide S3).below hb4)
    clear hb4 X3 B3 S3 hB c0 c1 c2
    go_wp2_with fail
    refine (implEntryBytes_any t k d _ (unhide HK)).mono ?_
    rintro e w5 ⟨vi, rfl, hOi, hb5⟩
    have X5 := hide ((unhide X4).below hb5)
    have B5 := hide ((unhide B4).trans (hb5.mono (unhide B4).size))
    have S5 := hide ((unhide S4).below hb5)
    have SL := hide (fun r hr => ((unhide S4).lt r hr).2)
    have XL := hide (unhide X4).1
    have I5 := hide hOi
    have hz4 := (unhide B4).size
    clear hb5 X4 B4 S4 hOi
    obtain ⟨out, hout⟩ : ∃ out, out = entOut t k d := ⟨_, rfl⟩
    rw [← hout] at hol S5 I5 ⊢
    have HO := hide hout
    clear hout
    obtain ⟨l, code⟩ := out
    dsimp only at hol S5 I5 ⊢
    go_wp2_with fail
    refine (eqByteS_any vi vs l _ (unhide I5).bytes (unhide S5).bytes (by omega)).mono ?_
    rintro e w6 ⟨rfl, n6, rfl⟩
    have X6 := hide ((unhide X5).kept (T := fun _ => False) ((Touch.refl _ _).drewN n6) (fun h => h))
    have B6 := hide (below_drewN (unhide B5) n6)
    have S6 := hide ((unhide S5).drewN n6)
    have I6 := hide ((unhide I5).drewN n6)
    clear X5 B5 S5 I5
    generalize w5.drewN n6 = w6 at *
    go_wp2_with fail
    refine (markByteS_any _ vi l _ (unhide I6) (by omega)).mono ?_
    rintro e w7 ⟨rfl, hM, hT⟩
    have X7 := hide ((unhide X6).kept hT (fun e => by have := ((unhide I6).lt _ e).1; have := unhide XL; omega))
    have B7 := hide ((unhide B6).trans (hT.below (B := w.heap.size) (unhide B6).size (fun r hr e => by have := ((unhide I6).lt _ e).1; omega)))
    have S7 := hide ((unhide S6).kept hT (fun r hr e => by have := ((unhide I6).lt _ e).1; have := unhide SL r hr; omega))
    have M7 := hide hM
    clear hM hT X6 B6 S6 I6
    go_wp2_with fail
    refine (heldByteS_any _ vi l.length _ (unhide M7) (by omega)).mono ?_
    rintro e w8 ⟨rfl, rfl⟩
    have hB := (unhide X7).1
    have c0 := (unhide X7).cell 0 rfl
    have c1 := (unhide X7).cell 1 rfl
    have c2 := (unhide X7).cell 2 rfl
    go_wp2_with fail
    refine (toEntry_any t k d _).mono ?_
    rintro e w9 ⟨rfl, hb9⟩
    have B9 := hide ((unhide B7).trans (hb9.mono (unhide B7).size))
    have S9 := hide ((unhide S7).below hb9)
    have M9 := hide ((unhide M7).below hb9)
    clear hb9 X7 B7 S7 M7 hB c0 c1 c2
    go_wp2_with fail
    refine (implEntryBytes_any t k d _ (unhide HK)).mono ?_
    rintro e w10 ⟨vh, rfl, hOh, hb10⟩
    rw [← unhide HO] at hOh ⊢
    dsimp only at hOh ⊢
    have B10 := hide ((unhide B9).trans (hb10.mono (unhide B9).size))
    have S10 := hide ((unhide S9).below hb10)
    have M10 := hide ((unhide M9).below hb10)
    have H10 := hide hOh
    clear hb10 B9 S9 M9 hOh
    go_wp2_with fail
    refine (eqByteS_any vh vs l _ (unhide H10).bytes (unhide S10).bytes (by omega)).mono ?_
    rintro e w11 ⟨rfl, n11, rfl⟩
    have B11 := hide (below_drewN (unhide B10) n11)
    have M11 := hide ((unhide M10).drewN n11)
    clear B10 M10 S10 H10
    generalize w10.drewN n11 = w11 at *
    go_wp2_with fail
    refine (heldByteS_any _ vi l.length _ (unhide M11) (by omega)).mono ?_
    rintro e w12 ⟨rfl, rfl⟩
    go_wp2_with fail
    go_ret
    exact ⟨rfl, unhide B11⟩
  · go_enter Try.func8, Try.ntmps8
    go_wp2_with fail
    refine (szEntry_no t k d _ (unhide HK) (by omega)).mono ?_
    rintro e w1 ⟨rfl, hb1⟩
    have B1 := hide ((unhide B0).trans (hb1.mono (unhide B0).size))
    clear hb1
    go_wp2_with fail
    go_ret
    exact ⟨rfl, unhide B1⟩

theorem own : ownKnob Try.prog.godebug = none := by kernel_rfl
theorem laidOut : laidOutB Try.prog = true := by kernel_rfl
set_option maxRecDepth 100000 in
theorem lifted (os : Os) (started : os.Started) (H : Type) (enc : TypeId × Value → H) :
    ReturnsInHanded {} Try.checked os 8 .any (Rows.fnExactEntryBytesSpec.pre6 enc Try.prog Try.f8 Rows.fnExactEntryBytesRow.domain false) (Rows.fnExactEntryBytesSpec.post enc Try.prog Try.f8 false true false false) := by
  refine returnsInHanded_of_change (C := Try.checked) own started (by kernel_rfl) Try.func8
    (ChangeSpec.witness6 (enc := enc) (C := Try.checked) false ⟨#[], #[.agg #[.int .i64 0, .int .i64 0, .string ByteArray.empty]], []⟩ 8 (by kernel_rfl) (by kernel_rfl) (by kernel_rfl) (by kernel_rfl)) ?_
  intro W base args ds gs before hval0 hW hcnd _
  have hval : ∀ (j : Nat) t v, Try.f8.params[j]? = some t → args[j]? = some v → Value.okWide Try.prog W .any base t v := hval0
  have hW' := hW
  obtain ⟨p, q, hA0, hV, rfl, hfz, hnd⟩ := hW
  have hA : DataW.TrodAll enc Try.prog W 0 (fun _ => true) true Try.f8.params.toList args.toList ds p := hA0
  rw [Try.params8] at hA hval
  obtain ⟨v0, vs0, d0, ds0, p0, q0, hargs, rfl, rfl, h0, r0⟩ := trodAll_cons hA
  obtain ⟨rfl, rfl, rfl⟩ := trodAll_nil r0
  obtain rfl : args = #[v0] := by cases args; simp_all
  obtain ⟨rfl, rfl⟩ := trodVars_none hV
  have k0 := h0
  have lt0 : ∀ x ∈ p0, x.block < W.heap.size := by obtain ⟨m, hm⟩ := k0; exact DataW.trod_lt m _ _ _ hm
  obtain ⟨ta0, ka0, da0, rfl, wt0, wk0, hd0⟩ := open_ent (hval 0 44 v0 rfl rfl) h0
  clear hA0 hval0
  refine (walk ta0 ka0 da0 W wt0 wk0 hd0).mono fun e W' ⟨he, bel⟩ => ?_
  subst he
  exact ⟨_, rfl, _, _, _, [], _, [], hW', trodAll_mk1 (shut_bool Try.underlying4 _), (trodAll_cons_mk (Below.trod laidOut (by kernel_rfl) (of_decide_eq_true (by kernel_rfl)) k0 bel lt0) trodAll_mk0), rfl, bel.frame _, fun h => by cases h⟩

theorem over : Rows.fnExactEntryBytesRow.holds Try.pinned (OpenSpec.ofChange Rows.fnExactEntryBytesSpec) :=
  OpenClaim.holds_of_wide 8 Try.f8 rfl rfl rfl rfl rfl rfl rfl ⟨rfl, rfl, rfl, rfl, rfl⟩ rfl rfl rfl rfl rfl (by kernel_rfl) Try.func8 (by kernel_rfl)
    (of_decide_eq_true (by kernel_rfl)) (by unfold Func.isWrapper; first | (rw [if_pos (by decide +kernel)]; kernel_rfl) | (rw [if_neg (by decide +kernel)]; exact ⟨rfl, rfl⟩))
    (fun os started H enc _ => lifted os started H enc)

end Go.Proofs.Ytfcnemafbefofah.fnExactEntryBytes
namespace Go.Proofs.Ytfcnemafbefofah
theorem fnExactEntryBytes_holds : Rows.FnExactEntryBytesSaid := fnExactEntryBytes.over
#print axioms fnExactEntryBytes_holds
end Go.Proofs.Ytfcnemafbefofah
