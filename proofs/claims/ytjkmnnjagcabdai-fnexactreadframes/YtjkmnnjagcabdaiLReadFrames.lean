/- For every slice of bytes that can be read, laws.FnExactReadFrames returns true, and the slice reads as it did. No condition. -/
import Derived.Test.YtjkmnnjagcabdaiFrR
import Derived.Test.YtjkmnnjagcabdaiFrQ
import Derived.Test.YtjkmnnjagcabdaiCopB
namespace Go.Proofs.Ytjkmnnjagcabdai.fnExactReadFrames
open Go.ChangeShapes Go.WideShapes Go.ChangeAt Go.RowKit
open Go.ChangeMaps (open_string shut_string)
set_option linter.unusedVariables false

theorem frP_len (b : List Int) : ∀ n p, b.length - p = n → (frP b p).1.length ≤ n := by
  intro n
  induction n using Nat.strongRecOn with
  | ind n ih =>
    intro p hp
    rw [frP]
    split
    · split
      · have := ih (b.length - (p + 6 + (frStep (b.drop p)).2.length)) (by omega) _ rfl
        simp only [List.length_cons]
        omega
      · simp
    · simp
theorem out_len (l : List Int) : (rfOut l).1.length ≤ 65536 := by
  unfold rfOut
  split
  · simp
  · have := frP_len l _ 0 rfl
    omega
theorem OwnB.rdv {B b : Nat} {w : World} {v : Value} {l : List Int} (h : OwnB B w v l) (hb : w.heap.size ≤ b) : ∃ a cap, v = .slice a l.length cap ∧ RdV w b (.slice a l.length cap) l := by
  rcases own_shape h.1 with ⟨rfl, h0⟩ | ⟨g, cap, rfl, hB, hlt, hn, hm⟩
  · obtain rfl := List.eq_nil_of_length_eq_zero h0
    exact ⟨none, 0, rfl, RdV.nil _ _⟩
  · exact ⟨_, _, rfl, _, _, rfl, hn, hm, .inr ⟨g, 0, rfl, by omega, fun i hi => by rw [Nat.zero_add]; exact h.cell i hi⟩, h.2⟩
theorem implRF {B : Nat} (v : Value) (l : List Int) (w : World) (h : OwnB B w v l) :
    Calls Try.prog 19 #[v] w fun e w' => ∃ dv, e = .returned (.tuple #[dv, .int .i64 (rfOut l).2.1, .int .i64 (rfOut l).2.2]) ∧ OwnS w.heap.size w' dv ((rfOut l).1.map strOfNums) ∧ Below w.heap.size w w' := by
  obtain ⟨a, cap, rfl, hR⟩ := OwnB.rdv h (Nat.le_refl _)
  exact implReadFrames_any a cap l w hR
theorem specRF {B : Nat} (v : Value) (l : List Int) (w : World) (h : OwnB B w v l) :
    Calls Try.prog 18 #[v] w fun e w' => ∃ dv, e = .returned (.tuple #[dv, .int .i64 (rfOut l).2.1, .int .i64 (rfOut l).2.2]) ∧ OwnS w.heap.size w' dv ((rfOut l).1.map strOfNums) ∧ Below w.heap.size w w' := by
  obtain ⟨a, cap, rfl, hR⟩ := OwnB.rdv h (Nat.le_refl _)
  exact specReadFrames_any a cap l w hR
set_option maxRecDepth 100000 in
set_option maxHeartbeats 2000000 in
theorem walk (a0 : Option Addr) (len0 cap0 : Nat) (z0 : List Int) (w : World) (w0 : IsRow .u8 w a0 len0 cap0 z0) :
    Calls Try.prog 5 #[.slice a0 len0 cap0] w fun e w' => e = .returned (.bool true) ∧ Below w.heap.size w w' := by
  have hB := bytes_of_row w0
  obtain ⟨a, cap, hv, hm, hc, hr⟩ := id hB
  have hlen : len0 = (z0.take len0).length := by simp only [Value.slice.injEq] at hv; exact hv.2.1
  have hmx : len0 ≤ 9223372036854775807 := by unfold maxLen at hm; omega
  have HB := hide hB
  clear hv hc hr hm hB w0
  generalize z0.take len0 = l at *
  by_cases h : len0 ≤ 1048576
  · have hll : l.length ≤ 1048576 := by omega
    clear hlen
    have hol := out_len l
    go_enter Try.func5, Try.ntmps5
    go_wp2_with fail
    refine (toByteS_own _ l _ (unhide HB) hll).mono ?_
    rintro e w1 ⟨v1, rfl, hO1, hb1⟩
    have K1 := hide hb1
    have A1 := hide ((unhide HB).below hb1)
    have V1 := hide hO1
    clear hO1 hb1
    go_wp2_with fail
    refine (specRF _ l _ (unhide V1)).mono ?_
    rintro e w2 ⟨vs, rfl, hOs, hb2⟩
    have K2 := hide ((unhide K1).trans (hb2.mono (unhide K1).size))
    have A2 := hide ((unhide A1).below hb2)
    have S2 : Hid (OwnS w.heap.size w2 vs ((rfOut l).1.map strOfNums)) := hide (World.ownsRow.mono hOs (unhide K1).size)
    clear hb2 K1 A1 V1 hOs
    go_wp2_with fail
    refine (toByteS_own _ l _ (unhide A2) hll).mono ?_
    rintro e w3 ⟨vx, rfl, hOx, hb3⟩
    have K3 := hide ((unhide K2).trans (hb3.mono (unhide K2).size))
    have A3 := hide ((unhide A2).below hb3)
    have S3 := hide ((unhide S2).below hb3)
    have SL := hide (fun r hr => ((unhide S2).lt r hr).2)
    have X3 := hide hOx
    have hz2 := (unhide K2).size
    have hz23 := hb3.size
    clear hb3 K2 A2 S2 hOx
    go_wp2_with fail
    refine (implRF _ l _ (unhide X3)).mono ?_
    rintro e w4 ⟨vi, rfl, hOi, hb4⟩
    have K4 := hide ((unhide K3).trans (hb4.mono (unhide K3).size))
    have A4 := hide ((unhide A3).below hb4)
    have S4 := hide ((unhide S3).below hb4)
    have X4 := hide ((unhide X3).below hb4)
    have XL := hide (fun r hr => ((unhide X3).lt r hr).2)
    have hz3 := (unhide K3).size
    have I4 := hide hOi
    clear hb4 K3 A3 S3 X3 hOi
    obtain ⟨out, hout⟩ : ∃ out, out = rfOut l := ⟨_, rfl⟩
    rw [← hout] at hol S4 I4 ⊢
    have HO := hide hout
    clear hout
    obtain ⟨o1, pp, code⟩ := out
    dsimp only at hol S4 I4 ⊢
    obtain ⟨o, ho⟩ : ∃ o, o = o1.map strOfNums := ⟨_, rfl⟩
    have hol2 : o.length ≤ 65536 := by rw [ho, List.length_map]; exact hol
    rw [← ho] at S4 I4
    have HOO := hide ho
    clear ho
    go_wp2_with fail
    refine (eqStringS_any vi vs o _ (unhide I4).strs (unhide S4).strs (by omega)).mono ?_
    rintro e w5 ⟨rfl, n5, rfl⟩
    have K5 := hide (below_drewN (unhide K4) n5)
    have A5 := hide ((unhide A4).below (below_drewN (Below.refl _ _) n5))
    have S5 := hide ((unhide S4).drewN n5)
    have X5 := hide ((unhide X4).drewN n5)
    have I5 := hide ((unhide I4).drewN n5)
    clear K4 A4 S4 X4 I4
    generalize w4.drewN n5 = w5 at *
    go_wp2_with fail
    refine (toByteS_own _ l _ (unhide A5) hll).mono ?_
    rintro e w6 ⟨v6, rfl, hO6, hb6⟩
    have K6 := hide ((unhide K5).trans (hb6.mono (unhide K5).size))
    have A6 := hide ((unhide A5).below hb6)
    have S6 := hide ((unhide S5).below hb6)
    have X6 := hide ((unhide X5).below hb6)
    have I6 := hide ((unhide I5).below hb6)
    have Y6 := hide hO6
    clear hb6 K5 A5 S5 X5 I5 hO6
    go_wp2_with fail
    refine (eqByteS_any vx v6 l _ (unhide X6).bytes (unhide Y6).bytes hll).mono ?_
    rintro e w7 ⟨rfl, n7, rfl⟩
    have K7 := hide (below_drewN (unhide K6) n7)
    have A7 := hide ((unhide A6).below (below_drewN (Below.refl _ _) n7))
    have S7 := hide ((unhide S6).drewN n7)
    have X7 := hide ((unhide X6).drewN n7)
    have I7 := hide ((unhide I6).drewN n7)
    clear K6 A6 S6 X6 I6 Y6
    generalize w6.drewN n7 = w7 at *
    go_wp2_with fail
    refine (markByteS_any _ vx l _ (unhide X7) hll).mono ?_
    rintro e w8 ⟨rfl, hM, hT⟩
    have b8 : Below w.heap.size w7 w8 := hT.below (B := w.heap.size) (unhide K7).size (fun r hr e => by have := ((unhide X7).lt _ e).1; omega)
    have K8 := hide ((unhide K7).trans b8)
    have A8 := hide ((unhide HB).below (unhide K8))
    have S8 := hide ((unhide S7).kept hT (fun r hr e => by have := ((unhide X7).lt _ e).1; have := unhide SL r hr; omega))
    have I8 := hide ((unhide I7).kept hT (fun r hr e => by have := unhide XL r e; have := ((unhide I7).lt r hr).1; omega))
    clear hM hT b8 K7 A7 S7 X7 I7
    go_wp2_with fail
    refine (eqStringS_any vi vs o _ (unhide I8).strs (unhide S8).strs (by omega)).mono ?_
    rintro e w9 ⟨rfl, n9, rfl⟩
    have K9 := hide (below_drewN (unhide K8) n9)
    have A9 := hide ((unhide A8).below (below_drewN (Below.refl _ _) n9))
    have S9 := hide ((unhide S8).drewN n9)
    have I9 := hide ((unhide I8).drewN n9)
    clear K8 A8 S8 I8
    generalize w8.drewN n9 = w9 at *
    go_wp2_with fail
    refine (markStringS_any _ vi o _ (unhide I9) (by omega)).mono ?_
    rintro e w10 ⟨rfl, hM, hT⟩
    have b10 : Below w.heap.size w9 w10 := hT.below (B := w.heap.size) (unhide K9).size (fun r hr e => by have := ((unhide I9).lt _ e).1; omega)
    have K10 := hide ((unhide K9).trans b10)
    have A10 := hide ((unhide HB).below (unhide K10))
    have S10 := hide ((unhide S9).kept hT (fun r hr e => by have := ((unhide I9).lt _ e).1; have := unhide SL r hr; omega))
    have M10 := hide hM
    clear hM hT b10 K9 A9 S9 I9
    go_wp2_with fail
    refine (heldStringS_any _ vi o.length _ (unhide M10) (by omega)).mono ?_
    rintro e w11 ⟨rfl, hb11⟩
    have K11 := hide ((unhide K10).trans (hb11.mono (unhide K10).size))
    have A11 := hide ((unhide A10).below hb11)
    have S11 := hide ((unhide S10).below hb11)
    have M11 := hide ((unhide M10).below hb11)
    clear hb11 K10 A10 S10 M10
    go_wp2_with fail
    refine (toByteS_own _ l _ (unhide A11) hll).mono ?_
    rintro e w12 ⟨v12, rfl, hO12, hb12⟩
    have K12 := hide ((unhide K11).trans (hb12.mono (unhide K11).size))
    have S12 := hide ((unhide S11).below hb12)
    have M12 := hide ((unhide M11).below hb12)
    have Y12 := hide hO12
    clear hb12 K11 A11 S11 M11 hO12
    go_wp2_with fail
    refine (implRF _ l _ (unhide Y12)).mono ?_
    rintro e w13 ⟨vh, rfl, hOh, hb13⟩
    rw [← unhide HO] at hOh ⊢
    dsimp only at hOh ⊢
    rw [← unhide HOO] at hOh
    have K13 := hide ((unhide K12).trans (hb13.mono (unhide K12).size))
    have S13 := hide ((unhide S12).below hb13)
    have M13 := hide ((unhide M12).below hb13)
    have H13 := hide hOh
    clear hb13 K12 S12 M12 Y12 hOh
    go_wp2_with fail
    refine (eqStringS_any vh vs o _ (unhide H13).strs (unhide S13).strs (by omega)).mono ?_
    rintro e w14 ⟨rfl, n14, rfl⟩
    have K14 := hide (below_drewN (unhide K13) n14)
    have M14 := hide ((unhide M13).drewN n14)
    clear K13 M13 S13 H13
    generalize w13.drewN n14 = w14 at *
    go_wp2_with fail
    refine (heldStringS_any _ vi o.length _ (unhide M14) (by omega)).mono ?_
    rintro e w15 ⟨rfl, hb15⟩
    have K15 := hide ((unhide K14).trans (hb15.mono (unhide K14).size))
    clear hb15 K14 M14
    go_wp2_with fail
    go_ret
    exact ⟨rfl, unhide K15⟩
  · go_enter Try.func5, Try.ntmps5
    go_wp2_with fail
    go_ret
    exact ⟨rfl, Below.refl _ _⟩

theorem own : ownKnob Try.prog.godebug = none := by kernel_rfl
theorem laidOut : laidOutB Try.prog = true := by kernel_rfl
set_option maxRecDepth 100000 in
theorem lifted (os : Os) (started : os.Started) (H : Type) (enc : TypeId × Value → H) :
    ReturnsInHanded {} Try.checked os 5 .any (Rows.fnExactReadFramesSpec.pre6 enc Try.prog Try.f5 Rows.fnExactReadFramesRow.domain false) (Rows.fnExactReadFramesSpec.post enc Try.prog Try.f5 false true false false) := by
  refine returnsInHanded_of_change (C := Try.checked) own started (by kernel_rfl) Try.func5
    (ChangeSpec.witness6 (enc := enc) (C := Try.checked) false ⟨#[], #[.slice none 0 0], []⟩ 8 (by kernel_rfl) (by kernel_rfl) (by kernel_rfl) (by kernel_rfl)) ?_
  intro W base args ds gs before hval0 hW hcnd _
  have hval : ∀ (j : Nat) t v, Try.f5.params[j]? = some t → args[j]? = some v → Value.okWide Try.prog W .any base t v := hval0
  have hW' := hW
  obtain ⟨p, q, hA0, hV, rfl, hfz, hnd⟩ := hW
  have hA : DataW.TrodAll enc Try.prog W 0 (fun _ => true) true Try.f5.params.toList args.toList ds p := hA0
  rw [Try.params5] at hA hval
  obtain ⟨v0, vs0, d0, ds0, p0, q0, hargs, rfl, rfl, h0, r0⟩ := trodAll_cons hA
  obtain ⟨rfl, rfl, rfl⟩ := trodAll_nil r0
  obtain rfl : args = #[v0] := by cases args; simp_all
  obtain ⟨rfl, rfl⟩ := trodVars_none hV
  have k0 := h0
  have lt0 : ∀ x ∈ p0, x.block < W.heap.size := by obtain ⟨m, hm⟩ := k0; exact DataW.trod_lt m _ _ _ hm
  obtain ⟨a0, len0, cap0, rfl⟩ := okWide_slice Try.underlying22 (hval 0 22 v0 rfl rfl)
  obtain ⟨z0, w0⟩ : ∃ zs, IsRow .u8 W a0 len0 cap0 zs := by
    obtain ⟨fuel, hf⟩ := h0
    rcases open_ints Try.underlying22 Try.underlying5 (by kernel_rfl) hf with ⟨hcs, _⟩ | ⟨x, l, c, zs, hcs, _, hl, hm, hz, _, hcell, hwz⟩
    · simp [Value.cells] at hcs
      obtain ⟨rfl, rfl, rfl⟩ := hcs
      exact ⟨[], .inl ⟨rfl, rfl, rfl, rfl⟩⟩
    · simp [Value.cells] at hcs
      obtain ⟨rfl, rfl, rfl⟩ := hcs
      exact ⟨zs, .inr ⟨_, rfl, hl, hm, by simpa using hz, hcell, hwz⟩⟩
  clear hA0 hval0
  refine (walk a0 len0 cap0 z0 W w0).mono fun e W' ⟨he, bel⟩ => ?_
  subst he
  exact ⟨_, rfl, _, _, _, [], _, [], hW', trodAll_mk1 (shut_bool Try.underlying4 _), (trodAll_cons_mk (Below.trod laidOut (by kernel_rfl) (of_decide_eq_true (by kernel_rfl)) k0 bel lt0) trodAll_mk0), rfl, bel.frame _, fun h => by cases h⟩

theorem over : Rows.fnExactReadFramesRow.holds Try.pinned (OpenSpec.ofChange Rows.fnExactReadFramesSpec) :=
  OpenClaim.holds_of_wide 5 Try.f5 rfl rfl rfl rfl rfl rfl rfl ⟨rfl, rfl, rfl, rfl, rfl⟩ rfl rfl rfl rfl rfl (by kernel_rfl) Try.func5 (by kernel_rfl)
    (of_decide_eq_true (by kernel_rfl)) (by unfold Func.isWrapper; first | (rw [if_pos (by decide +kernel)]; kernel_rfl) | (rw [if_neg (by decide +kernel)]; exact ⟨rfl, rfl⟩))
    (fun os started H enc _ => lifted os started H enc)

end Go.Proofs.Ytjkmnnjagcabdai.fnExactReadFrames
namespace Go.Proofs.Ytjkmnnjagcabdai
theorem fnExactReadFrames_holds : Rows.FnExactReadFramesSaid := fnExactReadFrames.over
#print axioms fnExactReadFrames_holds
end Go.Proofs.Ytjkmnnjagcabdai
