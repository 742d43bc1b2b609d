/- For all bytes, laws.FnMembers returns true, and the slices read as they did. No condition. -/
import Derived.Test.YtfcnemafbefofaaMemD
import Derived.Test.YtfcnemafbefofaaAtS
namespace Go.Proofs.Ytfcnemafbefofaa.fnMembers
open Go.ChangeShapes Go.WideShapes Go.ChangeAt Go.RowKit
open Go.ChangeMaps (open_string shut_string)
set_option linter.unusedVariables false

/-- A rising list of numbers below k, and at most 6. -/
def Up (l : List Int) (k : Nat) : Prop := InAll l ∧ Rising l ∧ (∀ i, i < l.length → l.getD i 0 < (k : Int)) ∧ l.length ≤ k
theorem Up.next {l : List Int} {k : Nat} (h : Up l k) : Up l (k + 1) := ⟨h.1, h.2.1, fun i hi => by have := h.2.2.1 i hi; omega, by have := h.2.2.2; omega⟩
theorem get_app {l : List Int} {x : Int} (i : Nat) : (l ++ [x]).getD i 0 = if i < l.length then l.getD i 0 else if i = l.length then x else 0 := by
  by_cases h : i < l.length
  · rw [if_pos h, List.getD_eq_getElem?_getD, List.getElem?_append_left h, List.getD_eq_getElem?_getD]
  · rw [if_neg h, List.getD_eq_getElem?_getD, List.getElem?_append_right (by omega)]
    by_cases e : i = l.length
    · rw [if_pos e, e]; simp
    · rw [if_neg e, List.getElem?_eq_none (by simp; omega)]; rfl
theorem Up.app {l : List Int} {k : Nat} (h : Up l k) (hk : k < 7) : Up (l ++ [(k : Int)]) (k + 1) := by
  obtain ⟨h1, h2, h3, h4⟩ := h
  refine ⟨fun i hi => ?_, fun i hi => ?_, fun i hi => ?_, by simp; omega⟩
  · rw [get_app]
    by_cases c : i < l.length
    · rw [if_pos c]; exact h1 i c
    · rw [if_neg c, if_pos (by simp at hi; omega)]; exact inB_iff.2 ⟨by omega, by omega⟩
  · rw [get_app, get_app]
    simp only [List.length_append, List.length_cons, List.length_nil] at hi
    by_cases c : i < l.length
    · rw [if_pos c, if_pos (by omega)]; exact h2 i c
    · by_cases z : i = 0
      · exact .inl z
      · rw [if_neg c, if_pos (by omega), if_pos (by omega)]; exact .inr (h3 (i - 1) (by omega))
  · rw [get_app]
    simp only [List.length_append, List.length_cons, List.length_nil] at hi
    by_cases c : i < l.length
    · rw [if_pos c]; have := h3 i c; omega
    · rw [if_neg c, if_pos (by omega)]; omega
theorem Up.none {l : List Int} (h : Up l 7) (h0 : l.length = 0) : memData l = (⟨#[]⟩, 1) := by
  have e : mFault l = 1 := by unfold mFault; rw [if_pos h.1, if_pos h0]
  unfold memData; rw [if_neg (by omega), if_neg (by omega), e]
theorem Up.some {l : List Int} (h : Up l 7) (h0 : l.length ≠ 0) : memData l = (strOfNums l, 0) ∧ memRead (strOfNums l) = (l, 0) := by
  have e : mFault l = 0 := by unfold mFault; rw [if_pos h.1, if_neg h0, if_pos h.2.1]
  have := h.2.2.2
  refine ⟨by unfold memData; rw [if_neg (by omega), if_pos e], ?_⟩
  unfold memRead
  rw [bytes_back l (range_in h.1), if_neg (by rw [strOfNums_size]; omega), if_pos e]

set_option maxRecDepth 100000 in
set_option maxHeartbeats 1600000 in
theorem walk (a0 : Option Addr) (len0 cap0 : Nat) (z0 : List Int) (a1 : Option Addr) (len1 cap1 : Nat) (z1 : List Int) (w : World) (w0 : IsRow .u8 w a0 len0 cap0 z0) (w1 : IsRow .u8 w a1 len1 cap1 z1) :
    Calls Try.prog 5 #[.slice a0 len0 cap0, .slice a1 len1 cap1] w fun e w' => e = .returned (.bool true) ∧ Below w.heap.size w w' := by
  obtain ⟨i0, hi, hz0, hz1, hz2⟩ := info_parts info3
  have HB := hide (bytes_of_row w1)
  clear w0 w1
  by_cases hA : 1048576 < len0
  · go_enter Try.func5, Try.ntmps5
    go_wp2_with fail
    go_ret
    exact ⟨rfl, Below.refl _ _⟩
  · by_cases hA2 : 1048576 < len1
    · go_enter Try.func5, Try.ntmps5
      go_wp2_with fail
      go_ret
      exact ⟨rfl, Below.refl _ _⟩
    · go_enter Try.func5, Try.ntmps5
      go_wp2_with fail
      go_loopw [5, 6] (fun v i wr => ∃ (k : Nat) (l : List Int), k ≤ 7 ∧ i = .int .i64 k ∧ Hid (Up l k) ∧ OwnI w.heap.size wr v l ∧ Below w.heap.size w wr) (fun _ i _ => 7 - (intOf i).toNat)
      case atStart =>
        exact ⟨0, [], by omega, rfl, ⟨fun i hi => by simp at hi, fun i hi => by simp at hi, fun i hi => by simp at hi, by simp⟩, OwnI.empty _ _ _ rfl (Nat.le_refl _), (Below.refl _ _).alloc (Nat.le_refl _) _⟩
      case round =>
        obtain ⟨k, l, hk, rfl, hU, hown, hbel⟩ := hrel
        by_cases hlt : k < 7
        · have hk1 : (k : Int) < 7 := by omega
          have HO := hide hown
          have HL := hide hbel
          clear hown hbel
          go_wp2_with fail
          refine (at_any _ _ (k : Int) 2 _ ((unhide HB).below (unhide HL)) (by omega) (by omega) (by omega) (by omega)).mono ?_
          rintro e w1 ⟨r, rfl, hr0, hr1, n, rfl⟩
          have hO1 : OwnI w.heap.size (wr.drewN n) u5 l := (unhide HO).drewN n
          have hB1 : Below w.heap.size w (wr.drewN n) := below_drewN (unhide HL) n
          have hsz := hB1.size
          have O1 := hide hO1
          have B1 := hide hB1
          clear hO1 hB1 HO HL
          generalize wr.drewN n = w1 at *
          have hll := (unhide hU).2.2.2
          by_cases hr : r = 1
          · subst hr
            have U2 := hide ((unhide hU).app hlt)
            go_wp2_with (at_builtin; refine wpList_append_lies _ rfl _ _ _ rfl w.heap.size 3 i0 _ 1 8 Try.underlying39 hi hz0 hz1 hz2 rfl (by omega) u5 l.length _ rfl ((unhide O1).alloc _) ⟨w1.heap.size, 0, none⟩ 1 1 [_] rfl rfl (World.news_of_block (cs := #[_]) (t := 3) (fr := (0, 0)) (heap_alloc_new w1 _)) (by simp [Value.oneCell']) (by omega) (by unfold maxLen; omega) (by omega) (by simp; omega) _ rfl ?_; intro gg capg w2 hown2 hgrow2 hat2 hlt2)
            have R := hide (show OwnI w.heap.size w2 (.slice (some ⟨gg, 0, none⟩) (l.length + 1) capg) (l ++ [(k : Int)]) ∧ Below w.heap.size w w2 from ⟨by unfold OwnI; rw [List.map_append, List.length_append]; exact hown2, ((unhide B1).alloc hsz _).grown hgrow2 (by simp; omega) (fun r hr => ((unhide O1).lt r hr).1)⟩)
            clear hown2 hgrow2 hat2 hlt2
            go_roundw
            case rel => exact ⟨k + 1, _, by omega, by go_num, unhide U2, (unhide R).1, (unhide R).2⟩
            case measure => simp [intOf]; omega
          · obtain rfl : r = 0 := by omega
            go_wp2_with fail
            go_roundw
            case rel => exact ⟨k + 1, l, by omega, by go_num, (unhide hU).next, unhide O1, unhide B1⟩
            case measure => simp [intOf]; omega
        · obtain rfl : k = 7 := by omega
          have hll := (unhide hU).2.2.2
          have hI := hown.ints
          obtain ⟨a, cap, hv, _⟩ := id hI
          subst hv
          have HI := hide hI
          have HO := hide hown
          have HL := hide hbel
          clear hown hbel hI
          go_wp2_with fail
          refine (implMembersData_any _ l _ (unhide HI)).mono ?_
          rintro e w1 ⟨rfl, hb1⟩
          have I1 := hide ((unhide HI).below hb1)
          have K1 := hide ((unhide HL).trans (hb1.mono (unhide HL).size))
          clear hb1 HI HL HO
          have HU := hide (And.intro (fun h0 => (unhide hU).none h0) (fun h0 => (unhide hU).some h0))
          obtain ⟨out, hout⟩ : ∃ out, out = memData l := ⟨_, rfl⟩
          rw [← hout]
          have HX := hide hout
          clear hout hU
          obtain ⟨tx, code⟩ := out
          dsimp only
          go_wp2_with fail
          refine (specMembersData_any _ l _ (unhide I1)).mono ?_
          rintro e w2 ⟨rfl, hb2⟩
          rw [← unhide HX]
          dsimp only
          have I2 := hide ((unhide I1).below hb2)
          have K2 := hide ((unhide K1).trans (hb2.mono (unhide K1).size))
          clear hb2 K1 I1
          by_cases h0 : l.length = 0
          · have hcd : code = 1 := congrArg Prod.snd ((unhide HX).trans ((unhide HU).1 h0))
            have h00 : (l.length : Int) = 0 := by omega
            clear HU HX I2 h0
            subst hcd
            go_wp2_with fail
            go_ret
            exact ⟨rfl, unhide K2⟩
          · have hcd : code = 0 := congrArg Prod.snd ((unhide HX).trans ((unhide HU).2 h0).1)
            have htx : tx = strOfNums l := congrArg Prod.fst ((unhide HX).trans ((unhide HU).2 h0).1)
            have HR := hide (show memRead tx = (l, 0) by rw [htx]; exact ((unhide HU).2 h0).2)
            have HS := hide (show tx.size ≤ maxLen by rw [htx, strOfNums_size]; unfold maxLen; omega)
            have h00 : (0 : Int) < (l.length : Int) := by omega
            clear HU HX htx
            subst hcd
            have hd0 : decide ((0 : Int) < (l.length : Int)) = true := by simpa using h00
            have hd1 : decide (0 < l.length) = true := by simp; omega
            go_wp2_with fail
            all_goals try (exfalso; rename_i hbad; first | (simp at hbad; done) | (simp at hbad; omega) | (simp at hbad; rw [hbad] at h0; exact h0 rfl) | (simp [h00] at hbad; done) | omega)
            refine (implReadMembers_any tx _ (unhide HS)).mono ?_
            rintro e w3 ⟨v3, rfl, hO3, hb3⟩
            rw [unhide HR] at hO3 ⊢
            dsimp only at hO3 ⊢
            have I3 := hide ((unhide I2).below hb3)
            have K3 := hide ((unhide K2).trans (hb3.mono (unhide K2).size))
            have J3 := hide hO3.ints
            clear hb3 hO3 K2 I2
            go_wp2_with fail
            refine (sameInts_any _ _ l _ (unhide J3) (unhide I3) (by omega)).mono ?_
            rintro e w4 ⟨rfl, n4, rfl⟩
            go_wp2_with fail
            go_ret
            exact ⟨rfl, below_drewN (unhide K3) n4⟩

theorem own : ownKnob Try.prog.godebug = none := by kernel_rfl
theorem laidOut : laidOutB Try.prog = true := by kernel_rfl
set_option maxRecDepth 100000 in
theorem lifted (os : Os) (started : os.Started) (H : Type) (enc : TypeId × Value → H) :
    ReturnsInHanded {} Try.checked os 5 .any (Rows.fnMembersSpec.pre6 enc Try.prog Try.f5 Rows.fnMembersRow.domain false) (Rows.fnMembersSpec.post enc Try.prog Try.f5 false true false false) := by
  refine returnsInHanded_of_change (C := Try.checked) own started (by kernel_rfl) Try.func5
    (ChangeSpec.witness6 (enc := enc) (C := Try.checked) false ⟨#[], #[.slice none 0 0, .slice none 0 0], []⟩ 8 (by kernel_rfl) (by kernel_rfl) (by kernel_rfl) (by kernel_rfl)) ?_
  intro W base args ds gs before hval0 hW hcnd _
  have hval : ∀ (j : Nat) t v, Try.f5.params[j]? = some t → args[j]? = some v → Value.okWide Try.prog W .any base t v := hval0
  have hW' := hW
  obtain ⟨p, q, hA0, hV, rfl, hfz, hnd⟩ := hW
  have hA : DataW.TrodAll enc Try.prog W 0 (fun _ => true) true Try.f5.params.toList args.toList ds p := hA0
  rw [Try.params5] at hA hval
  obtain ⟨v0, vs0, d0, ds0, p0, q0, hargs, rfl, rfl, h0, r0⟩ := trodAll_cons hA
  obtain ⟨v1, vs1, d1, ds1, p1, q1, rfl, rfl, rfl, h1, r1⟩ := trodAll_cons r0
  obtain ⟨rfl, rfl, rfl⟩ := trodAll_nil r1
  obtain rfl : args = #[v0, v1] := by cases args; simp_all
  obtain ⟨rfl, rfl⟩ := trodVars_none hV
  have k0 := h0
  have lt0 : ∀ x ∈ p0, x.block < W.heap.size := by obtain ⟨m, hm⟩ := k0; exact DataW.trod_lt m _ _ _ hm
  obtain ⟨a0, len0, cap0, rfl⟩ := okWide_slice Try.underlying22 (hval 0 22 v0 rfl rfl)
  obtain ⟨z0, w0⟩ : ∃ zs, IsRow .u8 W a0 len0 cap0 zs := by
    obtain ⟨fuel, hf⟩ := h0
    rcases open_ints Try.underlying22 Try.underlying5 (by kernel_rfl) hf with ⟨hcs, _⟩ | ⟨x, l, c, zs, hcs, _, hl, hm, hz, _, hcell, hwz⟩
    · simp [Value.cells] at hcs
      obtain ⟨rfl, rfl, rfl⟩ := hcs
      exact ⟨[], .inl ⟨rfl, rfl, rfl, rfl⟩⟩
    · simp [Value.cells] at hcs
      obtain ⟨rfl, rfl, rfl⟩ := hcs
      exact ⟨zs, .inr ⟨_, rfl, hl, hm, by simpa using hz, hcell, hwz⟩⟩
  have k1 := h1
  have lt1 : ∀ x ∈ p1, x.block < W.heap.size := by obtain ⟨m, hm⟩ := k1; exact DataW.trod_lt m _ _ _ hm
  obtain ⟨a1, len1, cap1, rfl⟩ := okWide_slice Try.underlying22 (hval 1 22 v1 rfl rfl)
  obtain ⟨z1, w1⟩ : ∃ zs, IsRow .u8 W a1 len1 cap1 zs := by
    obtain ⟨fuel, hf⟩ := h1
    rcases open_ints Try.underlying22 Try.underlying5 (by kernel_rfl) hf with ⟨hcs, _⟩ | ⟨x, l, c, zs, hcs, _, hl, hm, hz, _, hcell, hwz⟩
    · simp [Value.cells] at hcs
      obtain ⟨rfl, rfl, rfl⟩ := hcs
      exact ⟨[], .inl ⟨rfl, rfl, rfl, rfl⟩⟩
    · simp [Value.cells] at hcs
      obtain ⟨rfl, rfl, rfl⟩ := hcs
      exact ⟨zs, .inr ⟨_, rfl, hl, hm, by simpa using hz, hcell, hwz⟩⟩
  clear hA0 hval0
  refine (walk a0 len0 cap0 z0 a1 len1 cap1 z1 W w0 w1).mono fun e W' ⟨he, bel⟩ => ?_
  subst he
  exact ⟨_, rfl, _, _, _, [], _, [], hW', trodAll_mk1 (shut_bool Try.underlying4 _), (trodAll_cons_mk (Below.trod laidOut (by kernel_rfl) (of_decide_eq_true (by kernel_rfl)) k0 bel lt0) (trodAll_cons_mk (Below.trod laidOut (by kernel_rfl) (of_decide_eq_true (by kernel_rfl)) k1 bel lt1) trodAll_mk0)), rfl, bel.frame _, fun h => by cases h⟩

theorem over : Rows.fnMembersRow.holds Try.pinned (OpenSpec.ofChange Rows.fnMembersSpec) :=
  OpenClaim.holds_of_wide 5 Try.f5 rfl rfl rfl rfl rfl rfl rfl ⟨rfl, rfl, rfl, rfl, rfl⟩ rfl rfl rfl rfl rfl (by kernel_rfl) Try.func5 (by kernel_rfl)
    (of_decide_eq_true (by kernel_rfl)) (by unfold Func.isWrapper; first | (rw [if_pos (by decide +kernel)]; kernel_rfl) | (rw [if_neg (by decide +kernel)]; exact ⟨rfl, rfl⟩))
    (fun os started H enc _ => lifted os started H enc)

end Go.Proofs.Ytfcnemafbefofaa.fnMembers
namespace Go.Proofs.Ytfcnemafbefofaa
theorem fnMembers_holds : Rows.FnMembersSaid := fnMembers.over
#print axioms fnMembers_holds
end Go.Proofs.Ytfcnemafbefofaa
