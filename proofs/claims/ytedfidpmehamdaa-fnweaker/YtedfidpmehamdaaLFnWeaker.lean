/- For every two rows of bytes that can be read laws.FnWeaker returns true, and they read as they did: a drawn history that has an order has one too where one of its acts is not known to have ended; who was ahead of whom does not go round. No condition. -/
import Derived.Test.YtedfidpmehamdaaHiW
namespace Go.Proofs.Ytedfidpmehamdaa.fnWeaker
open Go.ChangeShapes Go.WideShapes Go.ChangeAt Go.RowKit
open Go.ChangeMaps (open_string shut_string)
set_option linter.unusedVariables false
set_option linter.unusedSimpArgs false

set_option maxRecDepth 100000 in
set_option maxHeartbeats 8000000 in
theorem walk (a : Option Addr) (len cap : Nat) (zs : List Int) (a2 : Option Addr) (len2 cap2 : Nat) (zs2 : List Int) (w : World) (hR : IsRow .u8 w a len cap zs) (hR2 : IsRow .u8 w a2 len2 cap2 zs2) :
    Calls Try.prog 4 #[.slice a len cap, .slice a2 len2 cap2] w fun e w' => e = .returned (.bool true) ∧ Below w.heap.size w w' := by
  have hB := bytes_of_row hR
  have hB2 := bytes_of_row hR2
  have hon : (zs.take len).length = len := by
    rcases hR with ⟨_, rfl, _, rfl⟩ | ⟨x, _, h1, h2, h3, _⟩
    · rfl
    · rw [List.length_take]; omega
  have hom : len ≤ 9223372036854775807 ∧ len2 ≤ 9223372036854775807 := by
    have e1 : len ≤ maxLen := by
      rcases hR with ⟨_, rfl, _, rfl⟩ | ⟨x, _, h1, h2, h3, _⟩
      · unfold maxLen; omega
      · omega
    have e2 : len2 ≤ maxLen := by
      rcases hR2 with ⟨_, rfl, _, rfl⟩ | ⟨x, _, h1, h2, h3, _⟩
      · unfold maxLen; omega
      · omega
    unfold maxLen at e1 e2
    omega
  obtain ⟨hom1, hom2⟩ := hom
  generalize zs.take len = od at *
  generalize zs2.take len2 = od2 at *
  subst hon
  have HB := hide hB
  have HB2 := hide hB2
  clear hB hB2 hR hR2
  by_cases h1 : 1048576 < od.length
  · have g1 : (1048576 : Int) < (od.length : Int) := by omega
    go_enter Try.func4, Try.ntmps4
    go_wp2_with fail
    go_ret
    exact ⟨rfl, Below.refl _ _⟩
  have g1 : ¬ (1048576 : Int) < (od.length : Int) := by omega
  by_cases h2 : 1048576 < len2
  · have g2 : (1048576 : Int) < (len2 : Int) := by omega
    go_enter Try.func4, Try.ntmps4
    go_wp2_with fail
    go_ret
    exact ⟨rfl, Below.refl _ _⟩
  have g2 : ¬ (1048576 : Int) < (len2 : Int) := by omega
  obtain ⟨i0, hi, hz0, hz1, hz2⟩ := info_parts infoOp
  go_enter Try.func4, Try.ntmps4
  go_wp2_with fail
  refine (opsOf_any a cap od w (unhide HB) (by omega)).mono ?_
  rintro e w1 ⟨v1, L, rfl, hO1, h6, hok, hb1⟩
  have HOK := hide hok
  have O1 := hide hO1
  have K1 := hide hb1
  have hL : L.length ≤ 1048576 := by omega
  obtain ⟨la, lc, hv1, _⟩ := hO1.read
  subst hv1
  have HIA := hide (fun (wx : World) (hx : Ops wx (.slice la L.length lc) L) => implOpsAhead_any _ L wx hx hL)
  have HSA := hide (fun (wx : World) (hx : Ops wx (.slice la L.length lc) L) => specOpsAhead_any _ L wx hx hL)
  rw [oa_ok L hok] at HIA HSA
  dsimp only at HIA HSA
  clear hO1 hok hb1
  go_wp2_with fail
  refine (unhide HIA w1 (unhide O1).read).mono ?_
  rintro e w2 ⟨gv, rg, rfl, hG2, hb2⟩
  have K2 := hide ((unhide K1).trans (hb2.mono (unhide K1).size))
  have O2 := hide ((unhide O1).below hb2)
  have G2 := hide (hG2.down (unhide K1).size)
  clear hb2 hG2 K1 O1 HIA
  go_wp2_with fail
  refine (unhide HSA w2 (unhide O2).read).mono ?_
  rintro e w3 ⟨wv, rw0, rfl, hW3, hb3⟩
  have K3 := hide ((unhide K2).trans (hb3.mono (unhide K2).size))
  have O3 := hide ((unhide O2).below hb3)
  have G3 := hide ((unhide G2).below hb3)
  have W3 := hide (hW3.down (unhide K2).size)
  clear hb3 hW3 K2 O2 G2 HSA
  have hrl : (ahRows L L.length).length = L.length := ahRows_len _ _
  obtain ⟨ga, gc, hgv⟩ := (unhide G3).sl
  obtain ⟨wa, wc, hwv⟩ := (unhide W3).sl
  rw [hrl] at hgv hwv
  subst hgv hwv
  have b4 : ((L.length : Int) != (L.length : Int)) = false := by simp
  have b5 : ((L.length : Int) == (L.length : Int)) = true := by simp
  go_wp2_with fail
  go_loopw [10] (fun iv wr => ∃ i : Nat, i ≤ L.length ∧ iv = .int .i64 i ∧ Below w3.heap.size w3 wr) (fun iv _ => L.length - (intOf iv).toNat)
  case atStart => exact ⟨0, Nat.zero_le _, rfl, Below.refl _ _⟩
  case round =>
    obtain ⟨i, hil, rfl, hb⟩ := hrel
    by_cases hlt : i < L.length
    · have p0 : (0 : Int) ≤ (i : Int) := by omega
      have p1 : (i : Int) < (L.length : Int) := by omega
      have HB3 := hide hb
      clear hb
      go_wp2_with fail
      go_loopw [11] (fun jv wr => ∃ j : Nat, j ≤ L.length ∧ jv = .int .i64 j ∧ Below w3.heap.size w3 wr) (fun jv _ => L.length - (intOf jv).toNat)
      case atStart => exact ⟨0, Nat.zero_le _, rfl, unhide HB3⟩
      case round =>
        obtain ⟨j, hjl, rfl, hb⟩ := hrel
        by_cases hjlt : j < L.length
        · have r0 : (0 : Int) ≤ (j : Int) := by omega
          have r1 : (j : Int) < (L.length : Int) := by omega
          obtain ⟨g, r, rc, e1, f1, f2, f3, f4⟩ := ((unhide G3).below hb).flag i j L.length (by rw [hrl]; exact hlt) (by rw [ahRows_get _ _ _ hlt, ahRow_len]) hjlt
          obtain ⟨g', r', rc', e2, f5, f6, f7, f8⟩ := ((unhide G3).below hb).flag j i L.length (by rw [hrl]; exact hjlt) (by rw [ahRows_get _ _ _ hjlt, ahRow_len]) hlt
          obtain ⟨gw, q, qc, e3, m1, m2, m3, m4⟩ := ((unhide W3).below hb).flag i j L.length (by rw [hrl]; exact hlt) (by rw [ahRows_get _ _ _ hlt, ahRow_len]) hjlt
          subst e1
          simp only [Option.some.injEq, Addr.mk.injEq, and_true] at e2
          subst e2
          subst e3
          rw [ahRows_get _ _ _ hlt, ahRow_get _ _ _ hjlt] at f4 m4
          rw [ahRows_get _ _ _ hjlt, ahRow_get _ _ _ hlt] at f8
          have HAP := hide (ah_apart ((opsB_at (unhide HOK)).2 i hlt) ((opsB_at (unhide HOK)).2 j hjlt))
          have t1 := Wb.cell f3 f1
          have t2 := Wb.cell f4 f2
          have t3 := Wb.cell f7 f5
          have t4 := Wb.cell f8 f6
          have t5 := Wb.cell m3 m1
          have t6 := Wb.cell m4 m2
          clear f1 f2 f3 f4 f5 f6 f7 f8 m1 m2 m3 m4
          have HBW := hide hb
          clear hb
          generalize ahB (L.getD i default) (L.getD j default) = x at *
          generalize ahB (L.getD j default) (L.getD i default) = y at *
          have bx : (x != x) = false := by simp
          go_wp2_with fail
          cases x with
          | false =>
            refine wp_region_wb (by kernel_rfl) (by kernel_rfl) ?_
            repeat (go_big_quiet_step (fail))
            refine wpQuiet_nil ?_
            intro _ hw'
            obtain ⟨⟨w4, hb4⟩, rfl⟩ := hw'
            have HBN := hide ((unhide HBW).trans (hb4.mono (unhide HBW).size))
            clear hb4 t1 t2 t3 t4 t5 t6
            go_wp2_with fail
            refine ⟨⟨j + 1, by omega, by go_num, unhide HBN⟩, ?_⟩
            simp [intOf]; omega
          | true =>
            have hy := unhide HAP rfl
            subst hy
            refine wp_region_wb (by kernel_rfl) (by kernel_rfl) ?_
            repeat (go_big_quiet_step (fail))
            refine wpQuiet_nil ?_
            intro _ hw'
            obtain ⟨⟨w4, hb4⟩, rfl⟩ := hw'
            have HBN := hide ((unhide HBW).trans (hb4.mono (unhide HBW).size))
            clear hb4 t1 t2 t3 t4 t5 t6
            go_wp2_with fail
            refine ⟨⟨j + 1, by omega, by go_num, unhide HBN⟩, ?_⟩
            simp [intOf]; omega
        · obtain rfl : j = L.length := by omega
          have HBW := hide hb
          clear hb
          go_wp2_with fail
          refine ⟨⟨i + 1, by omega, by go_num, unhide HBW⟩, ?_⟩
          simp [intOf]; omega
    · obtain rfl : i = L.length := by omega
      have K4 := hide ((unhide K3).trans (hb.mono (unhide K3).size))
      have O4 := hide ((unhide O3).below hb)
      clear hb G3 W3 O3 K3
      by_cases hL0 : L.length = 0
      · have z0 : ((L.length : Int) == 0) = true := by rw [hL0]; rfl
        go_wp2_with fail
        go_ret
        exact ⟨rfl, unhide K4⟩
      have z0 : ((L.length : Int) == 0) = false := by rw [beq_eq_false_iff_ne]; omega
      have HLO := hide (fun (v : Value) (l : List Op) (wx : World) (hx : Ops wx v l) (hl : l.length ≤ 1048576) => implLinearOrder_any v l wx hx hl)
      go_wp2_with fail
      refine (unhide HLO _ L wr (unhide O4).read hL).mono ?_
      rintro e w5 ⟨r5, rfl, _, hb5⟩
      have K5 := hide ((unhide K4).trans (hb5.mono (unhide K4).size))
      have O5 := hide ((unhide O4).below hb5)
      have HLC := hide (fun i (hi : i < L.length) => lo_open L i hi (unhide HOK))
      generalize (loOut L).2 = cd at *
      clear hb5 K4 O4
      have HRW := hide (((unhide O5).below ((Below.refl w5.heap.size w5).alloc (Nat.le_refl _) (.cells #[] 39))).read.rw)
      have OE : Hid ((w5.alloc (.cells #[] 39)).ownsRow w5.heap.size 39 4 (.slice (some ⟨w5.heap.size, 0, none⟩) 0 0) 0 []) := hide (World.ownsRow_made w5 #[] 0 (Nat.le_refl _) (by unfold maxLen; omega) rfl)
      have BE := hide ((Below.refl w5.heap.size w5).alloc (Nat.le_refl _) (.cells #[] 39))
      go_upto_region 20 with (at_builtin; refine wpList_append_row _ rfl _ _ _ rfl w5.heap.size 39 i0 _ 4 40 Try.underlying23 hi hz0 hz1 hz2 rfl (by omega) _ 0 [] rfl (unhide OE) _ L.length (opsC L) rfl (unhide HRW) (opsC_len L) (opsC_one L) (by unfold maxLen; omega) (by omega) (by simp) ?_; intro a6 c6 w6 hown6 hgrow6 hat6; rw [Nat.zero_add, List.nil_append] at hown6; have R6 := hide (And.intro hown6 ((unhide BE).grown hgrow6 (by simp) (fun r hr => ((unhide OE).lt r hr).1))); clear hown6 hgrow6 hat6)
      obtain ⟨hown6, hb6⟩ := unhide R6
      obtain ⟨g6, hg6⟩ : ∃ g, a6 = some ⟨g, 0, none⟩ := by
        rcases own_shape hown6 with ⟨_, h0⟩ | ⟨g, c, hv, _⟩
        · omega
        · simp only [Value.slice.injEq] at hv
          exact ⟨g, hv.1⟩
      subst hg6
      have hgl := World.ownsRow.lt hown6 g6 rfl
      have OP := hide (show OwnOp w5.heap.size w6 (.slice (some ⟨g6, 0, none⟩) L.length c6) L from hown6)
      have K6 := hide ((unhide K5).trans (hb6.mono (unhide K5).size))
      have O6 := hide ((unhide O5).below hb6)
      have HLT := hide (unhide K5).size
      have HOL := hide (fun q hq => ((unhide O5).lt q hq).2)
      clear hown6 hb6 R6 OE BE HRW K5 O5
      have HAT := hide (at_all _ od2 L.length w6 ((unhide HB2).below (unhide K6)) (by omega) (by omega))
      go_wp2_with fail
      refine (unhide HAT).mono ?_
      rintro e w7 ⟨r7, rfl, hr7, hb7⟩
      have K7 := hide ((unhide K6).trans (hb7.mono (unhide K6).size))
      have O7 := hide ((unhide O6).below hb7)
      have P7 := hide ((unhide OP).below hb7)
      clear hb7 K6 O6 OP HAT
      have r70 : (0 : Int) ≤ (r7 : Int) := by omega
      have r71 : (r7 : Int) < (L.length : Int) := by omega
      have hc7 := (OwnOp.cells (unhide P7) r7 hr7 rfl).2.1
      have hf7 := World.ownsRow.frozenAt (unhide P7) (r7 * 4 + 1)
      have P8 := hide (own_open (unhide P7) r7 hr7)
      have T8 := (Touch.refl (fun x => x = g6) w7).setCell ⟨g6, r7 * 4 + 1, none⟩ (.int .i64 (-1)) (fun _ => rfl)
      have O8 := hide ((unhide O7).kept T8 (fun q hq e => by have h1 := unhide HOL q hq; omega))
      have K8 := hide ((unhide K7).setCell (p := ⟨g6, r7 * 4 + 1, none⟩) (by have := unhide HLT; show _ ≤ g6; omega) (.int .i64 (-1)))
      have HFA := hide (unhide HLC r7 hr7)
      clear T8 K7 O7 P7 HLC HOL HLT
      go_upto_region 21 with fail
      clear hc7 hf7
      generalize w7.setCell ⟨g6, r7 * 4 + 1, none⟩ (.int .i64 (-1)) = w8 at *
      have hol := openO_len L r7
      have P9 := unhide P8
      rw [← hol] at P9
      have HP9 := hide P9.read
      rw [hol] at HP9
      clear P9 P8
      go_wp2_with fail
      refine (unhide HLO _ (openO L r7) w8 (unhide HP9) (by rw [hol]; exact hL)).mono ?_
      rintro e w9 ⟨r9, rfl, _, hb9⟩
      have K9 := hide ((unhide K8).trans (hb9.mono (unhide K8).size))
      have O9 := hide ((unhide O8).below hb9)
      generalize (loOut (openO L r7)).2 = ce at *
      clear hb9 K8 O8 HLO HP9
      have HSZ := hide (fun i => show (L.getD i default).va.size ≤ 1048576 from by
        by_cases hi : i < L.length
        · have := (opsB_at (unhide HOK)).2 i hi
          simp only [opB, Bool.and_eq_true, decide_eq_true_eq] at this
          omega
        · rw [List.getD_eq_getElem?_getD, List.getElem?_eq_none (by omega)]
          show (default : Op).va.size ≤ _
          exact Nat.zero_le _)
      have HPI := hide (implProjected_any _ L 0 5 w9 (unhide O9).read hL (unhide HSZ))
      have HPS := hide (fun (wx : World) (hx : Ops wx (.slice la L.length lc) L) => specProjected_any _ L 0 5 wx hx hL)
      rw [pj_ok L (unhide HOK)] at HPI HPS
      dsimp only at HPI HPS
      go_wp2_with fail
      refine (unhide HPI).mono ?_
      rintro e w10 ⟨r10, rfl, hO10, hb10⟩
      have K10 := hide ((unhide K9).trans (hb10.mono (unhide K9).size))
      have O10 := hide ((unhide O9).below hb10)
      obtain ⟨xa, xc, hx10, _⟩ := hO10.read
      subst hx10
      clear hb10 K9 O9 HPI hO10
      go_wp2_with fail
      refine (unhide HPS w10 (unhide O10).read).mono ?_
      rintro e w11 ⟨r11, rfl, hO11, hb11⟩
      have K11 := hide ((unhide K10).trans (hb11.mono (unhide K10).size))
      obtain ⟨ya, yc, hy11, _⟩ := hO11.read
      subst hy11
      clear hb11 K10 O10 HPS hO11
      generalize (prj 0 5 L).length = pn at *
      have bp : ((pn : Int) == (pn : Int)) = true := by simp
      by_cases hcd : cd = 0
      · have hce : ce = 0 := by
          rcases unhide HFA with h | h
          · exact absurd hcd h
          · exact h
        subst hcd
        subst hce
        clear HFA
        go_wp2_with fail
        go_ret
        exact ⟨rfl, unhide K11⟩
      · have bcd : (cd != 0) = true := by simpa using hcd
        clear HFA hcd
        go_wp2_with fail
        go_ret
        exact ⟨rfl, unhide K11⟩

theorem own : ownKnob Try.prog.godebug = none := by kernel_rfl
theorem laidOut : laidOutB Try.prog = true := by kernel_rfl
set_option maxRecDepth 100000 in
theorem lifted (os : Os) (started : os.Started) (H : Type) (enc : TypeId × Value → H) :
    ReturnsInHanded {} Try.checked os 4 .any (Rows.fnWeakerSpec.pre6 enc Try.prog Try.f4 Rows.fnWeakerRow.domain false) (Rows.fnWeakerSpec.post enc Try.prog Try.f4 false true false false) := by
  refine returnsInHanded_of_change (C := Try.checked) own started (by kernel_rfl) Try.func4
    (ChangeSpec.witness6 (enc := enc) (C := Try.checked) false ⟨#[], #[.slice none 0 0, .slice none 0 0], []⟩ 8 (by kernel_rfl) (by kernel_rfl) (by kernel_rfl) (by kernel_rfl)) ?_
  intro W base args ds gs before hval0 hW hcnd _
  have hval : ∀ (j : Nat) t v, Try.f4.params[j]? = some t → args[j]? = some v → Value.okWide Try.prog W .any base t v := hval0
  have hW' := hW
  obtain ⟨p, q, hA0, hV, rfl, hfz, hnd⟩ := hW
  have hA : DataW.TrodAll enc Try.prog W 0 (fun _ => true) true Try.f4.params.toList args.toList ds p := hA0
  rw [Try.params4] at hA hval
  obtain ⟨v0, vs0, d0, ds0, p0, q0, hargs, rfl, rfl, h0, r0⟩ := trodAll_cons hA
  obtain ⟨v1, vs1, d1, ds1, p1, q1, rfl, rfl, rfl, h1, r1⟩ := trodAll_cons r0
  obtain ⟨rfl, rfl, rfl⟩ := trodAll_nil r1
  obtain rfl : args = #[v0, v1] := by cases args; simp_all
  obtain ⟨rfl, rfl⟩ := trodVars_none hV
  have k0 := h0
  have lt0 : ∀ x ∈ p0, x.block < W.heap.size := by obtain ⟨m, hm⟩ := k0; exact DataW.trod_lt m _ _ _ hm
  obtain ⟨a0, len0, cap0, rfl⟩ := okWide_slice Try.underlying22 (hval 0 22 v0 rfl rfl)
  obtain ⟨z0, w0⟩ : ∃ zs, IsRow .u8 W a0 len0 cap0 zs := by
    obtain ⟨fuel, hf⟩ := h0
    rcases open_ints Try.underlying22 Try.underlying5 (by kernel_rfl) hf with ⟨hcs, _⟩ | ⟨x, l, c, zs, hcs, _, hl, hm, hz, _, hcell, hwz⟩
    · simp [Value.cells] at hcs
      obtain ⟨rfl, rfl, rfl⟩ := hcs
      exact ⟨[], .inl ⟨rfl, rfl, rfl, rfl⟩⟩
    · simp [Value.cells] at hcs
      obtain ⟨rfl, rfl, rfl⟩ := hcs
      exact ⟨zs, .inr ⟨_, rfl, hl, hm, by simpa using hz, hcell, hwz⟩⟩
  have k1 := h1
  have lt1 : ∀ x ∈ p1, x.block < W.heap.size := by obtain ⟨m, hm⟩ := k1; exact DataW.trod_lt m _ _ _ hm
  obtain ⟨a1, len1, cap1, rfl⟩ := okWide_slice Try.underlying22 (hval 1 22 v1 rfl rfl)
  obtain ⟨z1, w1⟩ : ∃ zs, IsRow .u8 W a1 len1 cap1 zs := by
    obtain ⟨fuel, hf⟩ := h1
    rcases open_ints Try.underlying22 Try.underlying5 (by kernel_rfl) hf with ⟨hcs, _⟩ | ⟨x, l, c, zs, hcs, _, hl, hm, hz, _, hcell, hwz⟩
    · simp [Value.cells] at hcs
      obtain ⟨rfl, rfl, rfl⟩ := hcs
      exact ⟨[], .inl ⟨rfl, rfl, rfl, rfl⟩⟩
    · simp [Value.cells] at hcs
      obtain ⟨rfl, rfl, rfl⟩ := hcs
      exact ⟨zs, .inr ⟨_, rfl, hl, hm, by simpa using hz, hcell, hwz⟩⟩
  clear hA0 hval0
  refine (walk a0 len0 cap0 z0 a1 len1 cap1 z1 W w0 w1).mono fun e W' ⟨he, bel⟩ => ?_
  subst he
  exact ⟨_, rfl, _, _, _, [], _, [], hW', trodAll_mk1 (shut_bool Try.underlying4 _), (trodAll_cons_mk (Below.trod laidOut (by kernel_rfl) (of_decide_eq_true (by kernel_rfl)) k0 bel lt0) (trodAll_cons_mk (Below.trod laidOut (by kernel_rfl) (of_decide_eq_true (by kernel_rfl)) k1 bel lt1) trodAll_mk0)), rfl, bel.frame _, fun h => by cases h⟩

theorem over : Rows.fnWeakerRow.holds Try.pinned (OpenSpec.ofChange Rows.fnWeakerSpec) :=
  OpenClaim.holds_of_wide 4 Try.f4 rfl rfl rfl rfl rfl rfl rfl ⟨rfl, rfl, rfl, rfl, rfl⟩ rfl rfl rfl rfl rfl (by kernel_rfl) Try.func4 (by kernel_rfl)
    (of_decide_eq_true (by kernel_rfl)) (by unfold Func.isWrapper; first | (rw [if_pos (by decide +kernel)]; kernel_rfl) | (rw [if_neg (by decide +kernel)]; exact ⟨rfl, rfl⟩))
    (fun os started H enc _ => lifted os started H enc)

end Go.Proofs.Ytedfidpmehamdaa.fnWeaker
namespace Go.Proofs.Ytedfidpmehamdaa
theorem fnWeaker_holds : Rows.FnWeakerSaid := fnWeaker.over
#print axioms fnWeaker_holds
end Go.Proofs.Ytedfidpmehamdaa
