/- For every list of bytes that can be read, laws.FnPeaks returns true, it reads as it did, and so do the two tables of words, which the card ties to the program's text. Condition: the listed tables start as the program's text lays them. -/
import Derived.Test.YtnaoccndghnmpaaDoorPkN
import Derived.Test.YtnaoccndghnmpaaDoorDig
import Derived.Test.YtnaoccndghnmpaaDoorLawG
import Derived.Test.YtnaoccndghnmpaaDoorCards
import Derived.Test.YtnaoccndghnmpaaDoorTie
namespace Go.Proofs.YtnaoccndghnmpaaDoor.fnPeaks
open Go.ChangeShapes Go.WideShapes Go.ChangeAt Go.RowKit Sha
open Go.ChangeMaps (open_string shut_string)
set_option linter.unusedVariables false
set_option linter.unusedSimpArgs false

/-- What is carried on: the leaves, the peaks of their first i. -/
structure Pe (w : World) (g c : Nat) (L : List ByteArray) (v : Value) (Cs : List (List ByteArray)) (i : Nat) (wx : World) : Prop where
  b : Below w.heap.size w wx
  ol : OwnS w.heap.size wx (.slice (some ⟨g, 0, none⟩) L.length c) L
  op : OwnP w.heap.size wx v (Cs.map pkOf)
  nn : v ≠ .slice none 0 0
  fa : Falls Cs
  fl : Cs.flatten = L.take i
theorem Pe.below {w : World} {g c : Nat} {L : List ByteArray} {v : Value} {Cs : List (List ByteArray)} {i : Nat} {wx wy : World} (h : Pe w g c L v Cs i wx) (hb : Below wx.heap.size wx wy) : Pe w g c L v Cs i wy :=
  ⟨h.b.trans (hb.mono h.b.size), h.ol.below hb, h.op.below hb, h.nn, h.fa, h.fl⟩
set_option maxRecDepth 100000 in
set_option maxHeartbeats 4000000 in
theorem walk0 (a : Option Addr) (cap : Nat) (l : List Int) (w : World) (h1 : Bytes w (.slice a l.length cap) l) (hf : First w) (ht : Table w) :
    Calls Tryd.prog 5 #[.slice a l.length cap] w fun e w' => e = .returned (.bool true) ∧ Below w.heap.size w w' := by
  have HT := hide (show Tab w from ⟨hf, ht⟩)
  have H1 := hide h1
  have g1 : l.length ≤ 9223372036854775807 := by obtain ⟨_, _, _, hm1, _⟩ := h1; unfold maxLen at hm1; omega
  clear hf ht h1
  go_enter Tryd.func5, Tryd.ntmps5
  by_cases hl : 1048576 < l.length
  · go_wp2_with fail
    go_ret
    exact ⟨rfl, Below.refl _ _⟩
  have HL := hide (leavesOf_any a cap l w (unhide H1) (by omega))
  go_wp2_with fail
  refine (unhide HL).mono ?_
  rintro e w1 ⟨g, c, L, rfl, hLn, hA, hO1, hb1⟩
  have P1 : Hid (Pe w g c L (.slice (some ⟨w1.heap.size, 0, none⟩) 0 0) [] 0 (w1.alloc (.cells #[] 81))) := hide
    ⟨hb1.alloc hb1.size _, hO1.below ((Below.refl _ _).alloc (Nat.le_refl _) _), own_noneP w1 w.heap.size w1.heap.size rfl hb1.size, by simp, trivial, by simp⟩
  have HA := hide hA
  clear hO1 hb1 hA HL
  have hdb : decide ((1048576 : Int) < (l.length : Int)) = false := decide_eq_false (by omega)
  rw [← hdb]
  go_wp2_with fail
  go_loopw [4, 5] (fun v i wr => ∃ (k : Nat) (Cs : List (List ByteArray)), k ≤ L.length ∧ i = .int .i64 k ∧ Pe w g c L v Cs k wr) (fun _ i _ => L.length - (intOf i).toNat)
  case atStart => exact ⟨0, [], Nat.zero_le _, rfl, unhide P1⟩
  case round =>
    clear P1
    obtain ⟨k, Cs, hk, rfl, hP⟩ := hrel
    rcases own_shape hP.op with ⟨e, _⟩ | ⟨pg, pc, rfl, _⟩
    · exact absurd e hP.nn
    have PP := hide hP
    have hcl : L.length ≤ c := by
      rcases own_shape hP.ol with ⟨e, _⟩ | ⟨g', c', e, _, _, hn, _⟩
      · cases e
      · simp only [Value.slice.injEq] at e
        omega
    clear hP
    by_cases hlt : k < L.length
    · have c0 := (unhide PP).ol.cell k hlt
      have hlk := (unhide HA) k hlt
      have p0 : (0 : Int) ≤ (k : Int) := by omega
      have p1 : (k : Int) < (L.length : Int) := by omega
      have hfl : Cs.flatten.length = k := by rw [(unhide PP).fl, List.length_take]; omega
      have HAR := hide (add_rows Cs (L.getD k ByteArray.empty) (unhide PP).fa (by omega) (by rw [(unhide PP).fl]; exact (unhide HA).take k) hlk)
      have HIA := hide (fun wx hx hy => implAdd_any (Cs.map pkOf) (L.getD k ByteArray.empty) pg 0 pc wx hx (fun i => by
        rcases Nat.lt_or_ge i (Cs.map pkOf).length with h | h
        · exact Nat.le_trans (Nat.le_of_eq (ok_hashes (l := Cs.map pkOf) (by have := ok_rows Cs (unhide PP).fa (by omega) (by rw [(unhide PP).fl]; exact (unhide HA).take k) Cs.length (Nat.le_refl _); simpa using this) i h)) (by omega)
        · rw [List.getD_eq_getElem?_getD, List.getElem?_eq_none h]; exact Nat.zero_le _) (by omega) hy)
      rw [(unhide HAR).1] at HIA
      have HF2 := hide (And.intro (unhide HAR).2.1 ((unhide HAR).2.2.trans (by rw [(unhide PP).fl, ← take_snoc L ByteArray.empty k hlt])))
      clear HAR hfl
      generalize mrgC Cs Cs.length [L.getD k ByteArray.empty] = Ds at *
      have hD1 : Ds.flatten.length = k + 1 := by rw [(unhide HF2).2, List.length_take]; omega
      have hD0 : 0 < Ds.length := by
        rcases Ds with _ | ⟨D, r⟩
        · simp at hD1
        · simp
      have hDA : AllH Ds.flatten := by rw [(unhide HF2).2]; exact (unhide HA).take _
      have hDok := ok_rows Ds (unhide HF2).1 (by omega) hDA Ds.length (Nat.le_refl _)
      have hDs := sum_rows Ds Ds.length (Nat.le_refl _)
      rw [List.take_length] at hDs
      have hDl : (Ds.map pkOf).length = Ds.length := by simp
      have hPB : peaksB (Ds.map pkOf) = true := by
        unfold peaksB
        rw [hDl, hDok, hDs, Bool.true_and, decide_eq_true (by omega)]
      have hDz : ∀ i, ((Ds.map pkOf).getD i default).h.size ≤ 1048576 := fun i => by
        rcases Nat.lt_or_ge i (Ds.map pkOf).length with h | h
        · exact Nat.le_trans (Nat.le_of_eq (ok_hashes (l := Ds.map pkOf) (by rw [hDl]; exact hDok) i h)) (by omega)
        · rw [List.getD_eq_getElem?_getD, List.getElem?_eq_none h]; exact Nat.zero_le _
      have hD64 := ok_len (l := Ds.map pkOf) (k := Ds.length) hDok
      have hPR : prOut (Ds.map pkOf) = (treeV (L.take (k + 1)), 0) := by
        unfold prOut
        have e : pfC (Ds.map pkOf) = 0 := by unfold pfC; rw [if_neg (by omega), if_pos hPB]
        rw [e, if_pos rfl, root_falls Ds (unhide HF2).1 (by omega) hD0, (unhide HF2).2]
      have HOK2 := hide (fun b o cc wx hx => implPeaks_any (Ds.map pkOf) b o cc wx hx hDz)
      have HPR := hide (fun b o cc wx hx hy => implPR_any (Ds.map pkOf) b o cc wx hx hDz hy)
      rw [hPB] at HOK2
      rw [hPR] at HPR
      have htk : (L.take (k + 1)).length = k + 1 := by rw [List.length_take]; omega
      have HTS := hide (fun wx hx => specTree_any (L.take (k + 1)) g 0 c wx hx (fun i => by
        rcases Nat.lt_or_ge i (L.take (k + 1)).length with h | h
        · rw [(unhide HA).take (k + 1) i h]; omega
        · rw [List.getD_eq_getElem?_getD, List.getElem?_eq_none h]; simp))
      have eT : treeOut (L.take (k + 1)) = .tuple #[.string (treeV (L.take (k + 1))), .int .i64 0] := by
        have ec : codeL (L.take (k + 1)) = 0 := by unfold codeL; rw [if_neg (by omega), if_pos ⟨by omega, allH_yes ((unhide HA).take _)⟩]
        unfold treeOut
        rw [ec, if_pos rfl]
      rw [eT, htk] at HTS
      clear hPR hPB hDok hDs hDz hDA eT
      have hCl : (Cs.map pkOf).length = Cs.length := by simp
      rw [hCl] at HIA
      rw [hDl] at HOK2 HPR
      have k1 : IntKind.i64.wrap ((k : Int) + 1) = ((k + 1 : Nat) : Int) := wrapMm _ (by omega) (by omega)
      have k2 : (0 : Int) ≤ ((k + 1 : Nat) : Int) := by omega
      have k3 : ((k + 1 : Nat) : Int) ≤ (c : Int) := by omega
      generalize L.getD k ByteArray.empty = lk at *
      go_wp2_with fail
      refine (unhide HIA wr (PA.own (unhide PP).op) ((unhide HT).below (unhide PP).b)).mono ?_
      rintro e w2 ⟨v2, rfl, hO2, hb2⟩
      obtain ⟨pg2, pc2, rfl⟩ : ∃ g2 c2, v2 = .slice (some ⟨g2, 0, none⟩) Ds.length c2 := by
        rcases own_shape hO2 with ⟨_, h0⟩ | ⟨g2, c2, e, _⟩
        · rw [hDl] at h0; omega
        · rw [hDl] at e; exact ⟨g2, c2, e⟩
      have Q2 : Hid (Pe w g c L (.slice (some ⟨pg2, 0, none⟩) Ds.length pc2) Ds (k + 1) w2) := hide
        ⟨(unhide PP).b.trans (hb2.mono (unhide PP).b.size), (unhide PP).ol.below hb2, World.ownsRow.mono hO2 (unhide PP).b.size, by simp, (unhide HF2).1, (unhide HF2).2⟩
      have HPA := hide (fun wx (hx : Pe w g c L (.slice (some ⟨pg2, 0, none⟩) Ds.length pc2) Ds (k + 1) wx) => PA.own (l := Ds.map pkOf) (g := pg2) (cap := pc2) (w := wx) (B := w.heap.size) (by rw [hDl]; exact hx.op))
      clear hO2 hb2 PP HIA HF2
      go_wp2_with fail
      refine (unhide HOK2 pg2 0 pc2 w2 (unhide HPA w2 (unhide Q2))).mono ?_
      rintro e w3 ⟨rfl, hb3⟩
      have Q3 := hide ((unhide Q2).below hb3)
      clear hb3 Q2 HOK2
      go_wp2_with fail
      refine (unhide HPR pg2 0 pc2 w3 (unhide HPA w3 (unhide Q3)) ((unhide HT).below (unhide Q3).b)).mono ?_
      rintro e w4 ⟨rfl, hb4⟩
      have Q4 := hide ((unhide Q3).below hb4)
      clear hb4 Q3 HPR
      go_wp2_with fail
      refine (unhide HTS w4 ((SA.own (unhide Q4).ol).take (k + 1) (by omega))).mono ?_
      rintro e w5 ⟨rfl, hb5⟩
      have Q5 := hide ((unhide Q4).below hb5)
      clear hb5 Q4 HTS
      generalize treeV (L.take (k + 1)) = tt at *
      go_wp2_with fail
      refine ⟨⟨k + 1, Ds, by omega, by go_num, unhide Q5⟩, ?_⟩
      simp [intOf]; omega
    · obtain rfl : k = L.length := by omega
      have hfl : Cs.flatten = L := by rw [(unhide PP).fl, List.take_length]
      have hbt : bitsF 8 L.length = Cs.length := by have := bits_rows Cs (unhide PP).fa (by rw [hfl]; omega); rwa [hfl] at this
      have HBT := hide hbt
      have B0 := hide (unhide PP).b
      have hCl : (Cs.map pkOf).length = Cs.length := by simp
      have hL40 : L.length < 2 ^ 8 := by omega
      have HHO := hide (hashOf_any a cap l wr ((unhide H1).below (unhide PP).b) (by omega))
      rw [hCl]
      clear PP hfl hbt
      go_wp2_with fail
      go_loop [12, 13] (fun bv nv => ∃ (f m bb : Nat), bv = .int .i64 bb ∧ nv = .int .i64 m ∧ f ≤ 8 ∧ m < 2 ^ f ∧ m ≤ 40 ∧ bb + bitsF f m = Cs.length ∧ bb ≤ 8 - f) (fun _ nv => (intOf nv).toNat)
      case atStart => exact ⟨8, L.length, 0, rfl, rfl, Nat.le_refl _, hL40, hLn, by rw [Nat.zero_add]; exact unhide HBT, by omega⟩
      case round =>
        obtain ⟨f, m, bb, rfl, rfl, hf8, hmf, hm40, hsum, hbb⟩ := hrel
        by_cases hm0 : m = 0
        · subst hm0
          have hz : bb = Cs.length := by
            have : ∀ f, bitsF f 0 = 0 := fun f => by
              induction f with
              | zero => rfl
              | succ f ih => unfold bitsF; rw [Nat.zero_div, ih]
            rw [this f] at hsum
            omega
          subst hz
          clear hsum hbb HBT
          go_wp2_with fail
          refine (unhide HHO).mono ?_
          rintro e w2 ⟨s, rfl, hs, hb2⟩
          have B2 := hide ((unhide B0).trans (hb2.mono (unhide B0).size))
          have eN : nodeOut s s = .tuple #[.string (nodeV s s), .int .i64 0] := by
            unfold nodeOut
            have e1 : hfC s = 0 := by unfold hfC; rw [if_neg (by omega), if_pos hs]
            rw [e1, if_pos (show mxI 0 0 = 0 from rfl)]
          have HNI := hide (implNode_any s s w2 (by omega) (by omega) ((unhide HT).below (unhide B2)))
          have HNS := hide (fun wx => specNode_any s s wx (by omega) (by omega))
          rw [eN] at HNI HNS
          clear hb2 eN HHO B0
          generalize nodeV s s = nd at *
          go_wp2_with fail
          refine (unhide HNI).mono ?_
          rintro e w3 ⟨rfl, hb3⟩
          have B3 := hide ((unhide B2).trans (hb3.mono (unhide B2).size))
          clear hb3 B2 HNI
          go_wp2_with fail
          refine (unhide HNS w3).mono ?_
          rintro e w4 ⟨rfl, hb4⟩
          have B4 := hide ((unhide B3).trans (hb4.mono (unhide B3).size))
          clear hb4 B3 HNS
          go_wp2_with fail
          go_ret
          exact ⟨rfl, unhide B4⟩
        · obtain ⟨f', rfl⟩ : ∃ f', f = f' + 1 := ⟨f - 1, by
            rcases f with _ | f
            · simp at hmf; omega
            · simp⟩
          have q1 : Int.tmod (m : Int) 2 = ((m % 2 : Nat) : Int) := by rw [Int.tmod_eq_emod_of_nonneg (by omega)]; omega
          have q2 : Int.tdiv (m : Int) 2 = ((m / 2 : Nat) : Int) := by rw [Int.tdiv_eq_ediv_of_nonneg (by omega)]; omega
          have q3 : (0 : Int) < (m : Int) := by omega
          have HS2 : Hid (bb + m % 2 + bitsF f' (m / 2) = Cs.length) := hide (by unfold bitsF at hsum; omega)
          have hmf2 : m / 2 < 2 ^ f' := by rw [Nat.pow_succ] at hmf; omega
          have q4 : IntKind.i64.wrap ((bb : Int) + ((m % 2 : Nat) : Int)) = ((bb + m % 2 : Nat) : Int) := wrapMm _ (by omega) (by omega)
          have q5 : IntKind.i64.wrap ((m / 2 : Nat) : Int) = ((m / 2 : Nat) : Int) := wrapMm _ (by omega) (by omega)
          clear hsum HBT
          go_wp2_with fail
          refine ⟨⟨f', m / 2, bb + m % 2, ?_, ?_, by omega, hmf2, by omega, unhide HS2, by omega⟩, ?_⟩
          · exact congrArg (Value.int .i64) (by omega)
          · exact congrArg (Value.int .i64) (by omega)
          · simp [intOf]; omega
theorem walk (a0 : Option Addr) (len0 cap0 : Nat) (z0 : List Int) (w : World) (w0 : IsRow .u8 w a0 len0 cap0 z0) (hf : First w) (ht : Table w) :
    Calls Tryd.prog 5 #[.slice a0 len0 cap0] w fun e w' => e = .returned (.bool true) ∧ Below w.heap.size w w' := by
  have b0 := bytes_of_row w0
  have l0 : (z0.take len0).length = len0 := by
    rcases w0 with ⟨_, rfl, _, rfl⟩ | ⟨x, _, hl, hm, hz, _⟩
    · rfl
    · rw [List.length_take]; omega
  have h := walk0 a0 cap0 (z0.take len0) w (by rw [l0]; exact b0) hf ht
  rw [l0] at h
  exact h

theorem vars_of_laid {W : World} (h : laidMetH Tryd.prog Rows.fnPeaksRow.laid W) :
    W.var? Tryd.prog "loop.example/g00220/impl.firstWords" = some firstCells ∧ W.var? Tryd.prog "loop.example/g00220/impl.roundWords" = some roundCells := by
  rw [MakeChecks.laidMetH_plain _ _ _ (by kernel_rfl)] at h
  obtain ⟨ps, ⟨g0, t0, cs0, f0, p0, q0, hg0, ht0, hv0, hd0, ⟨g1, t1, cs1, f1, p1, q1, hg1, ht1, hv1, hd1, _, _⟩, _⟩, _, _⟩ := h
  obtain rfl := Option.some.inj (gFirst.symm.trans hg0)
  obtain rfl := Option.some.inj (gRound.symm.trans hg1)
  obtain rfl := Option.some.inj (gFirstType.symm.trans ht0)
  obtain rfl := Option.some.inj (gRoundType.symm.trans ht1)
  have e0 := Lib.cells_of_tab (k := .u32) (cs := cs0.toList) (zs := iL.map fun (n : Nat) => (n : Int)) Tryd.underlying101 Tryd.underlying100 cellsE cellsA hd0
  have e1 := Lib.cells_of_tab (k := .u32) (cs := cs1.toList) (zs := kL.map fun (n : Nat) => (n : Int)) Tryd.underlying105 Tryd.underlying100 cellsE cellsB hd1
  have a0 : cs0 = firstCells := by
    have : cs0.toList = firstCells.toList := e0.trans (by kernel_rfl)
    exact Array.toList_inj.1 this
  have a1 : cs1 = roundCells := by
    have : cs1.toList = roundCells.toList := e1.trans (by kernel_rfl)
    exact Array.toList_inj.1 this
  exact ⟨by rw [hv0, a0], by rw [hv1, a1]⟩
theorem door_met (os : Os) (args : Array Value) : laidMetH Tryd.prog Rows.fnPeaksRow.laid ((World.doorLaid Tryd.prog 19 os).forCall (fun _ _ => 0) ⟨#[], args, []⟩).memory :=
  laidMetH_of_parts3 (fuel := 8) (laidMet_of_run' 8 (by kernel_rfl) (by kernel_rfl)) (by kernel_rfl) (by kernel_rfl)
set_option maxRecDepth 100000 in
theorem lifted (os : Os) (started : os.Started) (H : Type) (enc : TypeId × Value → H) :
    ReturnsInHanded {} Tryd.checked os 5 .any (fun w args => (Rows.fnPeaksSpec.pre enc Tryd.prog Tryd.f5 [] false w args ∧ laidMetH Tryd.prog Rows.fnPeaksRow.laid w) ∧ sizedMet enc Tryd.prog Tryd.f5 (OpenSpec.ofChange Rows.fnPeaksSpec) false w args)
      (Rows.fnPeaksSpec.post enc Tryd.prog Tryd.f5 false true false false) := by
  refine returnsInHanded_of_change_and (C := Tryd.checked) (X := fun w _ => laidMetH Tryd.prog Rows.fnPeaksRow.laid w) (fun _ _ _ hh h => h.of_heap hh) own started (by kernel_rfl) Tryd.func5
    (ChangeSpec.witness_shaped (enc := enc) (C := Tryd.checked) (os := os) (X := fun w _ => laidMetH Tryd.prog Rows.fnPeaksRow.laid w) false (World.doorLaid Tryd.prog 19 os) #[.slice none 0 0] 8 rfl (World.shaped_of_RefB (by kernel_rfl) (by kernel_rfl)) (by kernel_rfl) (by kernel_rfl) (by kernel_rfl) (door_met os _)) ?_
  intro W base args ds gs before hval0 hW _ _ hL _
  have hval : ∀ (j : Nat) t v, Tryd.f5.params[j]? = some t → args[j]? = some v → Value.okWide Tryd.prog W .any base t v := hval0
  have hW' := hW
  obtain ⟨p, q, hA0, hV0, rfl, hfz, hnd⟩ := hW
  have hA : DataW.TrodAll enc Tryd.prog W 0 (fun _ => true) true Tryd.f5.params.toList args.toList ds p := hA0
  have hV : DataW.TrodVars enc Tryd.prog W (fun _ => true) ["loop.example/g00220/impl.firstWords", "loop.example/g00220/impl.roundWords"] gs q := hV0
  rw [Tryd.params5] at hA hval
  obtain ⟨v0, vs0, d0, ds0, p0, q0, hargs, rfl, rfl, h0, r0⟩ := trodAll_cons hA
  obtain ⟨rfl, rfl, rfl⟩ := trodAll_nil r0
  obtain rfl : args = #[v0] := by cases args; simp_all
  have k0 := h0
  have lt0 : ∀ x ∈ p0, x.block < W.heap.size := by obtain ⟨m, hm⟩ := k0; exact DataW.trod_lt m _ _ _ hm
  obtain ⟨a0, len0, cap0, rfl⟩ := okWide_slice Tryd.underlying22 (hval 0 22 v0 rfl rfl)
  obtain ⟨z0, w0⟩ : ∃ zs, IsRow .u8 W a0 len0 cap0 zs := by
    obtain ⟨fuel, hf⟩ := h0
    rcases open_ints Tryd.underlying22 Tryd.underlying5 (by kernel_rfl) hf with ⟨hcs, _⟩ | ⟨x, l, c, zs, hcs, _, hl, hm, hz, _, hcell, hwz⟩
    · simp [Value.cells] at hcs
      obtain ⟨rfl, rfl, rfl⟩ := hcs
      exact ⟨[], .inl ⟨rfl, rfl, rfl, rfl⟩⟩
    · simp [Value.cells] at hcs
      obtain ⟨rfl, rfl, rfl⟩ := hcs
      exact ⟨zs, .inr ⟨_, rfl, hl, hm, by simpa using hz, hcell, hwz⟩⟩
  obtain ⟨hvA, hvB⟩ := vars_of_laid hL
  clear hA0 hV0 hval0
  refine (walk a0 len0 cap0 z0 W w0 (first_of hvA) (table_of hvB)).mono fun e W' ⟨he, bel⟩ => ?_
  subst he
  obtain ⟨rfl, pv, hvs⟩ := vars_again (sp := fun b => decide (b < W.heap.size)) hvA hvB hV bel
  exact ⟨_, rfl, _, _, _, [], _, pv, hW', trodAll_mk1 (shut_bool Tryd.underlying4 _), (trodAll_cons_mk (Below.trod laidOut (by kernel_rfl) (of_decide_eq_true (by kernel_rfl)) k0 bel lt0) trodAll_mk0), hvs, bel.frame _, fun h => by cases h⟩

theorem said : Rows.FnPeaksSaid :=
  OpenClaim.holds_of_wide 5 Tryd.f5 rfl rfl rfl rfl rfl rfl rfl ⟨rfl, rfl, rfl, rfl, rfl⟩ rfl rfl rfl rfl rfl (by kernel_rfl) Tryd.func5 (by kernel_rfl)
    (of_decide_eq_true (by kernel_rfl)) (by unfold Func.isWrapper; first | (rw [if_pos (by decide +kernel)]; kernel_rfl) | (rw [if_neg (by decide +kernel)]; exact ⟨rfl, rfl⟩))
    (fun os started H enc _ => lifted os started H enc)

theorem plain (f : FuncId) (fn : Func) (hf : Tryd.pinned.checked.prog.funcNamed "loop.example/g00220/laws.FnPeaks" = some f) (hfn : Tryd.pinned.checked.prog.funcs[f]? = some fn) :
    false = Tryd.pinned.checked.prog.looks [] ∧ ∀ (j : Nat) t, fn.params[j]? = some t → Tryd.pinned.checked.prog.wantsStandIn t = false := by
  obtain rfl : f = 5 := Option.some.inj ((show Tryd.prog.funcNamed "loop.example/g00220/laws.FnPeaks" = some 5 by kernel_rfl).symm.trans hf) |>.symm
  obtain rfl : fn = Tryd.f5 := (Option.some.inj (Tryd.func5.symm.trans hfn)).symm
  refine ⟨by kernel_rfl, fun j t ht => ?_⟩
  rw [Tryd.params5] at ht
  obtain rfl : t = 22 := by
    have := Array.mem_of_getElem? ht
    simpa using this
  exact (show Tryd.prog.wantsStandIn 22 = false by kernel_rfl)
end Go.Proofs.YtnaoccndghnmpaaDoor.fnPeaks
namespace Go.Proofs.YtnaoccndghnmpaaDoor
theorem fnPeaks_card : Rows.FnPeaksCardSaid :=
  Claim7.holds_tied_plain_at .later [] _ _ _ _ fnPeaks.said (fun _ h => by cases h) (by kernel_rfl) (fun _ h => by cases h) fnPeaks_row_tie rfl ⟨rfl, rfl⟩ (by kernel_rfl) rfl fnPeaks.plain (by kernel_rfl)
#print axioms fnPeaks_card
end Go.Proofs.YtnaoccndghnmpaaDoor
