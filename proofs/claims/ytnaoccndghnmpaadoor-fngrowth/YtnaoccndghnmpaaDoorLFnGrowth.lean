/- For every two lists of bytes that can be read, laws.FnGrowth returns true, both read as they did, and so do the two tables of words, which the card ties to the program's text. Condition: the listed tables start as the program's text lays them. -/
import Derived.Test.YtnaoccndghnmpaaDoorMkS
import Derived.Test.YtnaoccndghnmpaaDoorMkG
import Derived.Test.YtnaoccndghnmpaaDoorMkC
import Derived.Test.YtnaoccndghnmpaaDoorLvs
import Derived.Test.YtnaoccndghnmpaaDoorDig
import Derived.Test.YtnaoccndghnmpaaDoorSameT
import Derived.Test.YtnaoccndghnmpaaDoorLawG
import Derived.Test.YtnaoccndghnmpaaDoorCards
import Derived.Test.YtnaoccndghnmpaaDoorTie
namespace Go.Proofs.YtnaoccndghnmpaaDoor.fnGrowth
open Go.ChangeShapes Go.WideShapes Go.ChangeAt Go.RowKit Sha
open Go.ChangeMaps (open_string shut_string)
set_option linter.unusedVariables false
set_option linter.unusedSimpArgs false

theorem code_ok {L : List ByteArray} (h : L.length ≤ 64) (hA : AllH L) : codeL L = 0 := by
  unfold codeL; rw [if_neg (by omega), if_pos ⟨h, allH_yes hA⟩]
theorem small_of {L : List ByteArray} (hA : AllH L) (i : Nat) : (L.getD i ByteArray.empty).size ≤ 1048576 := by
  rcases Nat.lt_or_ge i L.length with h | h
  · rw [hA i h]; omega
  · rw [List.getD_eq_getElem?_getD, List.getElem?_eq_none h]; simp
theorem sub_ne {l : List ByteArray} {n m : Nat} (hl : l.length = n) (h1 : 1 ≤ m) (hmn : m ≤ n) (h64 : n ≤ 64) (h : (subV l m true).length = 0) : m = n := by
  rcases (show m = n ∨ m < n by omega) with e | e
  · exact e
  · exfalso
    by_cases hp : m ≤ half l.length
    · rw [subV_lo (by omega) (by omega) (by omega) hp] at h
      simp at h
    · rw [subV_hi (by omega) (by omega) (by omega) hp] at h
      simp at h
theorem sub_all {l : List ByteArray} {n : Nat} (hl : l.length = n) : subV l n true = [] := by rw [subV_all hl.symm]; rfl
theorem set_hash {pr : List ByteArray} {k : Nat} {h : ByteArray} (hA : AllH pr) (hh : h.size = 32) : AllH (pr.set k h) := by
  intro j hj
  rw [List.length_set] at hj
  rw [List.getD_eq_getElem?_getD, List.getElem?_set]
  split
  · split
    · simpa using hh
    · omega
  · rw [← List.getD_eq_getElem?_getD]; exact hA j hj
theorem turned_ok {l : List ByteArray} {n m k : Nat} {h : ByteArray} (hl : l.length = n) (h1 : 1 ≤ m) (hmn : m ≤ n) (h64 : n ≤ 64) (hA : AllH l) (hh : h.size = 32) :
    (crOut (m : Int) (n : Int) (treeV (l.take m)) ((subV l m true).set k h)).2 = 0 := by
  have hsl := sub_len n l m true hl (by omega)
  have h9 := both_tree n l m true (treeV (l.take m)) hl h1 hmn h64 (fun _ => rfl)
  have b1 := (both_way n (treeV (l.take m)) m (subV l m true) true h1 hmn h64).1
  have b2 := (both_way n (treeV (l.take m)) m ((subV l m true).set k h) true h1 hmn h64).1
  have hlen : (hashesV (treeV (l.take m)) m n ((subV l m true).set k h) true).length = (hashesV (treeV (l.take m)) m n (subV l m true) true).length := by
    unfold hashesV; split <;> simp
  rw [hlen, ← b1, h9] at b2
  unfold crOut
  rw [if_pos (ok_two (tree_size _ _ rfl (by rw [List.length_take]; omega) (hA.take _)) (by rw [List.length_set]; omega) (set_hash (sub_hash n l m true hl h64 hA) hh)), if_pos ⟨inB_yes (by omega) (by omega), inB_yes (by omega) (by omega)⟩, Int.toNat_natCast, Int.toNat_natCast, if_pos b2]
theorem implCR_own {L : List ByteArray} {n m : Nat} {v : Value} {B : Nat} {w : World} (hl : L.length = n) (h1 : 1 ≤ m) (hmn : m ≤ n) (h64 : n ≤ 64) (hA : AllH L) (hO : OwnS B w v (subV L m true)) (ht : Tab w) :
    Calls Tryd.prog 18 #[.int .i64 m, .int .i64 n, .string (treeV (L.take m)), v] w fun e w' => e = .returned (.tuple #[.string (treeV (L.take m)), .string (treeV L), .int .i64 0]) ∧ Below w.heap.size w w' := by
  have hg := grow_good hl h1 hmn h64 hA
  have hz := tree_size _ (L.take m) rfl (by rw [List.length_take]; omega) (hA.take _)
  rcases _root_.Go.Proofs.YtnaoccndghnmpaaDoor.own_shape hO with ⟨rfl, h0⟩ | ⟨g, c, rfl, _⟩
  · have hm := sub_ne hl h1 hmn h64 h0
    subst hm
    have := implCR_nil m (treeV (L.take m)) (subV L m true) (List.eq_nil_of_length_eq_zero h0) w h1 h64 hz ht
    rw [hg] at this
    exact this
  · have := implCR_any (m : Int) (n : Int) (treeV (L.take m)) (subV L m true) g 0 c w (by omega) (SA.own hO) (small_of (sub_hash n L m true hl h64 hA)) ht
    rw [hg] at this
    exact this
set_option maxRecDepth 100000 in
set_option maxHeartbeats 4000000 in
theorem walk0 (a : Option Addr) (cap : Nat) (l : List Int) (a2 : Option Addr) (cap2 : Nat) (m : List Int) (w : World) (h1 : Bytes w (.slice a l.length cap) l) (h2 : Bytes w (.slice a2 m.length cap2) m) (hcp : m.length ≤ cap2) (hcx : cap2 ≤ maxLen) (hf : First w) (ht : Table w) :
    Calls Tryd.prog 4 #[.slice a l.length cap, .slice a2 m.length cap2] w fun e w' => e = .returned (.bool true) ∧ Below w.heap.size w w' := by
  have HT := hide (show Tab w from ⟨hf, ht⟩)
  obtain ⟨i0, hi, hz0', hz1', hz2'⟩ := info_parts9
  have H1 := hide h1
  have H2 := hide h2
  have g1 : l.length ≤ 9223372036854775807 := by obtain ⟨_, _, _, hm1, _⟩ := h1; unfold maxLen at hm1; omega
  have g2 : m.length ≤ 9223372036854775807 := by unfold maxLen at hcx; omega
  have g3 : cap2 ≤ 9223372036854775807 := by unfold maxLen at hcx; omega
  clear hf ht h1 h2 hcx
  go_enter Tryd.func4, Tryd.ntmps4
  by_cases hl : 1048576 < l.length
  · go_wp2_with fail
    go_ret
    exact ⟨rfl, Below.refl _ _⟩
  by_cases hmm : 1048576 < m.length
  · go_wp2_with fail
    go_ret
    exact ⟨rfl, Below.refl _ _⟩
  have HL := hide (leavesOf_any a cap l w (unhide H1) (by omega))
  have HHO := hide (fun wx (hx : Below w.heap.size w wx) => hashOf_any a2 cap2 m wx ((unhide H2).below hx) (by omega))
  go_wp2_with fail
  refine (unhide HL).mono ?_
  rintro e w1 ⟨g, c, L, rfl, hLn, hA, hO1, hb1⟩
  have O1 := hide hO1
  have B1 := hide hb1
  have HA := hide hA
  have hLc : L.length ≤ c := (SA.own hO1).le
  have hcm : c ≤ 9223372036854775807 := by have := (SA.own hO1).mx; unfold maxLen at this; omega
  clear hO1 hb1 hA HL
  by_cases h0 : L.length = 0
  · go_wp2_with fail
    go_ret
    exact ⟨rfl, unhide B1⟩
  have hAt := hide (at_all (.slice a2 m.length cap2) m 0 (L.length : Int) w1 ((unhide H2).below (unhide B1)) (by omega) (by omega) (by omega) (by omega))
  go_wp2_with fail
  refine (unhide hAt).mono ?_
  rintro e w4 ⟨ki, rfl, hk0, hk1, d, hd⟩
  obtain ⟨k, rfl⟩ : ∃ n : Nat, ki = (n : Int) := ⟨ki.toNat, by omega⟩
  have B4 : Hid (Below w.heap.size w w4) := hide (by rw [hd]; exact below_drewN (unhide B1) d)
  have O4 : Hid (OwnS w.heap.size w4 (.slice (some ⟨g, 0, none⟩) L.length c) L) := hide (by rw [hd]; exact (unhide O1).drewN d)
  clear hd hAt B1 O1
  obtain ⟨p, hp⟩ : ∃ p : Nat, p = k + 1 := ⟨_, rfl⟩
  have hp1 : 1 ≤ p := by omega
  have hpn : p ≤ L.length := by omega
  have hpi : 1 + (k : Int) = (p : Int) := by omega
  have p0 : (0 : Int) ≤ (p : Int) := by omega
  have p1 : (p : Int) ≤ (L.length : Int) := by omega
  have p2 : (p : Int) ≤ (c : Int) := by omega
  have hl64 : L.length ≤ 64 := by omega
  clear hk0 hk1 hp
  have htl : (L.take p).length = p := by rw [List.length_take]; omega
  have HTP := hide (fun wx hx hy => implTree_any (L.take p) g 0 c wx hx (small_of ((unhide HA).take p)) hy)
  have HTR := hide (fun wx hx hy => implTree_any L g 0 c wx hx (small_of (unhide HA)) hy)
  have eT : treeOut L = .tuple #[.string (treeV L), .int .i64 0] := by unfold treeOut; rw [if_pos (code_ok (by omega) (unhide HA))]
  have eP : treeOut (L.take p) = .tuple #[.string (treeV (L.take p)), .int .i64 0] := by unfold treeOut; rw [if_pos (code_ok (by omega) ((unhide HA).take p))]
  rw [eP, htl] at HTP
  rw [eT] at HTR
  have OH := hide (fun wx (h : OwnS w.heap.size wx (.slice (some ⟨g, 0, none⟩) L.length c) L) => SA.own (OwnS.head h p hpn))
  have eC : conOut L (p : Int) = (subV L p true, 0) := by
    unfold conOut
    rw [if_pos (code_ok (by omega) (unhide HA)), if_pos (inB_yes (by omega) (by omega)), Int.toNat_natCast]
  have HCI := hide (fun wx hx hy => implCon_any L (p : Int) g 0 c wx hx (small_of (unhide HA)) hy)
  have HCS := hide (fun wx hx => specCon_any L (p : Int) g 0 c wx hx (small_of (unhide HA)))
  rw [eC] at HCI HCS
  have HCR := hide (fun v B wx hx hy => implCR_own (L := L) (n := L.length) (m := p) (v := v) (B := B) (w := wx) rfl hp1 hpn (by omega) (unhide HA) hx hy)
  have HTU := hide (fun kk hh hz => turned_ok (l := L) (n := L.length) (m := p) (k := kk) (h := hh) rfl hp1 hpn (by omega) (unhide HA) hz)
  have HSN := hide (fun h => sub_ne (l := L) (n := L.length) (m := p) rfl hp1 hpn (by omega) h)
  have HSA := hide (sub_hash L.length L p true rfl (by omega) (unhide HA))
  have hsl := sub_len L.length L p true rfl (by omega)
  have HFZ := hide (tree_size _ (L.take p) rfl (by rw [htl]; omega) ((unhide HA).take p))
  clear eC eT eP htl
  generalize treeV (L.take p) = fst at *
  generalize treeV L = root at *
  generalize subV L p true = pr at *
  go_wp2_with fail
  refine (unhide HTP w4 (unhide OH w4 (unhide O4)) ((unhide HT).below (unhide B4))).mono ?_
  rintro e w5 ⟨rfl, hb5⟩
  have B5 := hide ((unhide B4).trans (hb5.mono (unhide B4).size))
  have O5 := hide ((unhide O4).below hb5)
  clear hb5 O4 B4 HTP OH
  go_wp2_with fail
  refine (unhide HTR w5 (SA.own (unhide O5)) ((unhide HT).below (unhide B5))).mono ?_
  rintro e w6 ⟨rfl, hb6⟩
  have B6 := hide ((unhide B5).trans (hb6.mono (unhide B5).size))
  have O6 := hide ((unhide O5).below hb6)
  clear hb6 O5 B5 HTR
  go_wp2_with fail
  refine (unhide HCI w6 (SA.own (unhide O6)) ((unhide HT).below (unhide B6))).mono ?_
  rintro e w7 ⟨pv, rfl, hO7, hb7⟩
  have B7 := hide ((unhide B6).trans (hb7.mono (unhide B6).size))
  have O7 := hide ((unhide O6).below hb7)
  have P7 := hide hO7
  clear hO7 hb7 O6 B6 HCI
  go_wp2_with fail
  refine (unhide HCS w7 (SA.own (unhide O7))).mono ?_
  rintro e w8 ⟨sv, rfl, hO8, hb8⟩
  have B8 := hide ((unhide B7).trans (hb8.mono (unhide B7).size))
  have P8 := hide ((unhide P7).below hb8)
  have S8 := hide hO8
  clear hO8 hb8 O7 P7 B7 HCS
  go_wp2_with fail
  refine (unhide HCR pv _ w8 (unhide P8) ((unhide HT).below (unhide B8))).mono ?_
  rintro e w9 ⟨rfl, hb9⟩
  have B9 := hide ((unhide B8).trans (hb9.mono (unhide B8).size))
  have P9 := hide ((unhide P8).below hb9)
  have S9 := hide ((unhide S8).below hb9)
  clear hb9 P8 S8 B8 HCR
  go_wp2_with fail
  refine (sameTexts_any pv sv pr w9 (unhide P9).strs (unhide S9).strs (by omega)).mono ?_
  rintro e w10 ⟨rfl, d8, hd8⟩
  have B10 : Hid (Below w.heap.size w w10) := hide (by rw [hd8]; exact below_drewN (unhide B9) d8)
  have P10 : Hid (OwnS w6.heap.size w10 pv pr) := hide (by rw [hd8]; exact (unhide P9).drewN d8)
  clear hd8 P9 S9 B9
  obtain ⟨pa, pc, hpv⟩ : ∃ pa pc, pv = .slice pa pr.length pc := by
    rcases _root_.Go.Proofs.YtnaoccndghnmpaaDoor.own_shape (unhide P10) with ⟨h, h0⟩ | ⟨gg, cc, h, _⟩
    · exact ⟨none, 0, by rw [h, h0]⟩
    · exact ⟨_, _, h⟩
  subst hpv
  by_cases hpr : pr.length = 0
  · have hpe := unhide HSN hpr
    have hpe2 : ((p : Int) == (L.length : Int)) = true := by simp; omega
    go_wp2_with fail
    go_ret
    exact ⟨rfl, unhide B10⟩
  have OE := hide (owns_made' (base := w10.heap.size) (e := 9) w10 w10.heap.size rfl (Nat.le_refl _))
  have BE := hide ((Below.refl w10.heap.size w10).alloc (Nat.le_refl _) (.cells #[] 9))
  have hpl : pr.length ≤ 64 := by omega
  have HPR := hide hpr
  have hprb : ((pr.length : Int) == 0) = false := by rw [beq_eq_false_iff_ne]; omega
  clear hpr HSN
  go_wp2_with (at_builtin; refine wpList_append_row _ rfl _ _ _ rfl w10.heap.size 9 i0 _ 1 16 Tryd.underlying23 hi hz0' hz1' hz2' rfl (by omega) _ 0 [] rfl (unhide OE) _ pr.length (pr.map Value.string) rfl ((unhide P10).below (unhide BE)).strs.rw (by simp) (by simp [Value.oneCell']) (by unfold maxLen; omega) (by omega) ((unhide BE).size) ?_; intro a12 c12 w12 hown12 hg12 hat12; rw [Nat.zero_add] at hown12 ⊢; rw [List.nil_append] at hown12; (have B12' : Below w10.heap.size w10 w12 := (unhide BE).grown hg12 (unhide BE).size (fun r hr => by cases hr; exact Nat.le_refl _)); (have B12 := hide ((unhide B10).trans (B12'.mono (unhide B10).size))); (have O12 : Hid (OwnS w10.heap.size w12 (.slice a12 pr.length c12) pr) := hide hown12); clear hown12 hg12 hat12 B12')
  obtain ⟨gg, rfl⟩ : ∃ gg, a12 = some ⟨gg, 0, none⟩ := by
    rcases _root_.Go.Proofs.YtnaoccndghnmpaaDoor.own_shape (unhide O12) with ⟨_, h0⟩ | ⟨g', c', hv, _⟩
    · exact absurd h0 (unhide HPR)
    · simp only [Value.slice.injEq] at hv; exact ⟨g', hv.1⟩
  have hpp : 1 ≤ pr.length := by have := unhide HPR; omega
  have hgw : Hid (w10.heap.size ≤ gg ∧ gg < w12.heap.size) := hide ((unhide O12).lt gg rfl)
  have hAt2 := hide (at_all (.slice a2 m.length cap2) m 1 (pr.length : Int) w12 ((unhide H2).below (unhide B12)) (by omega) (by omega) (by omega) (by omega))
  refine (unhide hAt2).mono ?_
  rintro e w13 ⟨qi, rfl, hq0, hq1, d13, hd13⟩
  obtain ⟨q, rfl⟩ : ∃ n : Nat, qi = (n : Int) := ⟨qi.toNat, by omega⟩
  have B13 : Hid (Below w.heap.size w w13) := hide (by rw [hd13]; exact below_drewN (unhide B12) d13)
  have O13 : Hid (OwnS w10.heap.size w13 (.slice (some ⟨gg, 0, none⟩) pr.length c12) pr) := hide (by rw [hd13]; exact (unhide O12).drewN d13)
  have hgw13 : Hid (gg < w13.heap.size) := hide (by rw [hd13]; exact (unhide hgw).2)
  clear hd13 hAt2 B12 O12
  go_wp2_with fail
  refine (unhide HHO w13 (unhide B13)).mono ?_
  rintro e w14 ⟨h, rfl, hh, hb14⟩
  have B14 := hide ((unhide B13).trans (hb14.mono (unhide B13).size))
  have O14 := hide ((unhide O13).below hb14)
  clear hb14 B13 O13
  have c0 := (unhide O14).cell q (by omega)
  have fz := World.ownsRow.frozenAt (unhide O14) q
  have q0 : (0 : Int) ≤ (q : Int) := by omega
  have q1 : (q : Int) < (pr.length : Int) := by omega
  have O15 := hide (World.ownsRow.stored (unhide O14) q (.string h)).1
  have HHZ := hide hh
  have B15 := hide ((unhide B14).setCell (p := ⟨gg, q, none⟩) (by have := (unhide B10).size; have := (unhide hgw).1; simp; omega) (.string h))
  have HTC := hide (unhide HTU q h hh)
  have HLS : Hid ((pr.set q h).length = pr.length) := hide List.length_set
  have HSS := hide (set_hash (k := q) (unhide HSA) hh)
  clear hh HTU
  generalize pr.getD q ByteArray.empty = x at *
  have OS15 : Hid (SA (w14.setCell ⟨gg, q, none⟩ (.string h)) gg 0 c12 (pr.set q h)) := hide (SA.own (by
    unfold OwnS
    rw [unhide HLS, List.map_set]
    exact unhide O15))
  have HIR := hide (implCR_any (p : Int) (L.length : Int) fst (pr.set q h) gg 0 c12 _ (by have := unhide HFZ; omega) (unhide OS15) (small_of (unhide HSS)) ((unhide HT).below (unhide B15)))
  have HSR := hide (fun wx (hx : Below (w14.setCell ⟨gg, q, none⟩ (.string h)).heap.size (w14.setCell ⟨gg, q, none⟩ (.string h)) wx) => specCR_any (p : Int) (L.length : Int) fst (pr.set q h) gg 0 c12 wx (by have := unhide HFZ; omega) ((unhide OS15).below hx) (small_of (unhide HSS)))
  rw [unhide HLS, unhide HTC] at HIR HSR
  generalize (crOut (p : Int) (L.length : Int) fst (pr.set q h)).1.1 = r1 at *
  generalize (crOut (p : Int) (L.length : Int) fst (pr.set q h)).1.2 = r2 at *
  clear HTC O15 OS15
  go_wp2_with fail
  · go_ret
    exact ⟨rfl, unhide B14⟩
  · refine (unhide HIR).mono ?_
    rintro e w16 ⟨rfl, hb16⟩
    have B16 := hide ((unhide B15).trans (hb16.mono (unhide B15).size))
    have HS16 := hide (unhide HSR w16 hb16)
    clear hb16 HIR HSR B15 c0 fz
    go_wp2_with fail
    refine (unhide HS16).mono ?_
    rintro e w17 ⟨rfl, hb17⟩
    have B17 := hide ((unhide B16).trans (hb17.mono (unhide B16).size))
    clear hb17 HS16 B16
    go_wp2_with fail
    go_ret
    exact ⟨rfl, unhide B17⟩
theorem walk (a0 : Option Addr) (len0 cap0 : Nat) (z0 : List Int) (a1 : Option Addr) (len1 cap1 : Nat) (z1 : List Int) (w : World) (w0 : IsRow .u8 w a0 len0 cap0 z0) (w1 : IsRow .u8 w a1 len1 cap1 z1) (hf : First w) (ht : Table w) :
    Calls Tryd.prog 4 #[.slice a0 len0 cap0, .slice a1 len1 cap1] w fun e w' => e = .returned (.bool true) ∧ Below w.heap.size w w' := by
  have b0 := bytes_of_row w0
  have b1 := bytes_of_row w1
  have l0 : (z0.take len0).length = len0 := by
    rcases w0 with ⟨_, rfl, _, rfl⟩ | ⟨x, _, hl, hm, hz, _⟩
    · rfl
    · rw [List.length_take]; omega
  have l1 : (z1.take len1).length = len1 ∧ len1 ≤ cap1 ∧ cap1 ≤ maxLen := by
    rcases w1 with ⟨_, rfl, rfl, rfl⟩ | ⟨x, _, hl, hm, hz, _⟩
    · exact ⟨rfl, Nat.le_refl _, by unfold maxLen; omega⟩
    · exact ⟨by rw [List.length_take]; omega, hl, hm⟩
  have h := walk0 a0 cap0 (z0.take len0) a1 cap1 (z1.take len1) w (by rw [l0]; exact b0) (by rw [l1.1]; exact b1) (by rw [l1.1]; exact l1.2.1) l1.2.2 hf ht
  rw [l0, l1.1] at h
  exact h

theorem vars_of_laid {W : World} (h : laidMetH Tryd.prog Rows.fnGrowthRow.laid W) :
    W.var? Tryd.prog "loop.example/g00220/impl.firstWords" = some firstCells ∧ W.var? Tryd.prog "loop.example/g00220/impl.roundWords" = some roundCells := by
  rw [MakeChecks.laidMetH_plain _ _ _ (by kernel_rfl)] at h
  obtain ⟨ps, ⟨g0, t0, cs0, f0, p0, q0, hg0, ht0, hv0, hd0, ⟨g1, t1, cs1, f1, p1, q1, hg1, ht1, hv1, hd1, _, _⟩, _⟩, _, _⟩ := h
  obtain rfl := Option.some.inj (gFirst.symm.trans hg0)
  obtain rfl := Option.some.inj (gRound.symm.trans hg1)
  obtain rfl := Option.some.inj (gFirstType.symm.trans ht0)
  obtain rfl := Option.some.inj (gRoundType.symm.trans ht1)
  have e0 := Lib.cells_of_tab (k := .u32) (cs := cs0.toList) (zs := iL.map fun (n : Nat) => (n : Int)) Tryd.underlying101 Tryd.underlying100 cellsE cellsA hd0
  have e1 := Lib.cells_of_tab (k := .u32) (cs := cs1.toList) (zs := kL.map fun (n : Nat) => (n : Int)) Tryd.underlying105 Tryd.underlying100 cellsE cellsB hd1
  have a0 : cs0 = firstCells := by
    have : cs0.toList = firstCells.toList := e0.trans (by kernel_rfl)
    exact Array.toList_inj.1 this
  have a1 : cs1 = roundCells := by
    have : cs1.toList = roundCells.toList := e1.trans (by kernel_rfl)
    exact Array.toList_inj.1 this
  exact ⟨by rw [hv0, a0], by rw [hv1, a1]⟩
theorem door_met (os : Os) (args : Array Value) : laidMetH Tryd.prog Rows.fnGrowthRow.laid ((World.doorLaid Tryd.prog 19 os).forCall (fun _ _ => 0) ⟨#[], args, []⟩).memory :=
  laidMetH_of_parts3 (fuel := 8) (laidMet_of_run' 8 (by kernel_rfl) (by kernel_rfl)) (by kernel_rfl) (by kernel_rfl)
set_option maxRecDepth 100000 in
theorem lifted (os : Os) (started : os.Started) (H : Type) (enc : TypeId × Value → H) :
    ReturnsInHanded {} Tryd.checked os 4 .any (fun w args => (Rows.fnGrowthSpec.pre enc Tryd.prog Tryd.f4 [] false w args ∧ laidMetH Tryd.prog Rows.fnGrowthRow.laid w) ∧ sizedMet enc Tryd.prog Tryd.f4 (OpenSpec.ofChange Rows.fnGrowthSpec) false w args)
      (Rows.fnGrowthSpec.post enc Tryd.prog Tryd.f4 false true false false) := by
  refine returnsInHanded_of_change_and (C := Tryd.checked) (X := fun w _ => laidMetH Tryd.prog Rows.fnGrowthRow.laid w) (fun _ _ _ hh h => h.of_heap hh) own started (by kernel_rfl) Tryd.func4
    (ChangeSpec.witness_shaped (enc := enc) (C := Tryd.checked) (os := os) (X := fun w _ => laidMetH Tryd.prog Rows.fnGrowthRow.laid w) false (World.doorLaid Tryd.prog 19 os) #[.slice none 0 0, .slice none 0 0] 8 rfl (World.shaped_of_RefB (by kernel_rfl) (by kernel_rfl)) (by kernel_rfl) (by kernel_rfl) (by kernel_rfl) (door_met os _)) ?_
  intro W base args ds gs before hval0 hW _ _ hL _
  have hval : ∀ (j : Nat) t v, Tryd.f4.params[j]? = some t → args[j]? = some v → Value.okWide Tryd.prog W .any base t v := hval0
  have hW' := hW
  obtain ⟨p, q, hA0, hV0, rfl, hfz, hnd⟩ := hW
  have hA : DataW.TrodAll enc Tryd.prog W 0 (fun _ => true) true Tryd.f4.params.toList args.toList ds p := hA0
  have hV : DataW.TrodVars enc Tryd.prog W (fun _ => true) ["loop.example/g00220/impl.firstWords", "loop.example/g00220/impl.roundWords"] gs q := hV0
  rw [Tryd.params4] at hA hval
  obtain ⟨v0, vs0, d0, ds0, p0, q0, hargs, rfl, rfl, h0, r0⟩ := trodAll_cons hA
  obtain ⟨v1, vs1, d1, ds1, p1, q1, rfl, rfl, rfl, h1, r1⟩ := trodAll_cons r0
  obtain ⟨rfl, rfl, rfl⟩ := trodAll_nil r1
  obtain rfl : args = #[v0, v1] := by cases args; simp_all
  have k0 := h0
  have lt0 : ∀ x ∈ p0, x.block < W.heap.size := by obtain ⟨m, hm⟩ := k0; exact DataW.trod_lt m _ _ _ hm
  obtain ⟨a0, len0, cap0, rfl⟩ := okWide_slice Tryd.underlying22 (hval 0 22 v0 rfl rfl)
  obtain ⟨z0, w0⟩ : ∃ zs, IsRow .u8 W a0 len0 cap0 zs := by
    obtain ⟨fuel, hf⟩ := h0
    rcases open_ints Tryd.underlying22 Tryd.underlying5 (by kernel_rfl) hf with ⟨hcs, _⟩ | ⟨x, l, c, zs, hcs, _, hl, hm, hz, _, hcell, hwz⟩
    · simp [Value.cells] at hcs
      obtain ⟨rfl, rfl, rfl⟩ := hcs
      exact ⟨[], .inl ⟨rfl, rfl, rfl, rfl⟩⟩
    · simp [Value.cells] at hcs
      obtain ⟨rfl, rfl, rfl⟩ := hcs
      exact ⟨zs, .inr ⟨_, rfl, hl, hm, by simpa using hz, hcell, hwz⟩⟩
  have k1 := h1
  have lt1 : ∀ x ∈ p1, x.block < W.heap.size := by obtain ⟨m, hm⟩ := k1; exact DataW.trod_lt m _ _ _ hm
  obtain ⟨a1, len1, cap1, rfl⟩ := okWide_slice Tryd.underlying22 (hval 1 22 v1 rfl rfl)
  obtain ⟨z1, w1⟩ : ∃ zs, IsRow .u8 W a1 len1 cap1 zs := by
    obtain ⟨fuel, hf⟩ := h1
    rcases open_ints Tryd.underlying22 Tryd.underlying5 (by kernel_rfl) hf with ⟨hcs, _⟩ | ⟨x, l, c, zs, hcs, _, hl, hm, hz, _, hcell, hwz⟩
    · simp [Value.cells] at hcs
      obtain ⟨rfl, rfl, rfl⟩ := hcs
      exact ⟨[], .inl ⟨rfl, rfl, rfl, rfl⟩⟩
    · simp [Value.cells] at hcs
      obtain ⟨rfl, rfl, rfl⟩ := hcs
      exact ⟨zs, .inr ⟨_, rfl, hl, hm, by simpa using hz, hcell, hwz⟩⟩
  obtain ⟨hvA, hvB⟩ := vars_of_laid hL
  clear hA0 hV0 hval0
  refine (walk a0 len0 cap0 z0 a1 len1 cap1 z1 W w0 w1 (first_of hvA) (table_of hvB)).mono fun e W' ⟨he, bel⟩ => ?_
  subst he
  obtain ⟨rfl, pv, hvs⟩ := vars_again (sp := fun b => decide (b < W.heap.size)) hvA hvB hV bel
  exact ⟨_, rfl, _, _, _, [], _, pv, hW', trodAll_mk1 (shut_bool Tryd.underlying4 _), (trodAll_cons_mk (Below.trod laidOut (by kernel_rfl) (of_decide_eq_true (by kernel_rfl)) k0 bel lt0) (trodAll_cons_mk (Below.trod laidOut (by kernel_rfl) (of_decide_eq_true (by kernel_rfl)) k1 bel lt1) trodAll_mk0)), hvs, bel.frame _, fun h => by cases h⟩

theorem said : Rows.FnGrowthSaid :=
  OpenClaim.holds_of_wide 4 Tryd.f4 rfl rfl rfl rfl rfl rfl rfl ⟨rfl, rfl, rfl, rfl, rfl⟩ rfl rfl rfl rfl rfl (by kernel_rfl) Tryd.func4 (by kernel_rfl)
    (of_decide_eq_true (by kernel_rfl)) (by unfold Func.isWrapper; first | (rw [if_pos (by decide +kernel)]; kernel_rfl) | (rw [if_neg (by decide +kernel)]; exact ⟨rfl, rfl⟩))
    (fun os started H enc _ => lifted os started H enc)

theorem plain (f : FuncId) (fn : Func) (hf : Tryd.pinned.checked.prog.funcNamed "loop.example/g00220/laws.FnGrowth" = some f) (hfn : Tryd.pinned.checked.prog.funcs[f]? = some fn) :
    false = Tryd.pinned.checked.prog.looks [] ∧ ∀ (j : Nat) t, fn.params[j]? = some t → Tryd.pinned.checked.prog.wantsStandIn t = false := by
  obtain rfl : f = 4 := Option.some.inj ((show Tryd.prog.funcNamed "loop.example/g00220/laws.FnGrowth" = some 4 by kernel_rfl).symm.trans hf) |>.symm
  obtain rfl : fn = Tryd.f4 := (Option.some.inj (Tryd.func4.symm.trans hfn)).symm
  refine ⟨by kernel_rfl, fun j t ht => ?_⟩
  rw [Tryd.params4] at ht
  obtain rfl : t = 22 := by
    have := Array.mem_of_getElem? ht
    simpa using this
  exact (show Tryd.prog.wantsStandIn 22 = false by kernel_rfl)
end Go.Proofs.YtnaoccndghnmpaaDoor.fnGrowth
namespace Go.Proofs.YtnaoccndghnmpaaDoor
theorem fnGrowth_card : Rows.FnGrowthCardSaid :=
  Claim7.holds_tied_plain_at .later [] _ _ _ _ fnGrowth.said (fun _ h => by cases h) (by kernel_rfl) (fun _ h => by cases h) fnGrowth_row_tie rfl ⟨rfl, rfl⟩ (by kernel_rfl) rfl fnGrowth.plain (by kernel_rfl)
#print axioms fnGrowth_card
end Go.Proofs.YtnaoccndghnmpaaDoor
