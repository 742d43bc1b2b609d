/- For every two lists of bytes that can be read, laws.FnMerkle returns true, both read as they did, and so do the two tables of words, which the card ties to the program's text. Condition: the listed tables start as the program's text lays them. -/
import Derived.Test.YtnaoccndghnmpaaDoorMkR
import Derived.Test.YtnaoccndghnmpaaDoorLvs
import Derived.Test.YtnaoccndghnmpaaDoorSameT
import Derived.Deep.RegionHeldLaw
import Derived.Test.YtnaoccndghnmpaaDoorLawG
import Derived.Test.YtnaoccndghnmpaaDoorCards
import Derived.Test.YtnaoccndghnmpaaDoorTie
namespace Go.Proofs.YtnaoccndghnmpaaDoor.fnMerkle
open Go.ChangeShapes Go.WideShapes Go.ChangeAt Go.RowKit Sha
open Go.ChangeMaps (open_string shut_string)
set_option linter.unusedVariables false
set_option linter.unusedSimpArgs false

theorem code_ok {L : List ByteArray} (h : L.length ≤ 64) (hA : AllH L) : codeL L = 0 := by
  unfold codeL; rw [if_neg (by omega), if_pos ⟨h, allH_yes hA⟩]
theorem small_of {L : List ByteArray} (hA : AllH L) (i : Nat) : (L.getD i ByteArray.empty).size ≤ 1048576 := by
  rcases Nat.lt_or_ge i L.length with h | h
  · rw [hA i h]; omega
  · rw [List.getD_eq_getElem?_getD, List.getElem?_eq_none h]; simp
theorem cfC (w : World) (t : ByteArray) : (w.alloc (.cells #[.string t] 9)).cell? ⟨w.heap.size, 0, none⟩ = some (.string t) := by rw [World.cell?_alloc_at _ _ _ _ rfl]; rfl
theorem cfA (w : World) (t : ByteArray) : ((w.alloc (.cells #[.string t] 9)).alloc (.cells #[] 9)).drew.cell? ⟨w.heap.size, 0, none⟩ = some (.string t) :=
  (World.cell?_alloc_lt _ _ _ (by simp)).trans (cfC w t)
theorem cfB (w : World) (t : ByteArray) : ((w.alloc (.cells #[] 9)).alloc (.cells #[.string t] 9)).drew.cell? ⟨w.heap.size + 1, 0, none⟩ = some (.string t) := by
  have h := cfC (w.alloc (.cells #[] 9)) t
  have e : (w.alloc (.cells #[] 9)).heap.size = w.heap.size + 1 := by simp
  rw [e] at h
  exact h
theorem newsOf {w : World} {X : Nat} {t : ByteArray} (h : w.cell? ⟨X, 0, none⟩ = some (.string t)) : ∀ j u, [Value.string t][j]? = some u → w.cell? ((⟨X, 0, none⟩ : Addr).add j) = some u := fun j u hu => by
  have hj : j = 0 := by
    rcases Nat.lt_or_ge j 1 with h1 | h1
    · omega
    · rw [List.getElem?_eq_none (by simpa using h1)] at hu; cases hu
  subst hj
  have hadd : (⟨X, 0, none⟩ : Addr).add 0 = ⟨X, 0, none⟩ := by unfold Addr.add; rfl
  rw [hadd, h]
  simpa using hu
/-- The first bytes of a slice as a text. -/
theorem conv_first {w : World} {a : Option Addr} {cap : Nat} {m : List Int} (h : Bytes w (.slice a m.length cap) m) (j : Nat) (hj : j ≤ m.length) :
    ∃ s : ByteArray, s.size = j ∧ (convert 22 9 (.slice a j cap)).run Tryd.prog w = .ok (.string s) w := by
  obtain ⟨a', cap', hv, hm, hc, hr⟩ := h
  simp only [Value.slice.injEq] at hv
  obtain ⟨rfl, _, rfl⟩ := hv
  by_cases h0 : j = 0
  · subst h0
    refine ⟨strOfNums [], rfl, ?_⟩
    cases a with
    | none => exact run_convert_bytes_nil w 22 5 Tryd.underlying22 Tryd.underlying5 0 cap 9 Tryd.underlying9
    | some x =>
      have hl : (loadCells x 0).run Tryd.prog w = .ok (([] : List Int).map (Value.int .u8)).toArray w := run_loadCells_list (P := Tryd.prog) w x [] (fun j v hj => by simp at hj)
      rw [run_convert_bytes_string w 22 9 5 _ 0 cap Tryd.underlying22 Tryd.underlying5 Tryd.underlying9, run_bytesToString w _ 0 cap [] hl]
      rfl
  · rcases hc with h | ⟨b, off, rfl, hlt, hcell⟩
    · omega
    · have htl : (m.take j).length = j := by rw [List.length_take]; omega
      refine ⟨strOfNums (m.take j), by simp [strOfNums, ByteArray.size]; omega, run_convert_bytes_arg (P := Tryd.prog) _ 22 5 Tryd.underlying22 Tryd.underlying5 b off j cap (m.take j) htl (fun i hi => ?_) 9 Tryd.underlying9⟩
      have e : (m.take j).getD i 0 = m.getD i 0 := by rw [List.getD_eq_getElem?_getD, List.getD_eq_getElem?_getD, List.getElem?_take, if_pos hi]
      rw [e]
      exact hcell i (by omega)
set_option maxRecDepth 100000 in
set_option maxHeartbeats 4000000 in
theorem walk0 (a : Option Addr) (cap : Nat) (l : List Int) (a2 : Option Addr) (cap2 : Nat) (m : List Int) (w : World) (h1 : Bytes w (.slice a l.length cap) l) (h2 : Bytes w (.slice a2 m.length cap2) m) (hcp : m.length ≤ cap2) (hcx : cap2 ≤ maxLen) (hf : First w) (ht : Table w) :
    Calls Tryd.prog 3 #[.slice a l.length cap, .slice a2 m.length cap2] w fun e w' => e = .returned (.bool true) ∧ Below w.heap.size w w' := by
  have HT := hide (show Tab w from ⟨hf, ht⟩)
  obtain ⟨i0, hi, hz0', hz1', hz2'⟩ := info_parts9
  have H1 := hide h1
  have H2 := hide h2
  have g1 : l.length ≤ 9223372036854775807 := by obtain ⟨_, _, _, hm1, _⟩ := h1; unfold maxLen at hm1; omega
  have g2 : m.length ≤ 9223372036854775807 := by unfold maxLen at hcx; omega
  have g3 : cap2 ≤ 9223372036854775807 := by unfold maxLen at hcx; omega
  have HCV := hide (fun wx (hx : Below w.heap.size w wx) => conv_first (h2.below hx))
  clear hf ht h1 h2 hcx
  go_enter Tryd.func3, Tryd.ntmps3
  by_cases hl : 1048576 < l.length
  · go_wp2_with fail
    go_ret
    exact ⟨rfl, Below.refl _ _⟩
  by_cases hmm : 1048576 < m.length
  · go_wp2_with fail
    go_ret
    exact ⟨rfl, Below.refl _ _⟩
  have HL := hide (leavesOf_any a cap l w (unhide H1) (by omega))
  go_wp2_with fail
  refine (unhide HL).mono ?_
  rintro e w1 ⟨g, c, L, rfl, hLn, hA, hO1, hb1⟩
  have O1 := hide hO1
  have B1 := hide hb1
  have HA := hide hA
  have HTR := hide (fun wx hx hy => implTree_any L g 0 c wx hx (small_of hA) hy)
  have HTS := hide (fun wx hx => specTree_any L g 0 c wx hx (small_of hA))
  have eT : treeOut L = .tuple #[.string (treeV L), .int .i64 0] := by unfold treeOut; rw [if_pos (code_ok (by omega) hA)]
  rw [eT] at HTR HTS
  clear hO1 hb1 hA eT HL
  go_wp2_with fail
  refine (unhide HTR w1 (SA.own (unhide O1)) ((unhide HT).below (unhide B1))).mono ?_
  rintro e w2 ⟨rfl, hb2⟩
  have B2 := hide ((unhide B1).trans (hb2.mono (unhide B1).size))
  have O2 := hide ((unhide O1).below hb2)
  clear hb2 O1 B1
  go_wp2_with fail
  refine (unhide HTS w2 (SA.own (unhide O2))).mono ?_
  rintro e w3 ⟨rfl, hb3⟩
  have B3 := hide ((unhide B2).trans (hb3.mono (unhide B2).size))
  have O3 := hide ((unhide O2).below hb3)
  clear hb3 O2 B2 HTR HTS
  by_cases h0 : L.length = 0
  · go_wp2_with fail
    go_ret
    exact ⟨rfl, unhide B3⟩
  have hAt := hide (at_all (.slice a2 m.length cap2) m 0 (L.length : Int) w3 ((unhide H2).below (unhide B3)) (by omega) (by omega) (by omega) (by omega))
  go_wp2_with fail
  refine (unhide hAt).mono ?_
  rintro e w4 ⟨ki, rfl, hk0, hk1, d, hd⟩
  obtain ⟨k, rfl⟩ : ∃ n : Nat, ki = (n : Int) := ⟨ki.toNat, by omega⟩
  have B4 : Hid (Below w.heap.size w w4) := hide (by rw [hd]; exact below_drewN (unhide B3) d)
  have O4 : Hid (OwnS w.heap.size w4 (.slice (some ⟨g, 0, none⟩) L.length c) L) := hide (by rw [hd]; exact (unhide O3).drewN d)
  clear hd hAt B3 O3
  have eI : incOut L (k : Int) = (pathV L k, 0) := by
    unfold incOut
    rw [if_pos (code_ok (by omega) (unhide HA)), if_pos (inB_yes (by omega) (by omega)), Int.toNat_natCast]
  have HII := hide (implInc_any L (k : Int) g 0 c w4 (SA.own (unhide O4)) (small_of (unhide HA)) ((unhide HT).below (unhide B4)))
  have HIS := hide (fun wx hx => specInc_any L (k : Int) g 0 c wx hx (small_of (unhide HA)))
  rw [eI] at HII HIS
  clear eI
  go_wp2_with fail
  refine (unhide HII).mono ?_
  rintro e w5 ⟨pv, rfl, hO5, hb5⟩
  have B5 := hide ((unhide B4).trans (hb5.mono (unhide B4).size))
  have O5 := hide ((unhide O4).below hb5)
  have P5 := hide hO5
  clear hO5 hb5 O4 HII
  go_wp2_with fail
  refine (unhide HIS w5 (SA.own (unhide O5))).mono ?_
  rintro e w6 ⟨sv, rfl, hO6, hb6⟩
  have B6 := hide ((unhide B5).trans (hb6.mono (unhide B5).size))
  have O6 := hide ((unhide O5).below hb6)
  have P6 := hide ((unhide P5).below hb6)
  have S6 := hide hO6
  clear hO6 hb6 O5 P5 B5 B4 HIS
  have c0 := (unhide O6).cell k (by omega)
  have k1 : (0 : Int) ≤ (k : Int) := by omega
  have k2 : (k : Int) < (L.length : Int) := by omega
  have hlk := (unhide HA) k (by omega)
  have HRG := hide (root_good (l := L) (n := L.length) (p := k) rfl (by omega) (by omega) (by omega) (unhide HA))
  have HRI := hide (fun B wx hx hy => implRoot_own (L := L) (n := L.length) (p := k) (leaf := L.getD k ByteArray.empty) (v := pv) (B := B) (w := wx) rfl (by omega) (by omega) (by omega) (unhide HA) hlk hx hy)
  rw [unhide HRG] at HRI
  have HRO := hide (fun leaf hlf B wx hx hy => implRoot_own (L := L) (n := L.length) (p := k) (leaf := leaf) (v := pv) (B := B) (w := wx) rfl (by omega) (by omega) (by omega) (unhide HA) hlf hx hy)
  have HRS := hide (fun leaf hlf B wx hx => specRoot_own (L := L) (n := L.length) (p := k) (leaf := leaf) (v := pv) (B := B) (w := wx) rfl (by omega) (by omega) (by omega) (unhide HA) hlf hx)
  have HMO := hide (fun leaf x hlf hx => root_more (l := L) (n := L.length) (p := k) (leaf := leaf) (x := x) rfl (by omega) (by omega) (by omega) (unhide HA) hlf hx)
  have hpl : (pathV L k).length ≤ 64 := by have := path_len L.length L k rfl; omega
  have HPH := hide (path_hash L.length L k rfl (by omega) (unhide HA))
  generalize hlv : L.getD k ByteArray.empty = lk at *
  clear HRG
  generalize treeV L = root at *
  generalize pathV L k = pth at *
  go_wp2_with fail
  refine (unhide HRI _ w6 (unhide P6) ((unhide HT).below (unhide B6))).mono ?_
  rintro e w7 ⟨rfl, hb7⟩
  have B7 := hide ((unhide B6).trans (hb7.mono (unhide B6).size))
  have O7 := hide ((unhide O6).below hb7)
  have P7 := hide ((unhide P6).below hb7)
  have S7 := hide ((unhide S6).below hb7)
  clear hb7 c0 O6 P6 S6 B6 HRI
  go_wp2_with fail
  refine (sameTexts_any pv sv pth w7 (unhide P7).strs (unhide S7).strs (by omega)).mono ?_
  rintro e w8 ⟨rfl, d8, hd8⟩
  have B8 : Hid (Below w.heap.size w w8) := hide (by rw [hd8]; exact below_drewN (unhide B7) d8)
  have O8 : Hid (OwnS w.heap.size w8 (.slice (some ⟨g, 0, none⟩) L.length c) L) := hide (by rw [hd8]; exact (unhide O7).drewN d8)
  have P8 : Hid (OwnS w4.heap.size w8 pv pth) := hide (by rw [hd8]; exact (unhide P7).drewN d8)
  clear hd8 O7 P7 S7 B7
  obtain ⟨j, hj9, hjm, hjmin⟩ : ∃ j : Nat, j ≤ 9 ∧ j ≤ m.length ∧ ((m.length < 9 ∧ j = m.length) ∨ (9 ≤ m.length ∧ j = 9)) := by
    rcases Nat.lt_or_ge m.length 9 with h | h
    · exact ⟨m.length, by omega, by omega, .inl ⟨h, rfl⟩⟩
    · exact ⟨9, by omega, by omega, .inr ⟨h, rfl⟩⟩
  obtain ⟨s, hs9, hcv⟩ := unhide HCV w8 (unhide B8) j hjm
  have hs' : s.size ≤ 9 := by omega
  have hsz : ((⟨#[97, 110, 111, 116, 104, 101, 114, 32, 111, 110, 101]⟩ : ByteArray) ++ s).size ≤ 20 := by
    rw [ByteArray.size_append]
    have : (⟨#[97, 110, 111, 116, 104, 101, 114, 32, 111, 110, 101]⟩ : ByteArray).size = 11 := rfl
    omega
  have HLH := hide (implLeaf_any ((⟨#[97, 110, 111, 116, 104, 101, 114, 32, 111, 110, 101]⟩ : ByteArray) ++ s) w8 (by omega) ((unhide HT).below (unhide B8)))
  have eLf : leafOut ((⟨#[97, 110, 111, 116, 104, 101, 114, 32, 111, 110, 101]⟩ : ByteArray) ++ s) = .tuple #[.string (leafV ((⟨#[97, 110, 111, 116, 104, 101, 114, 32, 111, 110, 101]⟩ : ByteArray) ++ s)), .int .i64 0] := by unfold leafOut; rw [if_neg (by omega)]
  rw [eLf] at HLH
  have hlf := leaf_size (a := (⟨#[97, 110, 111, 116, 104, 101, 114, 32, 111, 110, 101]⟩ : ByteArray) ++ s) (by omega)
  clear eLf hsz hs'
  rcases hjmin with ⟨hj1, rfl⟩ | ⟨hj1, rfl⟩
  · have q1 : (m.length : Int) < 9 := by omega
    go_wp2_with fail
    refine (unhide HLH).mono ?_
    rintro e w9 ⟨rfl, hb9⟩
    have B9 := hide ((unhide B8).trans (hb9.mono (unhide B8).size))
    have O9 := hide ((unhide O8).below hb9)
    have P9 := hide ((unhide P8).below hb9)
    clear hb9 O8 P8 B8 HLH hcv
    generalize leafV ((⟨#[97, 110, 111, 116, 104, 101, 114, 32, 111, 110, 101]⟩ : ByteArray) ++ s) = lf at *
    go_wp2_with fail
    refine (unhide HRO lf hlf _ w9 (unhide P9) ((unhide HT).below (unhide B9))).mono ?_
    rintro e w10 ⟨rfl, hb10⟩
    have B10 := hide ((unhide B9).trans (hb10.mono (unhide B9).size))
    have O10 := hide ((unhide O9).below hb10)
    have P10 := hide ((unhide P9).below hb10)
    clear hb10 O9 P9 B9
    go_wp2_with fail
    refine (unhide HRS lf hlf _ w10 (unhide P10)).mono ?_
    rintro e w11 ⟨rfl, hb11⟩
    have B11 := hide ((unhide B10).trans (hb11.mono (unhide B10).size))
    have O11 := hide ((unhide O10).below hb11)
    have P11 := hide ((unhide P10).below hb11)
    clear hb11 O10 P10 B10 HRO HRS
    generalize (rootOut lf (k : Int) (L.length : Int) pth).1 = ro at *
    have c0 := (unhide O11).cell k (by omega)
    rw [hlv] at c0
    have hg11 : g < w11.heap.size := ((unhide O11).lt g rfl).2
    have hne11 : w11.heap.size ≠ g := by omega
    have hne12 : w11.heap.size + 1 ≠ g := by omega
    have HTW := hide (fun wx (hx : Below w.heap.size w wx) => (unhide HT).below hx)
    have hpl1 : (pth ++ [lf]).length = pth.length + 1 := by simp
    have HRC := hide (fun gg cg wx hx hy => implRoot_any lk (k : Int) (L.length : Int) (pth ++ [lf]) gg 0 cg wx (by omega) (wf_small (by omega)) hx (small_of ((unhide HPH).push hlf)) hy)
    rw [unhide HMO lk lf hlk hlf, hpl1] at HRC
    go_wp2_with fail
    go_region_held_law (fun wx => wx.cell? ⟨g, k, none⟩ = some (.string lk)) (first | exact cc14 | exact cc13 | exact cc | exact (World.cell?_alloc_lt _ _ _ (Nat.lt_of_lt_of_le hg11 B12.size)).trans cc | go_keep | (trace_state; fail)) (first
      | (refine step_append_row (by rfl) _ _ _ (by rfl) w11.heap.size 9 i0 _ 1 16 Tryd.underlying23 hi hz0' hz1' hz2' rfl (by omega) (.slice (some ⟨w11.heap.size, 0, none⟩) 0 0) 0 [] (by rfl) (own_kept (T := fun _ => False) (owns_made' (base := w11.heap.size) (e := 9) w11 w11.heap.size rfl (Nat.le_refl _)) ((Touch.refl _ _).drewN 1) (fun _ _ h => h) : World.ownsRow (w11.alloc (.cells #[] 9)).drew w11.heap.size 9 1 (.slice (some ⟨w11.heap.size, 0, none⟩) 0 0) 0 []) pv pth.length (pth.map Value.string) (by rfl) ((unhide P11).below (below_drewN ((Below.refl _ w11).alloc (Nat.le_refl _) (.cells #[] 9)) 1 : Below w11.heap.size w11 (w11.alloc (.cells #[] 9)).drew)).strs.rw (by simp) (by simp [Value.oneCell']) (by unfold maxLen; omega) (by omega) ((below_drewN ((Below.refl _ w11).alloc (Nat.le_refl _) (.cells #[] 9)) 1 : Below w11.heap.size w11 (w11.alloc (.cells #[] 9)).drew).size) ?_; intro a12 c12 w12 hown12 hg12 hat12; rw [Nat.zero_add] at hown12 ⊢; rw [List.nil_append] at hown12; (have B12 : Below w11.heap.size w11 w12 := (below_drewN ((Below.refl _ w11).alloc (Nat.le_refl _) (.cells #[] 9)) 1 : Below w11.heap.size w11 (w11.alloc (.cells #[] 9)).drew).grown hg12 ((below_drewN ((Below.refl _ w11).alloc (Nat.le_refl _) (.cells #[] 9)) 1 : Below w11.heap.size w11 (w11.alloc (.cells #[] 9)).drew).size) (fun r hr => by cases hr; first | exact Nat.le_refl _ | exact Nat.le_succ _)); (have cc := (B12.cell (p := ⟨g, k, none⟩) hg11).trans c0))
      | (refine step_append_row (by rfl) _ _ _ (by rfl) w11.heap.size 9 i0 _ 1 16 Tryd.underlying23 hi hz0' hz1' hz2' rfl (by omega) (.slice (some ⟨w11.heap.size + 1, 0, none⟩) 0 0) 0 [] (by rfl) (own_kept (T := fun _ => False) (owns_made' (base := w11.heap.size) (e := 9) (w11.alloc (.cells #[.string lf] 9)) (w11.heap.size + 1) (by simp) (by simp)) ((Touch.refl _ _).drewN 1) (fun _ _ h => h) : World.ownsRow ((w11.alloc (.cells #[.string lf] 9)).alloc (.cells #[] 9)).drew w11.heap.size 9 1 (.slice (some ⟨w11.heap.size + 1, 0, none⟩) 0 0) 0 []) pv pth.length (pth.map Value.string) (by rfl) ((unhide P11).below (below_drewN (((Below.refl _ w11).alloc (Nat.le_refl _) (.cells #[.string lf] 9)).alloc (by simp) (.cells #[] 9)) 1 : Below w11.heap.size w11 ((w11.alloc (.cells #[.string lf] 9)).alloc (.cells #[] 9)).drew)).strs.rw (by simp) (by simp [Value.oneCell']) (by unfold maxLen; omega) (by omega) ((below_drewN (((Below.refl _ w11).alloc (Nat.le_refl _) (.cells #[.string lf] 9)).alloc (by simp) (.cells #[] 9)) 1 : Below w11.heap.size w11 ((w11.alloc (.cells #[.string lf] 9)).alloc (.cells #[] 9)).drew).size) ?_; intro a12 c12 w12 hown12 hg12 hat12; rw [Nat.zero_add] at hown12 ⊢; rw [List.nil_append] at hown12; (have B12 : Below w11.heap.size w11 w12 := (below_drewN (((Below.refl _ w11).alloc (Nat.le_refl _) (.cells #[.string lf] 9)).alloc (by simp) (.cells #[] 9)) 1 : Below w11.heap.size w11 ((w11.alloc (.cells #[.string lf] 9)).alloc (.cells #[] 9)).drew).grown hg12 ((below_drewN (((Below.refl _ w11).alloc (Nat.le_refl _) (.cells #[.string lf] 9)).alloc (by simp) (.cells #[] 9)) 1 : Below w11.heap.size w11 ((w11.alloc (.cells #[.string lf] 9)).alloc (.cells #[] 9)).drew).size) (fun r hr => by cases hr; first | exact Nat.le_refl _ | exact Nat.le_succ _)); (have cc := (B12.cell (p := ⟨g, k, none⟩) hg11).trans c0); (have cf := (((Touch.refl (fun q => q = w11.heap.size + 1) ((w11.alloc (.cells #[.string lf] 9)).alloc (.cells #[] 9)).drew).grown hg12 (fun q hq _ => by cases hq; rfl)).cell (p := ⟨w11.heap.size, 0, none⟩) (by simp; omega) (by simp)).trans (cfA w11 lf)))
      | (refine step_append_row (by rfl) _ _ _ (by rfl) w11.heap.size 9 i0 _ 1 16 Tryd.underlying23 hi hz0' hz1' hz2' rfl (by omega) (.slice (some ⟨w11.heap.size, 0, none⟩) 0 0) 0 [] (by rfl) (own_kept (T := fun _ => False) (owns_made' (base := w11.heap.size) (e := 9) w11 w11.heap.size rfl (Nat.le_refl _)) (((Touch.refl _ _).alloc (.cells #[.string lf] 9)).drewN 1) (fun _ _ h => h) : World.ownsRow ((w11.alloc (.cells #[] 9)).alloc (.cells #[.string lf] 9)).drew w11.heap.size 9 1 (.slice (some ⟨w11.heap.size, 0, none⟩) 0 0) 0 []) pv pth.length (pth.map Value.string) (by rfl) ((unhide P11).below (below_drewN (((Below.refl _ w11).alloc (Nat.le_refl _) (.cells #[] 9)).alloc (by simp) (.cells #[.string lf] 9)) 1 : Below w11.heap.size w11 ((w11.alloc (.cells #[] 9)).alloc (.cells #[.string lf] 9)).drew)).strs.rw (by simp) (by simp [Value.oneCell']) (by unfold maxLen; omega) (by omega) ((below_drewN (((Below.refl _ w11).alloc (Nat.le_refl _) (.cells #[] 9)).alloc (by simp) (.cells #[.string lf] 9)) 1 : Below w11.heap.size w11 ((w11.alloc (.cells #[] 9)).alloc (.cells #[.string lf] 9)).drew).size) ?_; intro a12 c12 w12 hown12 hg12 hat12; rw [Nat.zero_add] at hown12 ⊢; rw [List.nil_append] at hown12; (have B12 : Below w11.heap.size w11 w12 := (below_drewN (((Below.refl _ w11).alloc (Nat.le_refl _) (.cells #[] 9)).alloc (by simp) (.cells #[.string lf] 9)) 1 : Below w11.heap.size w11 ((w11.alloc (.cells #[] 9)).alloc (.cells #[.string lf] 9)).drew).grown hg12 ((below_drewN (((Below.refl _ w11).alloc (Nat.le_refl _) (.cells #[] 9)).alloc (by simp) (.cells #[.string lf] 9)) 1 : Below w11.heap.size w11 ((w11.alloc (.cells #[] 9)).alloc (.cells #[.string lf] 9)).drew).size) (fun r hr => by cases hr; first | exact Nat.le_refl _ | exact Nat.le_succ _)); (have cc := (B12.cell (p := ⟨g, k, none⟩) hg11).trans c0); (have cf := (((Touch.refl (fun q => q = w11.heap.size) ((w11.alloc (.cells #[] 9)).alloc (.cells #[.string lf] 9)).drew).grown hg12 (fun q hq _ => by cases hq; rfl)).cell (p := ⟨w11.heap.size + 1, 0, none⟩) (by simp) (by simp)).trans (cfB w11 lf)))
      | (refine step_append_lies _ (by rfl) _ _ _ (by rfl) w11.heap.size 9 i0 _ 1 16 Tryd.underlying23 hi hz0' hz1' hz2' rfl (by omega) (.slice a12 pth.length c12) pth.length (pth.map Value.string) (by rfl) (hown12) ⟨w11.heap.size, 0, none⟩ 1 1 [.string lf] (by rfl) (by rfl) (newsOf (cf)) (by simp [Value.oneCell']) (by omega) (by unfold maxLen; omega) (by omega) (B12.size) (w12.heap.size) (by simp) ?_; intro gg cg w13 hown13 hg13 hat13 hlt13; (have B13 : Below w11.heap.size w11 w13 := (B12).grown hg13 ((B12).size) (fun r hr => (World.ownsRow.lt hown12 r hr).1)); (have cc13 := (B13.cell (p := ⟨g, k, none⟩) hg11).trans c0); (have O13 : OwnS w11.heap.size w13 (.slice (some ⟨gg, 0, none⟩) (pth ++ [lf]).length cg) (pth ++ [lf]) := (by unfold OwnS; rw [hpl1, List.map_append]; exact hown13)))
      | (refine step_append_lies _ (by rfl) _ _ _ (by rfl) w11.heap.size 9 i0 _ 1 16 Tryd.underlying23 hi hz0' hz1' hz2' rfl (by omega) (.slice a12 pth.length c12) pth.length (pth.map Value.string) (by rfl) (hown12) ⟨w11.heap.size + 1, 0, none⟩ 1 1 [.string lf] (by rfl) (by rfl) (newsOf (cf)) (by simp [Value.oneCell']) (by omega) (by unfold maxLen; omega) (by omega) (B12.size) (w12.heap.size) (by simp) ?_; intro gg cg w13 hown13 hg13 hat13 hlt13; (have B13 : Below w11.heap.size w11 w13 := (B12).grown hg13 ((B12).size) (fun r hr => (World.ownsRow.lt hown12 r hr).1)); (have cc13 := (B13.cell (p := ⟨g, k, none⟩) hg11).trans c0); (have O13 : OwnS w11.heap.size w13 (.slice (some ⟨gg, 0, none⟩) (pth ++ [lf]).length cg) (pth ++ [lf]) := (by unfold OwnS; rw [hpl1, List.map_append]; exact hown13)))
      | (refine step_append_lies _ (by rfl) _ _ _ (by rfl) w11.heap.size 9 i0 _ 1 16 Tryd.underlying23 hi hz0' hz1' hz2' rfl (by omega) (.slice a12 pth.length c12) pth.length (pth.map Value.string) (by rfl) (own_kept (T := fun _ => False) hown12 ((Touch.refl _ _).alloc (.cells #[.string lf] 9)) (fun _ _ h => h)) ⟨w12.heap.size, 0, none⟩ 1 1 [.string lf] (by rfl) (by rfl) (newsOf (cfC w12 lf)) (by simp [Value.oneCell']) (by omega) (by unfold maxLen; omega) (by omega) ((B12.alloc B12.size (.cells #[.string lf] 9)).size) (w12.heap.size + 1) (by simp) ?_; intro gg cg w13 hown13 hg13 hat13 hlt13; (have B13 : Below w11.heap.size w11 w13 := (B12.alloc B12.size (.cells #[.string lf] 9)).grown hg13 ((B12.alloc B12.size (.cells #[.string lf] 9)).size) (fun r hr => (World.ownsRow.lt hown12 r hr).1)); (have cc13 := (B13.cell (p := ⟨g, k, none⟩) hg11).trans c0); (have O13 : OwnS w11.heap.size w13 (.slice (some ⟨gg, 0, none⟩) (pth ++ [lf]).length cg) (pth ++ [lf]) := (by unfold OwnS; rw [hpl1, List.map_append]; exact hown13)))
      | (go_at_call 12; refine (unhide HRC gg cg w13 (SA.own O13) (unhide HTW w13 ((unhide B11).trans (B13.mono (unhide B11).size)))).mono ?_; rintro e w14 ⟨rfl, hb14⟩; (have B14 : Below w.heap.size w w14 := ((unhide B11).trans (B13.mono (unhide B11).size)).trans (hb14.mono ((unhide B11).trans (B13.mono (unhide B11).size)).size)); (have cc14 := (hb14.cell (p := ⟨g, k, none⟩) (Nat.lt_of_lt_of_le hg11 B13.size)).trans cc13)))
    all_goals
      clear O11 P11
      go_wp2_with fail
      go_ret
      exact ⟨rfl, B14⟩
  · have q1 : ¬ (m.length : Int) < 9 := by omega
    have q2 : (9 : Int) ≤ (m.length : Int) := by omega
    have q3 : (9 : Int) ≤ (cap2 : Int) := by omega
    go_wp2_with fail
    refine (unhide HLH).mono ?_
    rintro e w9 ⟨rfl, hb9⟩
    have B9 := hide ((unhide B8).trans (hb9.mono (unhide B8).size))
    have O9 := hide ((unhide O8).below hb9)
    have P9 := hide ((unhide P8).below hb9)
    clear hb9 O8 P8 B8 HLH hcv
    generalize leafV ((⟨#[97, 110, 111, 116, 104, 101, 114, 32, 111, 110, 101]⟩ : ByteArray) ++ s) = lf at *
    go_wp2_with fail
    refine (unhide HRO lf hlf _ w9 (unhide P9) ((unhide HT).below (unhide B9))).mono ?_
    rintro e w10 ⟨rfl, hb10⟩
    have B10 := hide ((unhide B9).trans (hb10.mono (unhide B9).size))
    have O10 := hide ((unhide O9).below hb10)
    have P10 := hide ((unhide P9).below hb10)
    clear hb10 O9 P9 B9
    go_wp2_with fail
    refine (unhide HRS lf hlf _ w10 (unhide P10)).mono ?_
    rintro e w11 ⟨rfl, hb11⟩
    have B11 := hide ((unhide B10).trans (hb11.mono (unhide B10).size))
    have O11 := hide ((unhide O10).below hb11)
    have P11 := hide ((unhide P10).below hb11)
    clear hb11 O10 P10 B10 HRO HRS
    generalize (rootOut lf (k : Int) (L.length : Int) pth).1 = ro at *
    have c0 := (unhide O11).cell k (by omega)
    rw [hlv] at c0
    have hg11 : g < w11.heap.size := ((unhide O11).lt g rfl).2
    have hne11 : w11.heap.size ≠ g := by omega
    have hne12 : w11.heap.size + 1 ≠ g := by omega
    have HTW := hide (fun wx (hx : Below w.heap.size w wx) => (unhide HT).below hx)
    have hpl1 : (pth ++ [lf]).length = pth.length + 1 := by simp
    have HRC := hide (fun gg cg wx hx hy => implRoot_any lk (k : Int) (L.length : Int) (pth ++ [lf]) gg 0 cg wx (by omega) (wf_small (by omega)) hx (small_of ((unhide HPH).push hlf)) hy)
    rw [unhide HMO lk lf hlk hlf, hpl1] at HRC
    go_wp2_with fail
    go_region_held_law (fun wx => wx.cell? ⟨g, k, none⟩ = some (.string lk)) (first | exact cc14 | exact cc13 | exact cc | exact (World.cell?_alloc_lt _ _ _ (Nat.lt_of_lt_of_le hg11 B12.size)).trans cc | go_keep | (trace_state; fail)) (first
      | (refine step_append_row (by rfl) _ _ _ (by rfl) w11.heap.size 9 i0 _ 1 16 Tryd.underlying23 hi hz0' hz1' hz2' rfl (by omega) (.slice (some ⟨w11.heap.size, 0, none⟩) 0 0) 0 [] (by rfl) (own_kept (T := fun _ => False) (owns_made' (base := w11.heap.size) (e := 9) w11 w11.heap.size rfl (Nat.le_refl _)) ((Touch.refl _ _).drewN 1) (fun _ _ h => h) : World.ownsRow (w11.alloc (.cells #[] 9)).drew w11.heap.size 9 1 (.slice (some ⟨w11.heap.size, 0, none⟩) 0 0) 0 []) pv pth.length (pth.map Value.string) (by rfl) ((unhide P11).below (below_drewN ((Below.refl _ w11).alloc (Nat.le_refl _) (.cells #[] 9)) 1 : Below w11.heap.size w11 (w11.alloc (.cells #[] 9)).drew)).strs.rw (by simp) (by simp [Value.oneCell']) (by unfold maxLen; omega) (by omega) ((below_drewN ((Below.refl _ w11).alloc (Nat.le_refl _) (.cells #[] 9)) 1 : Below w11.heap.size w11 (w11.alloc (.cells #[] 9)).drew).size) ?_; intro a12 c12 w12 hown12 hg12 hat12; rw [Nat.zero_add] at hown12 ⊢; rw [List.nil_append] at hown12; (have B12 : Below w11.heap.size w11 w12 := (below_drewN ((Below.refl _ w11).alloc (Nat.le_refl _) (.cells #[] 9)) 1 : Below w11.heap.size w11 (w11.alloc (.cells #[] 9)).drew).grown hg12 ((below_drewN ((Below.refl _ w11).alloc (Nat.le_refl _) (.cells #[] 9)) 1 : Below w11.heap.size w11 (w11.alloc (.cells #[] 9)).drew).size) (fun r hr => by cases hr; first | exact Nat.le_refl _ | exact Nat.le_succ _)); (have cc := (B12.cell (p := ⟨g, k, none⟩) hg11).trans c0))
      | (refine step_append_row (by rfl) _ _ _ (by rfl) w11.heap.size 9 i0 _ 1 16 Tryd.underlying23 hi hz0' hz1' hz2' rfl (by omega) (.slice (some ⟨w11.heap.size + 1, 0, none⟩) 0 0) 0 [] (by rfl) (own_kept (T := fun _ => False) (owns_made' (base := w11.heap.size) (e := 9) (w11.alloc (.cells #[.string lf] 9)) (w11.heap.size + 1) (by simp) (by simp)) ((Touch.refl _ _).drewN 1) (fun _ _ h => h) : World.ownsRow ((w11.alloc (.cells #[.string lf] 9)).alloc (.cells #[] 9)).drew w11.heap.size 9 1 (.slice (some ⟨w11.heap.size + 1, 0, none⟩) 0 0) 0 []) pv pth.length (pth.map Value.string) (by rfl) ((unhide P11).below (below_drewN (((Below.refl _ w11).alloc (Nat.le_refl _) (.cells #[.string lf] 9)).alloc (by simp) (.cells #[] 9)) 1 : Below w11.heap.size w11 ((w11.alloc (.cells #[.string lf] 9)).alloc (.cells #[] 9)).drew)).strs.rw (by simp) (by simp [Value.oneCell']) (by unfold maxLen; omega) (by omega) ((below_drewN (((Below.refl _ w11).alloc (Nat.le_refl _) (.cells #[.string lf] 9)).alloc (by simp) (.cells #[] 9)) 1 : Below w11.heap.size w11 ((w11.alloc (.cells #[.string lf] 9)).alloc (.cells #[] 9)).drew).size) ?_; intro a12 c12 w12 hown12 hg12 hat12; rw [Nat.zero_add] at hown12 ⊢; rw [List.nil_append] at hown12; (have B12 : Below w11.heap.size w11 w12 := (below_drewN (((Below.refl _ w11).alloc (Nat.le_refl _) (.cells #[.string lf] 9)).alloc (by simp) (.cells #[] 9)) 1 : Below w11.heap.size w11 ((w11.alloc (.cells #[.string lf] 9)).alloc (.cells #[] 9)).drew).grown hg12 ((below_drewN (((Below.refl _ w11).alloc (Nat.le_refl _) (.cells #[.string lf] 9)).alloc (by simp) (.cells #[] 9)) 1 : Below w11.heap.size w11 ((w11.alloc (.cells #[.string lf] 9)).alloc (.cells #[] 9)).drew).size) (fun r hr => by cases hr; first | exact Nat.le_refl _ | exact Nat.le_succ _)); (have cc := (B12.cell (p := ⟨g, k, none⟩) hg11).trans c0); (have cf := (((Touch.refl (fun q => q = w11.heap.size + 1) ((w11.alloc (.cells #[.string lf] 9)).alloc (.cells #[] 9)).drew).grown hg12 (fun q hq _ => by cases hq; rfl)).cell (p := ⟨w11.heap.size, 0, none⟩) (by simp; omega) (by simp)).trans (cfA w11 lf)))
      | (refine step_append_row (by rfl) _ _ _ (by rfl) w11.heap.size 9 i0 _ 1 16 Tryd.underlying23 hi hz0' hz1' hz2' rfl (by omega) (.slice (some ⟨w11.heap.size, 0, none⟩) 0 0) 0 [] (by rfl) (own_kept (T := fun _ => False) (owns_made' (base := w11.heap.size) (e := 9) w11 w11.heap.size rfl (Nat.le_refl _)) (((Touch.refl _ _).alloc (.cells #[.string lf] 9)).drewN 1) (fun _ _ h => h) : World.ownsRow ((w11.alloc (.cells #[] 9)).alloc (.cells #[.string lf] 9)).drew w11.heap.size 9 1 (.slice (some ⟨w11.heap.size, 0, none⟩) 0 0) 0 []) pv pth.length (pth.map Value.string) (by rfl) ((unhide P11).below (below_drewN (((Below.refl _ w11).alloc (Nat.le_refl _) (.cells #[] 9)).alloc (by simp) (.cells #[.string lf] 9)) 1 : Below w11.heap.size w11 ((w11.alloc (.cells #[] 9)).alloc (.cells #[.string lf] 9)).drew)).strs.rw (by simp) (by simp [Value.oneCell']) (by unfold maxLen; omega) (by omega) ((below_drewN (((Below.refl _ w11).alloc (Nat.le_refl _) (.cells #[] 9)).alloc (by simp) (.cells #[.string lf] 9)) 1 : Below w11.heap.size w11 ((w11.alloc (.cells #[] 9)).alloc (.cells #[.string lf] 9)).drew).size) ?_; intro a12 c12 w12 hown12 hg12 hat12; rw [Nat.zero_add] at hown12 ⊢; rw [List.nil_append] at hown12; (have B12 : Below w11.heap.size w11 w12 := (below_drewN (((Below.refl _ w11).alloc (Nat.le_refl _) (.cells #[] 9)).alloc (by simp) (.cells #[.string lf] 9)) 1 : Below w11.heap.size w11 ((w11.alloc (.cells #[] 9)).alloc (.cells #[.string lf] 9)).drew).grown hg12 ((below_drewN (((Below.refl _ w11).alloc (Nat.le_refl _) (.cells #[] 9)).alloc (by simp) (.cells #[.string lf] 9)) 1 : Below w11.heap.size w11 ((w11.alloc (.cells #[] 9)).alloc (.cells #[.string lf] 9)).drew).size) (fun r hr => by cases hr; first | exact Nat.le_refl _ | exact Nat.le_succ _)); (have cc := (B12.cell (p := ⟨g, k, none⟩) hg11).trans c0); (have cf := (((Touch.refl (fun q => q = w11.heap.size) ((w11.alloc (.cells #[] 9)).alloc (.cells #[.string lf] 9)).drew).grown hg12 (fun q hq _ => by cases hq; rfl)).cell (p := ⟨w11.heap.size + 1, 0, none⟩) (by simp) (by simp)).trans (cfB w11 lf)))
      | (refine step_append_lies _ (by rfl) _ _ _ (by rfl) w11.heap.size 9 i0 _ 1 16 Tryd.underlying23 hi hz0' hz1' hz2' rfl (by omega) (.slice a12 pth.length c12) pth.length (pth.map Value.string) (by rfl) (hown12) ⟨w11.heap.size, 0, none⟩ 1 1 [.string lf] (by rfl) (by rfl) (newsOf (cf)) (by simp [Value.oneCell']) (by omega) (by unfold maxLen; omega) (by omega) (B12.size) (w12.heap.size) (by simp) ?_; intro gg cg w13 hown13 hg13 hat13 hlt13; (have B13 : Below w11.heap.size w11 w13 := (B12).grown hg13 ((B12).size) (fun r hr => (World.ownsRow.lt hown12 r hr).1)); (have cc13 := (B13.cell (p := ⟨g, k, none⟩) hg11).trans c0); (have O13 : OwnS w11.heap.size w13 (.slice (some ⟨gg, 0, none⟩) (pth ++ [lf]).length cg) (pth ++ [lf]) := (by unfold OwnS; rw [hpl1, List.map_append]; exact hown13)))
      | (refine step_append_lies _ (by rfl) _ _ _ (by rfl) w11.heap.size 9 i0 _ 1 16 Tryd.underlying23 hi hz0' hz1' hz2' rfl (by omega) (.slice a12 pth.length c12) pth.length (pth.map Value.string) (by rfl) (hown12) ⟨w11.heap.size + 1, 0, none⟩ 1 1 [.string lf] (by rfl) (by rfl) (newsOf (cf)) (by simp [Value.oneCell']) (by omega) (by unfold maxLen; omega) (by omega) (B12.size) (w12.heap.size) (by simp) ?_; intro gg cg w13 hown13 hg13 hat13 hlt13; (have B13 : Below w11.heap.size w11 w13 := (B12).grown hg13 ((B12).size) (fun r hr => (World.ownsRow.lt hown12 r hr).1)); (have cc13 := (B13.cell (p := ⟨g, k, none⟩) hg11).trans c0); (have O13 : OwnS w11.heap.size w13 (.slice (some ⟨gg, 0, none⟩) (pth ++ [lf]).length cg) (pth ++ [lf]) := (by unfold OwnS; rw [hpl1, List.map_append]; exact hown13)))
      | (refine step_append_lies _ (by rfl) _ _ _ (by rfl) w11.heap.size 9 i0 _ 1 16 Tryd.underlying23 hi hz0' hz1' hz2' rfl (by omega) (.slice a12 pth.length c12) pth.length (pth.map Value.string) (by rfl) (own_kept (T := fun _ => False) hown12 ((Touch.refl _ _).alloc (.cells #[.string lf] 9)) (fun _ _ h => h)) ⟨w12.heap.size, 0, none⟩ 1 1 [.string lf] (by rfl) (by rfl) (newsOf (cfC w12 lf)) (by simp [Value.oneCell']) (by omega) (by unfold maxLen; omega) (by omega) ((B12.alloc B12.size (.cells #[.string lf] 9)).size) (w12.heap.size + 1) (by simp) ?_; intro gg cg w13 hown13 hg13 hat13 hlt13; (have B13 : Below w11.heap.size w11 w13 := (B12.alloc B12.size (.cells #[.string lf] 9)).grown hg13 ((B12.alloc B12.size (.cells #[.string lf] 9)).size) (fun r hr => (World.ownsRow.lt hown12 r hr).1)); (have cc13 := (B13.cell (p := ⟨g, k, none⟩) hg11).trans c0); (have O13 : OwnS w11.heap.size w13 (.slice (some ⟨gg, 0, none⟩) (pth ++ [lf]).length cg) (pth ++ [lf]) := (by unfold OwnS; rw [hpl1, List.map_append]; exact hown13)))
      | (go_at_call 12; refine (unhide HRC gg cg w13 (SA.own O13) (unhide HTW w13 ((unhide B11).trans (B13.mono (unhide B11).size)))).mono ?_; rintro e w14 ⟨rfl, hb14⟩; (have B14 : Below w.heap.size w w14 := ((unhide B11).trans (B13.mono (unhide B11).size)).trans (hb14.mono ((unhide B11).trans (B13.mono (unhide B11).size)).size)); (have cc14 := (hb14.cell (p := ⟨g, k, none⟩) (Nat.lt_of_lt_of_le hg11 B13.size)).trans cc13)))
    all_goals
      clear O11 P11
      go_wp2_with fail
      go_ret
      exact ⟨rfl, B14⟩
theorem walk (a0 : Option Addr) (len0 cap0 : Nat) (z0 : List Int) (a1 : Option Addr) (len1 cap1 : Nat) (z1 : List Int) (w : World) (w0 : IsRow .u8 w a0 len0 cap0 z0) (w1 : IsRow .u8 w a1 len1 cap1 z1) (hf : First w) (ht : Table w) :
    Calls Tryd.prog 3 #[.slice a0 len0 cap0, .slice a1 len1 cap1] w fun e w' => e = .returned (.bool true) ∧ Below w.heap.size w w' := by
  have b0 := bytes_of_row w0
  have b1 := bytes_of_row w1
  have l0 : (z0.take len0).length = len0 := by
    rcases w0 with ⟨_, rfl, _, rfl⟩ | ⟨x, _, hl, hm, hz, _⟩
    · rfl
    · rw [List.length_take]; omega
  have l1 : (z1.take len1).length = len1 ∧ len1 ≤ cap1 ∧ cap1 ≤ maxLen := by
    rcases w1 with ⟨_, rfl, rfl, rfl⟩ | ⟨x, _, hl, hm, hz, _⟩
    · exact ⟨rfl, Nat.le_refl _, by unfold maxLen; omega⟩
    · exact ⟨by rw [List.length_take]; omega, hl, hm⟩
  have h := walk0 a0 cap0 (z0.take len0) a1 cap1 (z1.take len1) w (by rw [l0]; exact b0) (by rw [l1.1]; exact b1) (by rw [l1.1]; exact l1.2.1) l1.2.2 hf ht
  rw [l0, l1.1] at h
  exact h

theorem vars_of_laid {W : World} (h : laidMetH Tryd.prog Rows.fnMerkleRow.laid W) :
    W.var? Tryd.prog "loop.example/g00220/impl.firstWords" = some firstCells ∧ W.var? Tryd.prog "loop.example/g00220/impl.roundWords" = some roundCells := by
  rw [MakeChecks.laidMetH_plain _ _ _ (by kernel_rfl)] at h
  obtain ⟨ps, ⟨g0, t0, cs0, f0, p0, q0, hg0, ht0, hv0, hd0, ⟨g1, t1, cs1, f1, p1, q1, hg1, ht1, hv1, hd1, _, _⟩, _⟩, _, _⟩ := h
  obtain rfl := Option.some.inj (gFirst.symm.trans hg0)
  obtain rfl := Option.some.inj (gRound.symm.trans hg1)
  obtain rfl := Option.some.inj (gFirstType.symm.trans ht0)
  obtain rfl := Option.some.inj (gRoundType.symm.trans ht1)
  have e0 := Lib.cells_of_tab (k := .u32) (cs := cs0.toList) (zs := iL.map fun (n : Nat) => (n : Int)) Tryd.underlying101 Tryd.underlying100 cellsE cellsA hd0
  have e1 := Lib.cells_of_tab (k := .u32) (cs := cs1.toList) (zs := kL.map fun (n : Nat) => (n : Int)) Tryd.underlying105 Tryd.underlying100 cellsE cellsB hd1
  have a0 : cs0 = firstCells := by
    have : cs0.toList = firstCells.toList := e0.trans (by kernel_rfl)
    exact Array.toList_inj.1 this
  have a1 : cs1 = roundCells := by
    have : cs1.toList = roundCells.toList := e1.trans (by kernel_rfl)
    exact Array.toList_inj.1 this
  exact ⟨by rw [hv0, a0], by rw [hv1, a1]⟩
theorem door_met (os : Os) (args : Array Value) : laidMetH Tryd.prog Rows.fnMerkleRow.laid ((World.doorLaid Tryd.prog 19 os).forCall (fun _ _ => 0) ⟨#[], args, []⟩).memory :=
  laidMetH_of_parts3 (fuel := 8) (laidMet_of_run' 8 (by kernel_rfl) (by kernel_rfl)) (by kernel_rfl) (by kernel_rfl)
set_option maxRecDepth 100000 in
theorem lifted (os : Os) (started : os.Started) (H : Type) (enc : TypeId × Value → H) :
    ReturnsInHanded {} Tryd.checked os 3 .any (fun w args => (Rows.fnMerkleSpec.pre enc Tryd.prog Tryd.f3 [] false w args ∧ laidMetH Tryd.prog Rows.fnMerkleRow.laid w) ∧ sizedMet enc Tryd.prog Tryd.f3 (OpenSpec.ofChange Rows.fnMerkleSpec) false w args)
      (Rows.fnMerkleSpec.post enc Tryd.prog Tryd.f3 false true false false) := by
  refine returnsInHanded_of_change_and (C := Tryd.checked) (X := fun w _ => laidMetH Tryd.prog Rows.fnMerkleRow.laid w) (fun _ _ _ hh h => h.of_heap hh) own started (by kernel_rfl) Tryd.func3
    (ChangeSpec.witness_shaped (enc := enc) (C := Tryd.checked) (os := os) (X := fun w _ => laidMetH Tryd.prog Rows.fnMerkleRow.laid w) false (World.doorLaid Tryd.prog 19 os) #[.slice none 0 0, .slice none 0 0] 8 rfl (World.shaped_of_RefB (by kernel_rfl) (by kernel_rfl)) (by kernel_rfl) (by kernel_rfl) (by kernel_rfl) (door_met os _)) ?_
  intro W base args ds gs before hval0 hW _ _ hL _
  have hval : ∀ (j : Nat) t v, Tryd.f3.params[j]? = some t → args[j]? = some v → Value.okWide Tryd.prog W .any base t v := hval0
  have hW' := hW
  obtain ⟨p, q, hA0, hV0, rfl, hfz, hnd⟩ := hW
  have hA : DataW.TrodAll enc Tryd.prog W 0 (fun _ => true) true Tryd.f3.params.toList args.toList ds p := hA0
  have hV : DataW.TrodVars enc Tryd.prog W (fun _ => true) ["loop.example/g00220/impl.firstWords", "loop.example/g00220/impl.roundWords"] gs q := hV0
  rw [Tryd.params3] at hA hval
  obtain ⟨v0, vs0, d0, ds0, p0, q0, hargs, rfl, rfl, h0, r0⟩ := trodAll_cons hA
  obtain ⟨v1, vs1, d1, ds1, p1, q1, rfl, rfl, rfl, h1, r1⟩ := trodAll_cons r0
  obtain ⟨rfl, rfl, rfl⟩ := trodAll_nil r1
  obtain rfl : args = #[v0, v1] := by cases args; simp_all
  have k0 := h0
  have lt0 : ∀ x ∈ p0, x.block < W.heap.size := by obtain ⟨m, hm⟩ := k0; exact DataW.trod_lt m _ _ _ hm
  obtain ⟨a0, len0, cap0, rfl⟩ := okWide_slice Tryd.underlying22 (hval 0 22 v0 rfl rfl)
  obtain ⟨z0, w0⟩ : ∃ zs, IsRow .u8 W a0 len0 cap0 zs := by
    obtain ⟨fuel, hf⟩ := h0
    rcases open_ints Tryd.underlying22 Tryd.underlying5 (by kernel_rfl) hf with ⟨hcs, _⟩ | ⟨x, l, c, zs, hcs, _, hl, hm, hz, _, hcell, hwz⟩
    · simp [Value.cells] at hcs
      obtain ⟨rfl, rfl, rfl⟩ := hcs
      exact ⟨[], .inl ⟨rfl, rfl, rfl, rfl⟩⟩
    · simp [Value.cells] at hcs
      obtain ⟨rfl, rfl, rfl⟩ := hcs
      exact ⟨zs, .inr ⟨_, rfl, hl, hm, by simpa using hz, hcell, hwz⟩⟩
  have k1 := h1
  have lt1 : ∀ x ∈ p1, x.block < W.heap.size := by obtain ⟨m, hm⟩ := k1; exact DataW.trod_lt m _ _ _ hm
  obtain ⟨a1, len1, cap1, rfl⟩ := okWide_slice Tryd.underlying22 (hval 1 22 v1 rfl rfl)
  obtain ⟨z1, w1⟩ : ∃ zs, IsRow .u8 W a1 len1 cap1 zs := by
    obtain ⟨fuel, hf⟩ := h1
    rcases open_ints Tryd.underlying22 Tryd.underlying5 (by kernel_rfl) hf with ⟨hcs, _⟩ | ⟨x, l, c, zs, hcs, _, hl, hm, hz, _, hcell, hwz⟩
    · simp [Value.cells] at hcs
      obtain ⟨rfl, rfl, rfl⟩ := hcs
      exact ⟨[], .inl ⟨rfl, rfl, rfl, rfl⟩⟩
    · simp [Value.cells] at hcs
      obtain ⟨rfl, rfl, rfl⟩ := hcs
      exact ⟨zs, .inr ⟨_, rfl, hl, hm, by simpa using hz, hcell, hwz⟩⟩
  obtain ⟨hvA, hvB⟩ := vars_of_laid hL
  clear hA0 hV0 hval0
  refine (walk a0 len0 cap0 z0 a1 len1 cap1 z1 W w0 w1 (first_of hvA) (table_of hvB)).mono fun e W' ⟨he, bel⟩ => ?_
  subst he
  obtain ⟨rfl, pv, hvs⟩ := vars_again (sp := fun b => decide (b < W.heap.size)) hvA hvB hV bel
  exact ⟨_, rfl, _, _, _, [], _, pv, hW', trodAll_mk1 (shut_bool Tryd.underlying4 _), (trodAll_cons_mk (Below.trod laidOut (by kernel_rfl) (of_decide_eq_true (by kernel_rfl)) k0 bel lt0) (trodAll_cons_mk (Below.trod laidOut (by kernel_rfl) (of_decide_eq_true (by kernel_rfl)) k1 bel lt1) trodAll_mk0)), hvs, bel.frame _, fun h => by cases h⟩

theorem said : Rows.FnMerkleSaid :=
  OpenClaim.holds_of_wide 3 Tryd.f3 rfl rfl rfl rfl rfl rfl rfl ⟨rfl, rfl, rfl, rfl, rfl⟩ rfl rfl rfl rfl rfl (by kernel_rfl) Tryd.func3 (by kernel_rfl)
    (of_decide_eq_true (by kernel_rfl)) (by unfold Func.isWrapper; first | (rw [if_pos (by decide +kernel)]; kernel_rfl) | (rw [if_neg (by decide +kernel)]; exact ⟨rfl, rfl⟩))
    (fun os started H enc _ => lifted os started H enc)

theorem plain (f : FuncId) (fn : Func) (hf : Tryd.pinned.checked.prog.funcNamed "loop.example/g00220/laws.FnMerkle" = some f) (hfn : Tryd.pinned.checked.prog.funcs[f]? = some fn) :
    false = Tryd.pinned.checked.prog.looks [] ∧ ∀ (j : Nat) t, fn.params[j]? = some t → Tryd.pinned.checked.prog.wantsStandIn t = false := by
  obtain rfl : f = 3 := Option.some.inj ((show Tryd.prog.funcNamed "loop.example/g00220/laws.FnMerkle" = some 3 by kernel_rfl).symm.trans hf) |>.symm
  obtain rfl : fn = Tryd.f3 := (Option.some.inj (Tryd.func3.symm.trans hfn)).symm
  refine ⟨by kernel_rfl, fun j t ht => ?_⟩
  rw [Tryd.params3] at ht
  obtain rfl : t = 22 := by
    have := Array.mem_of_getElem? ht
    simpa using this
  exact (show Tryd.prog.wantsStandIn 22 = false by kernel_rfl)
end Go.Proofs.YtnaoccndghnmpaaDoor.fnMerkle
namespace Go.Proofs.YtnaoccndghnmpaaDoor
theorem fnMerkle_card : Rows.FnMerkleCardSaid :=
  Claim7.holds_tied_plain_at .later [] _ _ _ _ fnMerkle.said (fun _ h => by cases h) (by kernel_rfl) (fun _ h => by cases h) fnMerkle_row_tie rfl ⟨rfl, rfl⟩ (by kernel_rfl) rfl fnMerkle.plain (by kernel_rfl)
#print axioms fnMerkle_card
end Go.Proofs.YtnaoccndghnmpaaDoor
