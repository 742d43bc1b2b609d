/- Histories: orders that may have been: impl.legalOrder, OrderLegal, walked. -/
import Derived.Test.YtedfidpmehamdaaHiD
namespace Go.Proofs.Ytedfidpmehamdaa
open Go.ChangeShapes Go.WideShapes Go.ChangeAt Go.RowKit Go.Deep
set_option linter.unusedVariables false
set_option linter.unusedSimpArgs false

/-- The rest of an order may go on behind its beginning, as the program asks. -/
def legI (l : List Op) : List Int → ByteArray → List Int → Bool
  | dn, _, [] => wholeB l dn
  | dn, va, p :: r => mayB l dn va p.toNat && legI l (dn ++ [p]) (nextV (l.getD p.toNat default) va) r
theorem drop_cons {od : List Int} {k : Nat} (h : k < od.length) : od.drop k = od.getD k 0 :: od.drop (k + 1) := by
  rw [List.drop_eq_getElem_cons h, List.getD_eq_getElem?_getD, List.getElem?_eq_getElem h]; rfl
theorem take_snoc {od : List Int} {k : Nat} (h : k < od.length) : od.take (k + 1) = od.take k ++ [od.getD k 0] := by
  rw [List.take_succ_eq_append_getElem h, List.getD_eq_getElem?_getD, List.getElem?_eq_getElem h]; rfl
set_option maxRecDepth 100000 in
set_option maxHeartbeats 2000000 in
theorem legalOrder_any (la : Option Addr) (lc : Nat) (l : List Op) (oa : Option Addr) (oc : Nat) (od : List Int) (w : World) (hl : Ops w (.slice la l.length lc) l) (hs : opsB l = true) (h : Ints w (.slice oa od.length oc) od) (ho : od.length ≤ 7) (hin : ∀ i, i < od.length → 0 ≤ od.getD i 0 ∧ od.getD i 0 < (l.length : Int)) :
    Calls Try.prog 29 #[.slice la l.length lc, .slice oa od.length oc] w fun e w' => e = .returned (.bool (legI l [] ⟨#[]⟩ od)) ∧ Below w.heap.size w w' := by
  have hl7 := (opsB_at hs).1
  have HOP := hide (fun wx (hb : Below w.heap.size w wx) => hl.below hb)
  have HWH := hide (fun (wx : World) (hb : Below w.heap.size w wx) ova ovn ovc va o (hi : Ints wx (.slice ova ovn ovc) o) (h4 : o.length ≤ 4096) => whole_any la lc l ova ovn ovc va o wx (hl.below hb) hs hi h4)
  have HMT := hide (fun (wx : World) (hb : Below w.heap.size w wx) ova ovn ovc va o p (hp : p < l.length) (hi : Ints wx (.slice ova ovn ovc) o) (h4 : o.length ≤ 4096) => mayTake_any la lc l ova ovn ovc va o p hp wx (hl.below hb) hs hi h4)
  have HWI := hide (fun (wx : World) (hb : Below w.heap.size w wx) ov va o p (hp : p < l.length) (hi : OrdV wx ov o) (h4 : o.length ≤ 4096) => with_any la lc l ov va o p hp wx (hl.below hb) hi h4 hl7)
  have HIN := hide hin
  obtain ⟨a', c', e9, hm, hc⟩ := h
  simp only [Value.slice.injEq] at e9
  obtain ⟨rfl, _, rfl⟩ := e9
  have HC := hide hc
  clear hc hm hl hs hin
  have B0 := hide ((Below.refl w.heap.size w).alloc (Nat.le_refl _) (.cells #[.slice la l.length lc, .slice none 0 0, .string ⟨#[]⟩] 65))
  have X0 := hide (Blk.new w #[.slice la l.length lc, .slice none 0 0, .string ⟨#[]⟩] 65 w.heap.size rfl)
  go_enter Try.func29, Try.ntmps29
  go_wp2_with fail
  generalize w.alloc (.cells #[.slice la l.length lc, .slice none 0 0, .string ⟨#[]⟩] 65) = w0 at *
  go_loopw [12] (fun i wr => ∃ (k : Nat) (va : ByteArray) (ova : Option Addr) (ovc : Nat), k ≤ od.length ∧ i = .int .i64 k ∧ Hid (legI l [] ⟨#[]⟩ od = legI l (od.take k) va (od.drop k)) ∧ Blk wr w.heap.size [.slice la l.length lc, .slice ova k ovc, .string va] ∧ OrdV wr (.slice ova k ovc) (od.take k) ∧ Below w.heap.size w wr) (fun i _ => od.length - (intOf i).toNat)
  case atStart => exact ⟨0, ⟨#[]⟩, none, 0, Nat.zero_le _, rfl, rfl, unhide X0, .inl ⟨rfl, rfl⟩, unhide B0⟩
  case round =>
    obtain ⟨k, va, ova, ovc, hk, rfl, HL, hX, hO, hb⟩ := hrel
    have hlk : (od.take k).length = k := by rw [List.length_take]; omega
    by_cases hlt : k < od.length
    · obtain ⟨b, off, rfl, hbl, hsrc⟩ : ∃ b off, oa = some ⟨b, off, none⟩ ∧ b < w.heap.size ∧ ∀ i, i < od.length → w.cell? ⟨b, off + i, none⟩ = some (.int .i64 (od.getD i 0)) := by
        rcases unhide HC with h0 | h1
        · omega
        · exact h1
      have c0 := (hb.cell (p := ⟨b, off + k, none⟩) hbl).trans (hsrc k hlt)
      have hk0 : (0 : Int) ≤ (k : Int) := by omega
      have hk1 : (k : Int) < (od.length : Int) := by omega
      have x0 := hX.cell 0 rfl
      have x1 := hX.cell 1 rfl
      have x2 := hX.cell 2 rfl
      have HDC := hide (drop_cons hlt)
      have HTS := hide (take_snoc hlt)
      obtain ⟨hi0, hi1⟩ := unhide HIN k hlt
      rw [unhide HDC] at HL
      generalize od.getD k 0 = pz at *
      obtain ⟨p, rfl⟩ : ∃ p : Nat, pz = (p : Int) := ⟨pz.toNat, by omega⟩
      have hp : p < l.length := by omega
      have HL2 : Hid (legI l [] ⟨#[]⟩ od = (mayB l (od.take k) va p && legI l (od.take (k + 1)) (nextV (l.getD p default) va) (od.drop (k + 1)))) := hide (by rw [unhide HL, unhide HTS]; rfl)
      have HM := hide (unhide HMT wr hb ova k ovc va (od.take k) p hp hO.ints (by omega))
      have HB := hide hb
      have HX := hide hX
      have HO := hide hO
      clear hsrc hb hX hO HL hi0 hi1 hk1
      have hk1 : (k : Int) < (od.length : Int) := by omega
      generalize mayB l (od.take k) va p = mb at *
      go_wp2_with fail
      refine (unhide HM).mono ?_
      rintro e w3 ⟨rfl, hb3⟩
      have HB3 := hide ((unhide HB).trans (hb3.mono (unhide HB).size))
      have HX3 := hide ((unhide HX).below hb3)
      have HO3 := hide ((unhide HO).below hb3)
      clear hb3 HM x0 x1 x2 c0
      have x0 := (unhide HX3).cell 0 rfl
      have x1 := (unhide HX3).cell 1 rfl
      have x2 := (unhide HX3).cell 2 rfl
      cases mb with
      | false =>
        go_wp2_with fail
        go_ret
        exact ⟨ret_bool (by rw [unhide HL2]; rfl), unhide HB3⟩
      | true =>
        have HW := hide (unhide HWI w3 (unhide HB3) (.slice ova k ovc) va (od.take k) p hp (unhide HO3) (by omega))
        go_wp2_with fail
        refine (unhide HW).mono ?_
        rintro e w4 ⟨r, rfl, hO4, hr4, hb4⟩
        have HB4 := (unhide HB3).trans (hb4.mono (unhide HB3).size)
        have HX4 := (unhide HX3).below hb4
        have HOr := ordV_own hO4 hr4
        have hOl : (od.take k ++ [(p : Int)]).length = k + 1 := by rw [List.length_append, hlk]; rfl
        obtain ⟨ra, rc, rfl⟩ := HOr.shape
        rw [hOl] at hO4 hr4 HOr ⊢
        rw [← unhide HTS] at hO4 HOr
        generalize nextV (l.getD p default) va = nv at *
        have X5 := ((HX4.set 0 (.slice la l.length lc) (by simp)).set 1 (.slice ra (k + 1) rc) (by simp)).set 2 (.string nv) (by simp)
        have T5 := ((((Touch.refl (fun x => x = w.heap.size) w4).setCell ⟨w.heap.size, 0, none⟩ (.slice la l.length lc) (fun _ => rfl)).setCell ⟨w.heap.size, 1, none⟩ (.slice ra (k + 1) rc) (fun _ => rfl)).setCell ⟨w.heap.size, 2, none⟩ (.string nv) (fun _ => rfl))
        have B5 := ((HB4.setCell (p := ⟨w.heap.size, 0, none⟩) (Nat.le_refl _) (.slice la l.length lc)).setCell (p := ⟨w.heap.size, 1, none⟩) (Nat.le_refl _) (.slice ra (k + 1) rc)).setCell (p := ⟨w.heap.size, 2, none⟩) (Nat.le_refl _) (.string nv)
        have O5 := ordV_own (hO4.kept T5 (fun q hq e => by have h1 := (hO4.lt q hq).1; have h2 := (unhide HX3).1; omega)) hr4
        have R5 := hide (And.intro X5 (And.intro O5 B5))
        have y0 := HX4.cell 0 rfl
        have y1 := HX4.cell 1 rfl
        have y2 := HX4.cell 2 rfl
        have fy0 := HX4.fro 0
        have fy1 := HX4.fro 1
        have fy2 := HX4.fro 2
        clear X5 T5 B5 O5 HX4 HB4 HOr hO4 hr4 hb4 HW hOl x0 x1 x2
        go_wp2_with fail
        refine ⟨⟨k + 1, nv, ra, rc, by omega, by go_num, hide (by rw [unhide HL2]; rfl), (unhide R5).1, (unhide R5).2.1, (unhide R5).2.2⟩, ?_⟩
        simp [intOf]; omega
    · obtain rfl : k = od.length := by omega
      have E : Hid (legI l [] ⟨#[]⟩ od = wholeB l od) := hide (by rw [unhide HL, List.take_length, List.drop_length]; rfl)
      have HW := hide (unhide HWH wr hb ova od.length ovc va od (by have := hO.ints; rw [List.take_length] at this; exact this) (by omega))
      have x0 := hX.cell 0 rfl
      have x1 := hX.cell 1 rfl
      have x2 := hX.cell 2 rfl
      have HB := hide hb
      clear hb hX hO HL hlk
      generalize wholeB l od = wh at *
      go_wp2_with fail
      refine (unhide HW).mono ?_
      rintro e w3 ⟨rfl, hb3⟩
      have HB3 := hide ((unhide HB).trans (hb3.mono (unhide HB).size))
      clear hb3
      go_wp2_with fail
      go_ret
      exact ⟨ret_bool (unhide E).symm, unhide HB3⟩
set_option maxRecDepth 100000 in
theorem orderLegal1_any (la : Option Addr) (ln lc : Nat) (hln : ln ≤ 1048576) (p : Int) (B : Nat) (w : World) (hc : w.cell? ⟨B, 0, none⟩ = some (.slice la ln lc)) :
    Calls Try.prog 27 #[.int .i64 p, .pointer (some ⟨B, 0, none⟩)] w fun e w' => e = .returned (.bool (!inB p 0 ((ln : Int) - 1))) ∧ w' = w := by
  have q0 : IntKind.i64.wrap ((ln : Int) - 1) = (ln : Int) - 1 := by
    simp only [IntKind.wrap, IntKind.bits, IntKind.signed]
    simp
    omega
  go_enter Try.func27, Try.ntmps27
  go_wp2_with fail
  refine (within_any p 0 ((ln : Int) - 1) w).mono ?_
  rintro e w' ⟨rfl, hw⟩
  subst w'
  go_wp2_with fail
  go_ret
  exact ⟨rfl, rfl⟩
/-- One of the places is none of the list. -/
def outIn (n : Nat) (od : List Int) : Bool := decide (∃ i, i < od.length ∧ inB (od.getD i 0) 0 ((n : Int) - 1) = false)
theorem outIn_yes {n : Nat} {od : List Int} {i : Nat} (hi : i < od.length) (h : inB (od.getD i 0) 0 ((n : Int) - 1) = false) : outIn n od = true := decide_eq_true ⟨i, hi, h⟩
theorem outIn_no {n : Nat} {od : List Int} (h : ∀ i, i < od.length → inB (od.getD i 0) 0 ((n : Int) - 1) = true) : outIn n od = false := decide_eq_false (fun ⟨i, hi, e⟩ => by rw [h i hi] at e; cases e)
theorem outIn_in {n : Nat} {od : List Int} (h : outIn n od = false) : ∀ i, i < od.length → 0 ≤ od.getD i 0 ∧ od.getD i 0 < (n : Int) := fun i hi => by
  have h1 : ¬ inB (od.getD i 0) 0 ((n : Int) - 1) = false := fun e => (of_decide_eq_false h) ⟨i, hi, e⟩
  have h2 : inB (od.getD i 0) 0 ((n : Int) - 1) = true := by simpa using h1
  have := inB_iff.1 h2
  omega
set_option maxRecDepth 100000 in
set_option maxHeartbeats 1000000 in
theorem indexFuncI_any (la : Option Addr) (ln lc : Nat) (hln : ln ≤ 1048576) (B : Nat) (v : Value) (od : List Int) (w : World) (hc0 : w.cell? ⟨B, 0, none⟩ = some (.slice la ln lc)) (h : Ints w v od) (hs : od.length ≤ 4096) :
    Calls Try.prog 44 #[v, .func (.func 27) #[] #[.pointer (some ⟨B, 0, none⟩)]] w fun e w' => ∃ r : Int, e = .returned (.int .i64 r) ∧ (0 ≤ r ↔ outIn ln od = true) ∧ w' = w := by
  obtain ⟨a, cap, rfl, hm, hc⟩ := h
  have HC := hide hc
  clear hc hm
  have HCL := hide (fun p => orderLegal1_any la ln lc hln p B w hc0)
  clear hc0
  go_enter Try.func44, Try.ntmps44
  go_wp2_with fail
  go_loop [8] (fun i => ∃ k : Nat, k ≤ od.length ∧ i = .int .i64 k ∧ Hid (∀ j, j < k → inB (od.getD j 0) 0 ((ln : Int) - 1) = true)) (fun i => od.length - (intOf i).toNat)
  case atStart => exact ⟨0, Nat.zero_le _, rfl, fun j hj => absurd hj (Nat.not_lt_zero _)⟩
  case round =>
    obtain ⟨k, hk, rfl, HGO⟩ := hrel
    by_cases hlt : k < od.length
    · obtain ⟨b, off, rfl, hbl, hsrc⟩ : ∃ b off, a = some ⟨b, off, none⟩ ∧ b < w.heap.size ∧ ∀ i, i < od.length → w.cell? ⟨b, off + i, none⟩ = some (.int .i64 (od.getD i 0)) := by
        rcases unhide HC with h0 | h1
        · omega
        · exact h1
      have c0 := hsrc k hlt
      have hk0 : (0 : Int) ≤ (k : Int) := by omega
      have hk1 : (k : Int) < (od.length : Int) := by omega
      have HY := hide (outIn_yes (n := ln) hlt)
      have HNX := hide (fun (hx : inB (od.getD k 0) 0 ((ln : Int) - 1) = true) => show ∀ i, i < k + 1 → inB (od.getD i 0) 0 ((ln : Int) - 1) = true from fun i hi => by
          by_cases e : i = k
          · subst e; exact hx
          · exact unhide HGO i (by omega))
      have HC1 := hide (unhide HCL (od.getD k 0))
      clear hsrc
      generalize inB (od.getD k 0) 0 ((ln : Int) - 1) = bb at *
      generalize od.getD k 0 = p at *
      go_wp2_with fail
      refine (unhide HC1).mono ?_
      rintro e w' ⟨rfl, hw⟩
      subst w'
      clear HC1
      cases bb with
      | false =>
        have E := hide (unhide HY rfl)
        go_wp2_with fail
        go_ret
        exact ⟨_, rfl, ⟨fun _ => unhide E, fun _ => hk0⟩, rfl⟩
      | true =>
        have E := hide (unhide HNX rfl)
        go_wp2_with fail
        refine ⟨⟨k + 1, by omega, by go_num, E⟩, ?_⟩
        simp [intOf]; omega
    · obtain rfl : k = od.length := by omega
      have HA := hide (outIn_no (unhide HGO))
      go_wp2_with fail
      go_ret
      exact ⟨_, rfl, ⟨fun h => by omega, fun h => by rw [unhide HA] at h; cases h⟩, rfl⟩
set_option maxRecDepth 100000 in
theorem containsFuncI_any (la : Option Addr) (ln lc : Nat) (hln : ln ≤ 1048576) (B : Nat) (v : Value) (od : List Int) (w : World) (hc0 : w.cell? ⟨B, 0, none⟩ = some (.slice la ln lc)) (h : Ints w v od) (hs : od.length ≤ 4096) :
    Calls Try.prog 26 #[v, .func (.func 27) #[] #[.pointer (some ⟨B, 0, none⟩)]] w fun e w' => e = .returned (.bool (outIn ln od)) ∧ w' = w := by
  have HI := hide (indexFuncI_any la ln lc hln B v od w hc0 h hs)
  obtain ⟨a, cap, rfl, hm, hc⟩ := h
  clear hc hm hc0
  go_enter Try.func26, Try.ntmps26
  go_wp2_with fail
  refine (unhide HI).mono ?_
  rintro e w' ⟨r, rfl, hr, hw⟩
  subst w'
  by_cases h0 : 0 ≤ r
  · have HA := hide (hr.1 h0)
    clear hr
    go_wp2_with fail
    go_ret
    exact ⟨ret_bool (by rw [unhide HA]), rfl⟩
  · have HA : Hid (outIn ln od = false) := hide (by
      rcases Bool.eq_false_or_eq_true (outIn ln od) with e | e
      · exact absurd (hr.2 e) h0
      · exact e)
    clear hr
    go_wp2_with fail
    go_ret
    exact ⟨ret_bool (by rw [unhide HA]; simp; omega), rfl⟩
def olOut (l : List Op) (od : List Int) : Bool × Int :=
  if 4096 < od.length then (false, 2) else if ofC l ≠ 0 then (false, ofC l) else if 7 < od.length then (false, 1) else if outIn l.length od then (false, 4) else (legI l [] ⟨#[]⟩ od, 0)
theorem ofC_zero {l : List Op} (h : ofC l = 0) : opsB l = true := by
  unfold ofC at h
  split at h
  · cases h
  · split at h
    · assumption
    · cases h
set_option maxRecDepth 100000 in
set_option maxHeartbeats 2000000 in
theorem implOrderLegal_any (lv ov : Value) (l : List Op) (od : List Int) (w : World) (hl : Ops w lv l) (hs : l.length ≤ 1048576) (h : Ints w ov od) (ho : od.length ≤ 1048576) :
    Calls Try.prog 10 #[lv, ov] w fun e w' => e = .returned (.tuple #[.bool (olOut l od).1, .int .i64 (olOut l od).2]) ∧ Below w.heap.size w w' := by
  have HOF := hide (fun wx (hb : Below w.heap.size w wx) => opsFault_any lv l wx (hl.below hb) hs)
  have HIN := hide (fun wx (hb : Below w.heap.size w wx) => h.below hb)
  have HOP := hide (fun wx (hb : Below w.heap.size w wx) => hl.below hb)
  obtain ⟨la, lc, rfl, _, _, _⟩ := hl
  obtain ⟨oa, oc, rfl, _, _⟩ := h
  have B0 := hide ((Below.refl w.heap.size w).alloc (Nat.le_refl _) (.cells #[.slice la l.length lc] 23))
  have X0 := hide (Blk.new w #[.slice la l.length lc] 23 w.heap.size rfl)
  by_cases h4 : 4096 < od.length
  · have h5 : (4096 : Int) < (od.length : Int) := by omega
    have E : olOut l od = (false, 2) := by unfold olOut; rw [if_pos h4]
    rw [E]
    go_enter Try.func10, Try.ntmps10
    go_wp2_with fail
    refine bodyPost_ret (v := .tuple #[.bool false, .int .i64 2]) (by simp [results, Try.results10, go_sem]) rfl ?_
    exact ⟨rfl, unhide B0⟩
  have h5 : ¬ (4096 : Int) < (od.length : Int) := by omega
  by_cases h0 : ofC l ≠ 0
  · have E : olOut l od = (false, ofC l) := by unfold olOut; rw [if_neg h4, if_pos h0]
    have hb : (ofC l != 0) = true := by simpa using h0
    rw [E]
    clear E h0
    generalize ofC l = cd at *
    go_enter Try.func10, Try.ntmps10
    go_wp2_with fail
    refine (unhide HOF _ (unhide B0)).mono ?_
    rintro e w1 ⟨rfl, hb1⟩
    have B1 := hide ((unhide B0).trans (hb1.mono (unhide B0).size))
    clear hb1
    go_wp2_with fail
    refine bodyPost_ret (v := .tuple #[.bool false, .int .i64 cd]) (by simp [results, Try.results10, go_sem]) rfl ?_
    exact ⟨rfl, unhide B1⟩
  have h0' : ofC l = 0 := by omega
  have HOK := hide (ofC_zero h0')
  rw [h0'] at HOF
  by_cases h7 : 7 < od.length
  · have E : olOut l od = (false, 1) := by unfold olOut; rw [if_neg h4, if_neg h0, if_pos h7]
    have h8 : (7 : Int) < (od.length : Int) := by omega
    rw [E]
    clear E h0 h0'
    go_enter Try.func10, Try.ntmps10
    go_wp2_with fail
    refine (unhide HOF _ (unhide B0)).mono ?_
    rintro e w1 ⟨rfl, hb1⟩
    have B1 := hide ((unhide B0).trans (hb1.mono (unhide B0).size))
    clear hb1
    go_wp2_with fail
    refine bodyPost_ret (v := .tuple #[.bool false, .int .i64 1]) (by simp [results, Try.results10, go_sem]) rfl ?_
    exact ⟨rfl, unhide B1⟩
  have h8 : ¬ (7 : Int) < (od.length : Int) := by omega
  have E : olOut l od = if outIn l.length od then (false, 4) else (legI l [] ⟨#[]⟩ od, 0) := by unfold olOut; rw [if_neg h4, if_neg h0, if_neg h7]
  rw [E]
  have HLG := hide (fun (wx : World) (hb : Below w.heap.size w wx) (hx : outIn l.length od = false) => legalOrder_any la lc l oa oc od wx (unhide HOP wx hb) (unhide HOK) (unhide HIN wx hb) (by omega) (outIn_in hx))
  have HCF := hide (fun (wx : World) (hb : Below w.heap.size w wx) (hx : wx.cell? ⟨w.heap.size, 0, none⟩ = some (.slice la l.length lc)) => containsFuncI_any la l.length lc hs w.heap.size _ od wx hx (unhide HIN wx hb) (by omega))
  clear E h0 h0'
  generalize outIn l.length od = out at *
  generalize legI l [] ⟨#[]⟩ od = lg at *
  cases out with
  | true =>
    go_enter Try.func10, Try.ntmps10
    go_wp2_with fail
    refine (unhide HOF _ (unhide B0)).mono ?_
    rintro e w1 ⟨rfl, hb1⟩
    have B1 := hide ((unhide B0).trans (hb1.mono (unhide B0).size))
    have X1 := hide ((unhide X0).below hb1)
    have HC1 := hide (unhide HCF w1 (unhide B1) ((unhide X1).cell 0 rfl))
    clear hb1
    go_wp2_with fail
    refine (unhide HC1).mono ?_
    rintro e w2 ⟨rfl, hw⟩
    subst w2
    go_wp2_with fail
    refine bodyPost_ret (v := .tuple #[.bool false, .int .i64 4]) (by simp [results, Try.results10, go_sem]) rfl ?_
    exact ⟨rfl, unhide B1⟩
  | false =>
    go_enter Try.func10, Try.ntmps10
    go_wp2_with fail
    refine (unhide HOF _ (unhide B0)).mono ?_
    rintro e w1 ⟨rfl, hb1⟩
    have B1 := hide ((unhide B0).trans (hb1.mono (unhide B0).size))
    have X1 := hide ((unhide X0).below hb1)
    have HC1 := hide (unhide HCF w1 (unhide B1) ((unhide X1).cell 0 rfl))
    have HL1 := hide (unhide HLG w1 (unhide B1) (by simp))
    have x0 := (unhide X1).cell 0 rfl
    clear hb1
    go_wp2_with fail
    refine (unhide HC1).mono ?_
    rintro e w2 ⟨rfl, hw⟩
    subst w2
    go_wp2_with fail
    refine (unhide HL1).mono ?_
    rintro e w3 ⟨rfl, hb3⟩
    have B3 := hide ((unhide B1).trans (hb3.mono (unhide B1).size))
    clear hb3
    go_wp2_with fail
    refine bodyPost_ret (v := .tuple #[.bool lg, .int .i64 0]) (by simp [results, Try.results10, go_sem]) rfl ?_
    exact ⟨rfl, unhide B3⟩
end Go.Proofs.Ytedfidpmehamdaa
