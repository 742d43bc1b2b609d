/- impl.MembersData and spec.MembersData, walked. -/
import Derived.Test.YtfcnemafbefofaaMemR
namespace Go.Proofs.Ytfcnemafbefofaa
open Go.ChangeShapes Go.WideShapes Go.ChangeAt Go.RowKit
set_option linter.unusedVariables false

theorem bytes_back (l : List Int) (h : ∀ i, 0 ≤ l.getD i 0 ∧ l.getD i 0 ≤ 255) : bytesI (strOfNums l) = l := by
  apply List.ext_getElem?
  intro i
  by_cases hi : i < l.length
  · have h1 := h i
    rw [List.getD_eq_getElem?_getD, List.getElem?_eq_getElem hi] at h1
    simp only [Option.getD_some] at h1
    simp [bytesI, strOfNums, hi]
    omega
  · rw [List.getElem?_eq_none (by rw [bytesI_len, strOfNums_size]; omega), List.getElem?_eq_none (by omega)]
theorem encAll_one (l : List Int) (h : ∀ i, 0 ≤ l.getD i 0 ∧ l.getD i 0 ≤ 255) : encAll 1 l = l := by
  induction l with
  | nil => rfl
  | cons x r ih =>
    have hx := h 0
    simp only [List.getD_cons_zero] at hx
    have hr : ∀ i, 0 ≤ r.getD i 0 ∧ r.getD i 0 ≤ 255 := fun i => by have := h (i + 1); simpa using this
    simp only [encAll, ih hr, encN]
    simp
    omega
theorem range_in {l : List Int} (h : InAll l) : ∀ i, 0 ≤ l.getD i 0 ∧ l.getD i 0 ≤ 255 := fun i => by
  by_cases hi : i < l.length
  · have := inB_iff.1 (h i hi); omega
  · rw [List.getD_eq_getElem?_getD, List.getElem?_eq_none (by omega)]; simp
/-- What MembersData answers. -/
def memData (l : List Int) : ByteArray × Int := if 4096 < l.length then (⟨#[]⟩, 2) else if mFault l = 0 then (strOfNums l, 0) else (⟨#[]⟩, mFault l)
theorem mFault_zero {l : List Int} (h : mFault l = 0) : InAll l ∧ 0 < l.length := by
  unfold mFault at h
  split at h
  · rename_i h1
    split at h
    · omega
    · exact ⟨h1, by omega⟩
  · omega
theorem ret_two_s {s t : ByteArray} {x y : Int} (hs : s = t) (h : x = y) : Ending.returned (.tuple #[.string s, .int .i64 x]) = .returned (.tuple #[.string t, .int .i64 y]) := by rw [h, hs]

set_option maxRecDepth 100000 in
set_option maxHeartbeats 1000000 in
theorem implMembersData_any (v : Value) (l : List Int) (w : World) (h : Ints w v l) :
    Calls Try.prog 22 #[v] w fun e w' => e = .returned (.tuple #[.string (memData l).1, .int .i64 (memData l).2]) ∧ Below w.heap.size w w' := by
  have H := hide h
  obtain ⟨a, cap, rfl, hm, hc⟩ := h
  unfold maxLen at hm
  by_cases hl : 4096 < l.length
  · have E := hide (show memData l = (⟨#[]⟩, 2) by simp [memData, hl])
    clear hc
    go_enter Try.func22, Try.ntmps22
    go_wp2_with fail
    go_ret2
    exact ⟨ret_two_s (by rw [unhide E]) (by rw [unhide E]), Below.refl _ _⟩
  · by_cases hf : mFault l = 0
    · have E := hide (show memData l = (strOfNums l, 0) by simp [memData, hl, hf])
      obtain ⟨hin, hpos⟩ := mFault_zero hf
      have HR := hide (range_in hin)
      have HE := hide (encAll_one l (range_in hin))
      obtain ⟨b, off, rfl, hbl, hsrc⟩ : ∃ b off, a = some ⟨b, off, none⟩ ∧ b < w.heap.size ∧ ∀ i, i < l.length → w.cell? ⟨b, off + i, none⟩ = some (.int .i64 (l.getD i 0)) := by
        rcases hc with h0 | h1
        · omega
        · exact h1
      have HSRC := hide hsrc
      have HF := hide hf
      clear hc hin hsrc hf
      go_enter Try.func22, Try.ntmps22
      go_wp2_with fail
      refine (membersFault_any _ l _ (unhide H) (by omega)).mono ?_
      rintro e w1 ⟨rfl, n, rfl⟩
      rw [unhide HF]
      have hsz : (w.drewN n).heap.size = w.heap.size := rfl
      have hs2 : ∀ i, i < l.length → (w.drewN n).cell? ⟨b, off + i, none⟩ = some (.int .i64 (l.getD i 0)) := unhide HSRC
      have HS2 := hide hs2
      have K1 := hide (below_drewN (Below.refl w.heap.size w) n)
      have HSZ := hide hsz
      have hbl1 : b < (w.drewN n).heap.size := hbl
      clear hs2 hsz
      generalize w.drewN n = w1 at *
      go_wp2_with fail
      have W0 := hide (Wr.new w1 w1.heap.size rfl 56)
      have hcell0 : Hid (∀ i, i < l.length → (w1.alloc (.cells #[.slice none 0 0] 56)).cell? ⟨b, off + i, none⟩ = some (.int .i64 (l.getD i 0))) := hide (fun i hi => by
        rw [((Touch.refl (fun _ => False) w1).alloc (.cells #[.slice none 0 0] 56)).cell (p := ⟨b, off + i, none⟩) hbl1 (fun h => h)]
        exact unhide HS2 i hi)
      have hb2 : b < (w1.alloc (.cells #[.slice none 0 0] 56)).heap.size := by simp; omega
      have K2 := hide ((unhide K1).alloc (by rw [unhide HSZ]; exact Nat.le_refl _) (.cells #[.slice none 0 0] 56))
      generalize w1.alloc (.cells #[.slice none 0 0] 56) = w2 at *
      refine (numbers_any w1.heap.size 1 (.slice none 0 0) [] l b off cap w2 (unhide W0) (by omega) hb2 (by omega) (fun h => by cases h) (unhide hcell0) (fun i => by have := unhide HR i; omega) (by omega) (by simp)).mono ?_
      rintro e w3 ⟨rfl, v3, hW3, hT3, hL3⟩
      rw [unhide HE, List.nil_append] at hW3
      have hcell := hW3.1
      have hcv := conv_own (P := Try.prog) 22 9 5 Try.underlying22 Try.underlying5 Try.underlying9 hW3.2.2.2.1
      have K3 := hide ((unhide K2).trans ((unhide W0).below hT3 (by rw [unhide HSZ]; exact Nat.le_refl _)))
      clear hW3 hT3 hL3
      generalize strOfNums l = tx at *
      go_wp2_with fail
      go_ret2
      exact ⟨ret_two_s (by rw [unhide E]) (by rw [unhide E]), unhide K3⟩
    · have E := hide (show memData l = (⟨#[]⟩, mFault l) by simp [memData, hl, hf])
      have hne : (mFault l != 0) = true := by rw [bne_iff_ne]; exact hf
      clear hc hf
      go_enter Try.func22, Try.ntmps22
      go_wp2_with fail
      refine (membersFault_any _ l _ (unhide H) (by omega)).mono ?_
      rintro e w1 ⟨rfl, n, rfl⟩
      generalize mFault l = x at *
      go_wp2_with fail
      go_ret2
      exact ⟨ret_two_s (by rw [unhide E]) (by rw [unhide E]), below_drewN (Below.refl _ _) n⟩

theorem members_back {l : List Int} (h : InAll l) : (memOut (strOfNums l)).2 = decide (mFault l = 0) := by
  rw [(memOut_fault _).1, bytes_back l (range_in h)]
set_option maxRecDepth 100000 in
set_option maxHeartbeats 1000000 in
theorem specMembersData_any (v : Value) (l : List Int) (w : World) (h : Ints w v l) :
    Calls Try.prog 23 #[v] w fun e w' => e = .returned (.tuple #[.string (memData l).1, .int .i64 (memData l).2]) ∧ Below w.heap.size w w' := by
  obtain ⟨i0, hi, hz0, hz1, hz2⟩ := info_parts info5
  obtain ⟨a, cap, rfl, hm, hc⟩ := h
  unfold maxLen at hm
  by_cases hl : 4096 < l.length
  · have E := hide (show memData l = (⟨#[]⟩, 2) by simp [memData, hl])
    clear hc
    go_enter Try.func23, Try.ntmps23
    go_wp2_with fail
    go_ret2
    exact ⟨ret_two_s (by rw [unhide E]) (by rw [unhide E]), Below.refl _ _⟩
  · have HC := hide hc
    clear hc
    go_enter Try.func23, Try.ntmps23
    go_wp2_with fail
    go_loopw [4, 5] (fun v i wr => ∃ k : Nat, k ≤ l.length ∧ i = .int .i64 k ∧ Hid (∀ i, i < k → inB (l.getD i 0) 0 6 = true) ∧ wr.ownsRow w.heap.size 5 1 v k ((l.take k).map (Value.int .u8)) ∧ Below w.heap.size w wr) (fun _ i _ => l.length - (intOf i).toNat)
    case atStart =>
      exact ⟨0, Nat.zero_le _, rfl, fun i hi => absurd hi (Nat.not_lt_zero _), World.ownsRow_made w #[] 0 (Nat.le_refl _) (by unfold maxLen; omega) rfl, (Below.refl _ _).alloc (Nat.le_refl _) _⟩
    case round =>
      obtain ⟨k, hk, rfl, hA, hown, hbel⟩ := hrel
      by_cases hlt : k < l.length
      · obtain ⟨b, off, rfl, hbl, hsrc⟩ : ∃ b off, a = some ⟨b, off, none⟩ ∧ b < w.heap.size ∧ ∀ i, i < l.length → w.cell? ⟨b, off + i, none⟩ = some (.int .i64 (l.getD i 0)) := by
          rcases unhide HC with h0 | h1
          · omega
          · exact h1
        have hs1 : wr.cell? ⟨b, off + k, none⟩ = some (.int .i64 (l.getD k 0)) := (hbel.cell (p := ⟨b, off + k, none⟩) hbl).trans (hsrc k hlt)
        have hk0 : (0 : Int) ≤ (k : Int) := by omega
        have hk1 : (k : Int) < (l.length : Int) := by omega
        have ht : l.take (k + 1) = l.take k ++ [l.getD k 0] := by
          rw [List.take_succ_eq_append_getElem hlt, List.getD_eq_getElem?_getD, List.getElem?_eq_getElem hlt]; rfl
        have HT := hide ht
        have hzb := hbel.size
        clear hsrc ht
        rcases Bool.eq_false_or_eq_true (inB (l.getD k 0) 0 6) with hin | hin
        · have HA := hide (show ∀ i, i < k + 1 → inB (l.getD i 0) 0 6 = true from fun i hi => by
            by_cases e : i = k
            · subst e; exact hin
            · exact unhide hA i (by omega))
          obtain ⟨g0, g1⟩ := inB_iff.1 hin
          have HO := hide hown
          have HB := hide hbel
          clear hown hbel
          generalize l.getD k 0 = x at *
          have m1 : IntKind.u8.wrap x = x := by simp [IntKind.wrap, IntKind.bits, IntKind.signed]; omega
          go_wp2_with fail
          refine (l01In_any _ _ _ _).mono ?_
          rintro e w' ⟨rfl, rfl⟩
          go_wp2_with (at_builtin; refine wpList_append_lies _ rfl _ _ _ rfl w.heap.size 5 i0 _ 1 1 Try.underlying22 hi hz0 hz1 hz2 rfl (by omega) u4 k _ rfl ((unhide HO).alloc _) ⟨_, 0, none⟩ 1 1 [_] rfl rfl (World.news_of_block (cs := #[_]) (t := 5) (fr := (0, 0)) (heap_alloc_new _ _)) (by simp [Value.oneCell']) (by omega) (by unfold maxLen; omega) (by omega) (by simp; omega) _ rfl ?_; intro gg capg w2 hown2 hgrow2 hat2 hlt2)
          have R := hide (show w2.ownsRow w.heap.size 5 1 (.slice (some ⟨gg, 0, none⟩) (k + 1) capg) (k + 1) ((l.take (k + 1)).map (Value.int .u8)) ∧ Below w.heap.size w w2 from ⟨by rw [unhide HT, List.map_append]; exact hown2, ((unhide HB).alloc hzb _).grown hgrow2 (by simp; omega) (fun r hr => ((unhide HO).lt r hr).1)⟩)
          clear hown2 hgrow2 hat2 hlt2
          go_roundw
          case rel => exact ⟨k + 1, by omega, by go_num, unhide HA, (unhide R).1, (unhide R).2⟩
          case measure => simp [intOf]; omega
        · have hf4 : mFault l = 4 := by unfold mFault; rw [if_neg (fun hx => by rw [hx k hlt] at hin; cases hin)]
          have E := hide (show memData l = (⟨#[]⟩, 4) by unfold memData; rw [if_neg hl, if_neg (by omega), hf4])
          have HB := hide hbel
          clear hown hbel hf4
          generalize l.getD k 0 = x at *
          go_wp2_with fail
          refine (l01In_any _ _ _ _).mono ?_
          rintro e w' ⟨rfl, rfl⟩
          go_wp2_with fail
          go_ret2
          exact ⟨ret_two_s (by rw [unhide E]) (by rw [unhide E]), unhide HB⟩
      · obtain rfl : k = l.length := by omega
        have hin : InAll l := unhide hA
        have hown' : wr.ownsRow w.heap.size 5 1 u4 l.length (l.map (Value.int .u8)) := by rw [List.take_length] at hown; exact hown
        have hc1 := conv_own (P := Try.prog) 22 9 5 Try.underlying22 Try.underlying5 Try.underlying9 hown'
        have HO := hide hown'
        have HB := hide hbel
        have HM := hide (members_back hin)
        have hsz : (strOfNums l).size ≤ 1048576 := by rw [strOfNums_size]; omega
        have HTX : Hid (strOfNums l = strOfNums l) := rfl
        have HIN := hide hin
        clear hown hown' hbel hin hA
        generalize htx : strOfNums l = tx at *
        have HX := hide htx
        clear htx
        go_wp2_with fail
        refine (l02Members_any tx _ hsz).mono ?_
        rintro e w1 ⟨v1, rfl, hO1, hb1⟩
        have hc2 : (convert 22 9 u4).run Try.prog w1 = .ok (.string tx) w1 := by
          have h2 := conv_own (P := Try.prog) 22 9 5 Try.underlying22 Try.underlying5 Try.underlying9 ((unhide HO).kept (row := none) ⟨hb1.os, hb1.tape, hb1.output, hb1.size, fun k hk _ => hb1.block k hk⟩ (by cases hu : u4.ownBlock <;> simp))
          rw [unhide HX] at h2; exact h2
        have B1 := hide ((unhide HB).trans (hb1.mono (unhide HB).size))
        rw [unhide HM]
        clear hO1 hb1 hc1
        by_cases hf : mFault l = 0
        · have E := hide (show memData l = (tx, 0) by unfold memData; rw [if_neg hl, if_pos hf, unhide HX])
          have hd : decide (mFault l = 0) = true := by simp [hf]
          rw [hd]
          clear hf hd
          go_wp2_with fail
          go_ret2
          exact ⟨ret_two_s (by rw [unhide E]) (by rw [unhide E]), unhide B1⟩
        · have hf1 : mFault l = 1 := by
            have hin : InAll l := by
              exact unhide HIN
            unfold mFault at hf ⊢
            rw [if_pos hin] at hf ⊢
            split
            · rfl
            · rename_i h3
              rw [if_neg h3] at hf
              split
              · rename_i h4; rw [if_pos h4] at hf; omega
              · rfl
          have E := hide (show memData l = (⟨#[]⟩, 1) by unfold memData; rw [if_neg hl, if_neg hf, hf1])
          have hd : decide (mFault l = 0) = false := by simp [hf]
          rw [hd]
          clear hf hd hf1
          go_wp2_with fail
          go_ret2
          exact ⟨ret_two_s (by rw [unhide E]) (by rw [unhide E]), unhide B1⟩
end Go.Proofs.Ytfcnemafbefofaa
