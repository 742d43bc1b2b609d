/- Lists of texts as the laws take them: szStringS, toStringS, a list that came in opened. -/
import Derived.Test.YtinpoaghedhknaaDoorStr
import Derived.SliceStrings
namespace Go.Proofs.YtinpoaghedhknaaDoor
open Go.ChangeShapes Go.WideShapes Go.ChangeAt Go.RowKit
set_option linter.unusedVariables false

theorem info9L : (Tryd.prog.info? 9).map (fun i => (i.zero, i.size, i.bytes)) = some (some (.string ⟨#[]⟩), 1, 16) := by kernel_rfl
theorem info_parts9 : ∃ i, Tryd.prog.info? 9 = some i ∧ i.zero = some (.string ⟨#[]⟩) ∧ i.size = 1 ∧ i.bytes = 16 := by
  have h := info9L
  cases e : Tryd.prog.info? 9 with
  | none => rw [e] at h; cases h
  | some i =>
    rw [e] at h
    simp only [Option.map_some, Option.some.injEq, Prod.mk.injEq] at h
    exact ⟨i, rfl, h.1, h.2.1, h.2.2⟩

/-- Bytes of the first k texts. -/
def swTo (l : List ByteArray) : Nat → Int
  | 0 => 0
  | k + 1 => swTo l k + ((l.getD k ByteArray.empty).size : Int)
theorem sw_mono (l : List ByteArray) (i j : Nat) (h : i ≤ j) : swTo l i ≤ swTo l j := by
  induction j with
  | zero => obtain rfl : i = 0 := by omega
            exact Int.le_refl _
  | succ j ih =>
    by_cases e : i = j + 1
    · subst e; exact Int.le_refl _
    · have := ih (by omega)
      show _ ≤ swTo l j + _
      omega
/-- What the measure of all of it leaves of L, or -1. -/
def sszR (L : Int) (l : List ByteArray) : Int := if (l.length : Int) + swTo l l.length ≤ L then L - (l.length : Int) - swTo l l.length else -1
theorem sszR_cases (L : Int) (l : List ByteArray) : sszR L l = -1 ∨ (0 ≤ sszR L l ∧ sszR L l ≤ L) := by
  have hw0 := sw_mono l 0 l.length (Nat.zero_le _)
  have hw00 : swTo l 0 = 0 := rfl
  unfold sszR; split
  · right; omega
  · left; rfl
/-- A list that the laws measure is small. -/
theorem ssmall_of (L : Int) (hL : L ≤ 1048576) (l : List ByteArray) (h : 0 ≤ sszR L l) : l.length ≤ 1048576 ∧ ∀ i, (l.getD i ByteArray.empty).size ≤ 1048576 := by
  have h1 : (l.length : Int) + swTo l l.length ≤ L := by
    unfold sszR at h
    split at h
    · assumption
    · omega
  have hw0 := sw_mono l 0 l.length (Nat.zero_le _)
  have hw00 : swTo l 0 = 0 := rfl
  refine ⟨by omega, fun i => ?_⟩
  by_cases hi : i < l.length
  · have e2 : swTo l (i + 1) = swTo l i + ((l.getD i ByteArray.empty).size : Int) := rfl
    have := sw_mono l (i + 1) l.length (by omega)
    have := sw_mono l 0 i (Nat.zero_le _)
    omega
  · rw [List.getD_eq_getElem?_getD, List.getElem?_eq_none (by omega)]
    have e : (ByteArray.empty).size = 0 := rfl
    simp only [Option.getD_none]
    omega

set_option maxRecDepth 100000 in
set_option maxHeartbeats 1000000 in
theorem szStringS_any (L : Int) (hL0 : 0 ≤ L) (hL1 : L ≤ 1048576) (v : Value) (l : List ByteArray) (w : World) (h : Strs w v l) (hz : ∀ i, i < l.length → (l.getD i ByteArray.empty).size ≤ maxLen) :
    Calls Tryd.prog 14 #[v, .int .i64 L] w fun e w' => e = .returned (.int .i64 (sszR L l)) ∧ Below w.heap.size w w' := by
  obtain ⟨a, cap, rfl, hm, hc⟩ := h
  have HC := hide hc
  have HZ := hide hz
  have hlm : l.length ≤ 9223372036854775807 := by unfold maxLen at hm; omega
  clear hc hz hm
  have hw0 := sw_mono l 0 l.length (Nat.zero_le _)
  have hw00 : swTo l 0 = 0 := rfl
  by_cases hl : L < l.length
  · have E : Hid (sszR L l = -1) := hide (by unfold sszR; rw [if_neg (by omega)])
    have hl2 : L - (l.length : Int) < 0 := by omega
    go_enter Tryd.func14, Tryd.ntmps14
    go_wp2_with fail
    go_ret
    exact ⟨ret_int (unhide E).symm, Below.refl _ _⟩
  · have hl2 : ¬ L - (l.length : Int) < 0 := by omega
    go_enter Tryd.func14, Tryd.ntmps14
    go_wp2_with fail
    go_loopw [1, 5] (fun lf i wr => ∃ (k : Nat) (x : Int), k ≤ l.length ∧ i = .int .i64 k ∧ lf = .int .i64 x ∧ x = L - (l.length : Int) - swTo l k ∧ 0 ≤ x ∧ Below w.heap.size w wr) (fun _ i _ => l.length - (intOf i).toNat)
    case atStart => exact ⟨0, _, Nat.zero_le _, rfl, rfl, by rw [hw00]; omega, by omega, Below.refl _ _⟩
    case round =>
      obtain ⟨k, x, hk, rfl, rfl, hx, hx0, hb⟩ := hrel
      by_cases hlt : k < l.length
      · obtain ⟨b, off, rfl, hbl, hsrc⟩ : ∃ b off, a = some ⟨b, off, none⟩ ∧ b < w.heap.size ∧ ∀ i, i < l.length → w.cell? ⟨b, off + i, none⟩ = some (.string (l.getD i ByteArray.empty)) := by
          rcases unhide HC with h0 | h1
          · omega
          · exact h1
        have c0 := (hb.cell (p := ⟨b, off + k, none⟩) hbl).trans (hsrc k hlt)
        have hk0 : (0 : Int) ≤ (k : Int) := by omega
        have hk1 : (k : Int) < (l.length : Int) := by omega
        have hwl := sw_mono l (k + 1) l.length (by omega)
        have hwk := sw_mono l 0 k (Nat.zero_le _)
        have hws : swTo l (k + 1) = swTo l k + ((l.getD k ByteArray.empty).size : Int) := rfl
        have hz := unhide HZ k hlt
        unfold maxLen at hz
        have hx1 : x ≤ 1048576 := by omega
        have HB := hide hb
        clear hsrc hb
        generalize l.getD k ByteArray.empty = f at *
        have HW := hide (And.intro hwl (And.intro hws hx))
        clear hwl hws hx hwk hw0 hw00
        by_cases hr0 : x - (f.size : Int) < 0
        · have E : Hid (sszR L l = -1) := hide (by
            obtain ⟨h1, h2, h3⟩ := unhide HW
            unfold sszR; rw [if_neg]
            omega)
          go_wp2_with fail
          go_ret
          exact ⟨ret_int (unhide E).symm, unhide HB⟩
        · go_wp2_with fail
          refine ⟨⟨k + 1, x - (f.size : Int), by omega, by go_num, by go_num, ?_, by omega, unhide HB⟩, ?_⟩
          · obtain ⟨h1, h2, h3⟩ := unhide HW
            omega
          · simp [intOf]; omega
      · obtain rfl : k = l.length := by omega
        have E : Hid (sszR L l = x) := hide (by unfold sszR; rw [if_pos (by omega)]; omega)
        have R := hide hb
        clear hb hx
        go_wp2_with fail
        go_ret
        exact ⟨ret_int (unhide E).symm, unhide R⟩

/-- Some of the texts copied. -/
def copS (l : List ByteArray) (k : Nat) : List ByteArray := (List.range l.length).map fun j => if j < k then l.getD j ByteArray.empty else ByteArray.empty
theorem copS_len (l : List ByteArray) (k : Nat) : (copS l k).length = l.length := by simp [copS]
theorem copS_zero (l : List ByteArray) : (copS l 0).map Value.string = List.replicate l.length (Value.string ⟨#[]⟩) := by
  apply List.ext_getElem?
  intro j
  by_cases hj : j < l.length
  · simp [copS, hj]; rfl
  · simp [copS, hj]
theorem copS_all (l : List ByteArray) : copS l l.length = l := by
  apply List.ext_getElem?
  intro j
  by_cases hj : j < l.length
  · simp [copS, hj, List.getD_eq_getElem?_getD]
  · simp [copS, hj]
theorem copS_set (l : List ByteArray) (k : Nat) (hk : k < l.length) : ((copS l k).map Value.string).set k (.string (l.getD k ByteArray.empty)) = (copS l (k + 1)).map Value.string := by
  apply List.ext_getElem?
  intro j
  rw [List.getElem?_set]
  simp only [List.length_map, copS_len, List.getElem?_map]
  by_cases e : k = j
  · subst e
    rw [if_pos rfl, if_pos hk]
    simp [copS, hk]
  · rw [if_neg e]
    by_cases hj : j < l.length
    · by_cases h1 : j < k
      · simp [copS, hj, h1, show j < k + 1 by omega]
      · simp [copS, hj, h1, show ¬ j < k + 1 by omega]
    · simp [copS, hj]

set_option maxRecDepth 100000 in
set_option maxHeartbeats 1000000 in
theorem toStringS_any (v : Value) (l : List ByteArray) (w : World) (h : Strs w v l) (hs : l.length ≤ 1048576) :
    Calls Tryd.prog 19 #[v] w fun e w' => e = .returned (.slice (some ⟨w.heap.size, 0, none⟩) l.length l.length) ∧ OwnS w.heap.size w' (.slice (some ⟨w.heap.size, 0, none⟩) l.length l.length) l ∧ w.heap.size < w'.heap.size ∧ Below w.heap.size w w' := by
  obtain ⟨i0, hi, hz0, hz1, hz2⟩ := info_parts9
  obtain ⟨a, cap, rfl, hm, hc⟩ := h
  have HC := hide hc
  clear hc hm
  go_enter Tryd.func19, Tryd.ntmps19
  go_wp2_with (at_make; refine wpList_make_full _ rfl _ _ 22 rfl w.heap.size 9 i0 _ 1 Tryd.underlying22 hi hz0 hz1 .i64 .i64 _ _ l.length rfl rfl rfl rfl (by rw [hz2]; omega) (by unfold maxLen; omega) (Nat.le_refl _) ?_; intro w1 hown1 hg1)
  have e3 : (Value.string ⟨#[]⟩).cells = #[Value.string ⟨#[]⟩] := rfl
  rw [e3, Nat.mul_one, toList_madeCells_one, ← copS_zero] at hown1
  have HZ := hide (And.intro hown1 ((Below.refl w.heap.size w).grown hg1 (Nat.le_refl _) (fun k h => by cases h)))
  clear hown1 hg1 e3
  go_loopw [4] (fun i wr => ∃ k : Nat, k ≤ l.length ∧ i = .int .i64 k ∧ wr.ownsRow w.heap.size 9 1 (.slice (some ⟨w.heap.size, 0, none⟩) l.length l.length) l.length ((copS l k).map Value.string) ∧ Below w.heap.size w wr) (fun i _ => l.length - (intOf i).toNat)
  case atStart => exact ⟨0, Nat.zero_le _, rfl, (unhide HZ).1, (unhide HZ).2⟩
  case round =>
    obtain ⟨k, hk, rfl, hL, hbel⟩ := hrel
    by_cases hlt : k < l.length
    · obtain ⟨b, off, rfl, hbl, hsrc⟩ : ∃ b off, a = some ⟨b, off, none⟩ ∧ b < w.heap.size ∧ ∀ i, i < l.length → w.cell? ⟨b, off + i, none⟩ = some (.string (l.getD i ByteArray.empty)) := by
        rcases unhide HC with h0 | h1
        · omega
        · exact h1
      have hs1 : wr.cell? ⟨b, off + k, none⟩ = some (.string (l.getD k ByteArray.empty)) := (hbel.cell (p := ⟨b, off + k, none⟩) hbl).trans (hsrc k hlt)
      have hk0 : (0 : Int) ≤ (k : Int) := by omega
      have hk1 : (k : Int) < (l.length : Int) := by omega
      have hc0 := hL.cellAt k (by omega)
      rw [List.getElem?_map, List.getElem?_eq_getElem (by rw [copS_len]; exact hlt)] at hc0
      simp only [Option.map_some] at hc0
      have hf0 := hL.frozenAt k
      have R := hide (And.intro (hL.stored k (.string (l.getD k ByteArray.empty))).1 (hbel.setCell (p := ⟨w.heap.size, k, none⟩) (Nat.le_refl _) (.string (l.getD k ByteArray.empty))))
      rw [copS_set l k hlt] at R
      clear hL hbel hsrc
      generalize l.getD k ByteArray.empty = x at *
      go_wp2_with fail
      refine ⟨⟨k + 1, by omega, by go_num, (unhide R).1, (unhide R).2⟩, ?_⟩
      simp [intOf]; omega
    · obtain rfl : k = l.length := by omega
      have hlt9 := (hL.lt w.heap.size rfl).2
      have R := hide (And.intro hL hbel)
      clear hL hbel
      go_wp2_with fail
      go_ret
      refine ⟨rfl, ?_, hlt9, (unhide R).2⟩
      have := (unhide R).1
      rw [copS_all] at this
      exact this

set_option maxRecDepth 100000 in
/-- A list of texts that came in, opened. -/
theorem open_texts {H : Type} {enc : TypeId × Value → H} {W : World} {base b0 : Nat} {r : Reach} {sp : Nat → Bool} {held : Bool} {v : Value} {d : DataW H} {p : List MemPlace}
    (hv : Value.okWide Tryd.prog W r b0 22 v) (h : DataW.Trod enc Tryd.prog W base sp held 22 v d p) :
    ∃ l : List ByteArray, Strs W v l ∧ ∀ i, i < l.length → (l.getD i ByteArray.empty).size ≤ maxLen := by
  obtain ⟨a0, len0, cap0, rfl⟩ := okWide_slice Tryd.underlying22 hv
  obtain ⟨fuel, hf⟩ := h
  rcases open_strings Tryd.underlying22 Tryd.underlying9 (by kernel_rfl) hf with ⟨hcs, _⟩ | ⟨x, l, c, ss, hcs, _, hl, hm, hz, _, hcell, hsz⟩
  · simp [Value.cells] at hcs
    obtain ⟨rfl, rfl, rfl⟩ := hcs
    exact ⟨[], ⟨none, 0, rfl, by unfold maxLen; simp, .inl rfl⟩, fun i hi => by simp at hi⟩
  · simp [Value.cells] at hcs
    obtain ⟨rfl, rfl, rfl⟩ := hcs
    have hlz : len0 ≤ ss.length := by rw [hz]; split <;> omega
    have hlen : (ss.take len0).length = len0 := by rw [List.length_take]; omega
    have hget : ∀ i, i < len0 → (ss.take len0).getD i ByteArray.empty = ss.getD i ByteArray.empty := fun i hi => by
      simp [List.getD_eq_getElem?_getD, hi]
    refine ⟨ss.take len0, ⟨some x, cap0, by rw [hlen], by rw [hlen]; omega, ?_⟩, fun i hi => ?_⟩
    · by_cases h0 : len0 = 0
      · exact .inl (by rw [hlen]; exact h0)
      · obtain ⟨b, off, spot⟩ := x
        have hc := hcell 0 (by omega)
        have hspot : spot = none := by simpa [Addr.add] using World.cell?_spot hc
        subst hspot
        have hblk := World.block_lt_of_cell? W _ hc
        have e0 : ∀ i, (⟨b, off, none⟩ : Addr).add i = ⟨b, off + i, none⟩ := fun i => by unfold Addr.add; split <;> simp_all
        rw [e0] at hblk
        refine .inr ⟨b, off, rfl, hblk, fun i hi => ?_⟩
        rw [hlen] at hi
        rw [hget i hi, ← e0, hcell i (by omega)]
    · rw [hlen] at hi
      rw [hget i hi]
      have hi' : i < ss.length := by omega
      have hm' : ss.getD i ByteArray.empty ∈ ss := by
        rw [List.getD_eq_getElem?_getD, List.getElem?_eq_getElem hi']; exact List.getElem_mem hi'
      exact hsz _ hm'
end Go.Proofs.YtinpoaghedhknaaDoor
