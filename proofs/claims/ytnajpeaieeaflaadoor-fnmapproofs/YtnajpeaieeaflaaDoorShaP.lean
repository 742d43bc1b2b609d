/- impl.padMessage: the message, a byte of 128, zeros, and its length in bits. -/
import Derived.Test.YtnajpeaieeaflaaDoorShaT
import Derived.Laws.CopyOwn
namespace Go.Proofs.YtnajpeaieeaflaaDoor.Sha
open Go.ChangeShapes Go.WideShapes Go.ChangeAt Go.RowKit
set_option linter.unusedVariables false

def padLen (n : Nat) : Nat := (n + 72) / 64 * 64
def lenByte (n i : Nat) : Int := (n : Int) * 8 / 2 ^ (8 * i) % 256
def padK (l : List Int) (k j : Nat) : Int :=
  if j < l.length then l.getD j 0 else if j = l.length then 128 else if padLen l.length - k ≤ j then lenByte l.length (padLen l.length - 1 - j) else 0
/-- The padded message's byte at j. -/
def padAt (l : List Int) (j : Nat) : Int := padK l 8 j
theorem padLen_ge (n : Nat) : n + 9 ≤ padLen n := by unfold padLen; omega
theorem padK_step (l : List Int) (k j : Nat) (hk : k < 8) (hj : j < padLen l.length) :
    (if j = padLen l.length - 1 - k then lenByte l.length k else padK l k j) = padK l (k + 1) j := by
  have := padLen_ge l.length
  unfold padK
  by_cases e : j = padLen l.length - 1 - k
  · subst e
    rw [if_pos rfl, if_neg (by omega), if_neg (by omega), if_pos (by omega)]
    rw [show padLen l.length - 1 - (padLen l.length - 1 - k) = k by omega]
  · rw [if_neg e]
    by_cases h1 : j < l.length
    · rw [if_pos h1, if_pos h1]
    · rw [if_neg h1, if_neg h1]
      by_cases h2 : j = l.length
      · rw [if_pos h2, if_pos h2]
      · rw [if_neg h2, if_neg h2]
        by_cases h3 : padLen l.length - k ≤ j
        · rw [if_pos h3, if_pos (by omega)]
        · rw [if_neg h3, if_neg (by omega)]
theorem padK_zero (l : List Int) (j : Nat) (hj : j < padLen l.length) : (if j = l.length then 128 else if j < l.length then l.getD j 0 else 0) = padK l 0 j := by
  unfold padK
  by_cases h1 : j < l.length
  · rw [if_neg (by omega), if_pos h1, if_pos h1]
  · rw [if_neg h1, if_neg h1]
    by_cases h2 : j = l.length
    · rw [if_pos h2, if_pos h2]
    · rw [if_neg h2, if_neg h2, if_neg (by omega)]
theorem own_full {w : World} {base e g n : Nat} {xs : List Value} (h : w.ownsRow base e 1 (.slice (some ⟨g, 0, none⟩) n n) n xs) : w.heap[g]? = some (.cells xs.toArray e (0, 0)) := by
  obtain ⟨hl, ⟨h', _⟩ | ⟨g', cap, cur, h', hb, hg, hn, hc, hz, ht⟩⟩ := h
  · simp at h'
  · simp only [Value.slice.injEq, Option.some.injEq, Addr.mk.injEq, and_true, true_and] at h'
    obtain ⟨rfl, rfl⟩ := h'
    rw [hg]
    have : cur.toList = xs := by
      rw [← ht]
      exact (List.take_of_length_le (by rw [Array.length_toList, hz]; exact Nat.le_refl _)).symm
    rw [← this]
theorem copied_row {w : World} {g N : Nat} {l : List Int} (hN : l.length ≤ N)
    (h : w.heap[g]? = some (.cells (splice (List.replicate N (Value.int .u8 0)) 0 (l.map (Value.int .u8))).toArray 5 (0, 0))) : Row8 w g N (fun j => if j < l.length then l.getD j 0 else 0) := by
  intro j hj
  refine ⟨?_, frozen_of_row w g j _ 5 h⟩
  rw [cell_of_row w g j _ 5 (0, 0) h]
  simp only [splice, List.getElem?_toArray, List.take_zero, List.nil_append, Nat.zero_add, List.length_map]
  by_cases hjl : j < l.length
  · rw [if_pos hjl, List.getElem?_append_left (by simpa using hjl)]
    simp [List.getD, hjl]
  · rw [if_neg hjl, List.getElem?_append_right (by simp; omega), List.getElem?_drop, List.getElem?_replicate, if_pos (by simp; omega)]

theorem own_zero {w : World} {base g n : Nat} (h : w.ownsRow base 5 1 (.slice (some ⟨g, 0, none⟩) n n) n (madeCells (Value.int .u8 0).cells (n * 1)).toList) :
    w.heap[g]? = some (.cells (List.replicate n (Value.int .u8 0)).toArray 5 (0, 0)) := by
  have hfull := own_full h
  rw [show (Value.int IntKind.u8 0).cells = #[Value.int IntKind.u8 0] from rfl, Nat.mul_one, toList_madeCells_one] at hfull
  exact hfull
theorem made_below {w w1 : World} (hg : w.grownBy w1 none) : Below w.heap.size w w1 := (Below.refl _ _).grown hg (Nat.le_refl _) (fun k h => by cases h)
theorem bytes_one (l : List Int) : ∀ v ∈ l.map (Value.int .u8), v.oneCell' = true := by
  intro v hv
  simp only [List.mem_map] at hv
  obtain ⟨x, _, rfl⟩ := hv
  rfl
theorem copy_src {w w1 : World} {a : Option Addr} {l : List Int} {g : Nat} (hc : l.length = 0 ∨ ∃ b off, a = some ⟨b, off, none⟩ ∧ b < w.heap.size ∧ ∀ i, i < l.length → w.cell? ⟨b, off + i, none⟩ = some (.int .u8 (l.getD i 0))) (hb1 : Below w.heap.size w w1) :
    0 < (l.map (Value.int .u8)).length → some (⟨g, 0, none⟩ : Addr) = some ⟨g, 0, none⟩ ∧ ∃ ad, a = some ad ∧ ∀ j v, (l.map (Value.int .u8))[j]? = some v → w1.cell? (ad.add j) = some v := by
  intro h0
  rcases hc with h | ⟨b, off, rfl, hblk, hcell⟩
  · simp at h0; omega
  · refine ⟨rfl, _, rfl, fun j v hv => ?_⟩
    have hj : j < l.length := by have := (List.getElem?_eq_some_iff.1 hv).1; simpa using this
    rw [show (⟨b, off, none⟩ : Addr).add j = ⟨b, off + j, none⟩ by unfold Addr.add; split <;> simp_all]
    rw [hb1.cell (p := ⟨b, off + j, none⟩) hblk, hcell j hj, ← hv]
    simp [List.getD, hj]
set_option maxRecDepth 100000 in
set_option maxHeartbeats 1000000 in
theorem pad_any (v : Value) (l : List Int) (w : World) (h : Bytes w v l) (hs : l.length ≤ 65536) :
    Calls Tryd.prog 54 #[v] w fun e w' => ∃ g, e = .returned (.slice (some ⟨g, 0, none⟩) (padLen l.length) (padLen l.length)) ∧ w.heap.size ≤ g ∧ g < w'.heap.size ∧ Row8 w' g (padLen l.length) (padAt l) ∧ Below w.heap.size w w' := by
  obtain ⟨a, cap, rfl, hm, hc, hr⟩ := h
  obtain ⟨i0, hi, hz0, hz1, hz2⟩ := info_parts info5
  have HC := hide hc
  clear hc hr hm
  have hNle : padLen l.length ≤ 65700 := by unfold padLen; omega
  have hNge := padLen_ge l.length
  have hNe : ((l.length : Int) + 1 + 8 + 64 - 1) / 64 * 64 = (padLen l.length : Int) := by unfold padLen; omega
  go_enter Tryd.func54, Tryd.ntmps54
  have hinfo : (Tryd.prog.info? 5).map (·.size) = some 1 := by kernel_rfl
  go_wp2_with (first | (at_make; refine wpList_make_full _ rfl _ _ 22 rfl w.heap.size 5 i0 _ 1 Tryd.underlying22 hi hz0 hz1 .i64 .i64 _ _ (padLen l.length) rfl rfl rfl rfl (by rw [hz2]; omega) (by unfold maxLen; omega) (Nat.le_refl _) ?_; intro w1 hown1 hg1) | (refine wpList_copy_splice rfl _ _ 22 22 rfl 5 Tryd.underlying22 hinfo _ _ _ _ _ _ rfl rfl w.heap.size 0 _ 5 (own_zero hown1) (l.map (Value.int .u8)) (by rw [List.length_map]; exact (Nat.min_eq_left (by omega)).symm) (copy_src (unhide HC) (made_below hg1)) (by simp; omega) (bytes_one l) w.heap.size w (made_below hg1) (Nat.le_refl _) ?_; intro w2 hrow2 hb2; have hR := hide (copied_row (l := l) (N := padLen l.length) (by omega) hrow2.out); have cc := (unhide hR l.length (by omega)).1; have zz := (unhide hR l.length (by omega)).2))
  have HB := hide hb2
  have hblk : w.heap.size < w2.heap.size := World.block_lt_of_cell? w2 _ cc
  have hP0 : Row8 (w2.setCell ⟨w.heap.size, l.length, none⟩ (.int .u8 128)) w.heap.size (padLen l.length) (padK l 0) := ((unhide hR).set l.length 128).congr fun j hj => padK_zero l j hj
  have HP0 := hide hP0
  clear hP0 hb2 hrow2 hR cc zz hown1 hg1
  go_loopw [6, 28] (fun _ i wr => ∃ k : Nat, k ≤ 8 ∧ i = .int .i64 k ∧ Row8 wr w.heap.size (padLen l.length) (padK l k) ∧ w.heap.size < wr.heap.size ∧ Below w.heap.size w wr)
    (fun _ i _ => 8 - (intOf i).toNat)
  case atStart => exact ⟨0, Nat.zero_le _, rfl, unhide HP0, by simpa using hblk, (unhide HB).setCell (by simp) _⟩
  case round =>
    clear HP0 HB hblk
    obtain ⟨k, hk, rfl, hX, hblk, hbel⟩ := hrel
    by_cases hlt : k < 8
    · have c1 := (hX (padLen l.length - 1 - k) (by omega)).1
      have z1 := (hX (padLen l.length - 1 - k) (by omega)).2
      have hX' := hide hX
      have hb' := hide hbel
      have hk0 : (0 : Int) ≤ (k : Int) := by omega
      have hk1 : (k : Int) < 8 := by omega
      have hidx : (padLen l.length : Int) - 1 - (k : Int) = ((padLen l.length - 1 - k : Nat) : Int) := by omega
      have hi0' : (0 : Int) ≤ ((padLen l.length - 1 - k : Nat) : Int) := by omega
      have hi1' : ((padLen l.length - 1 - k : Nat) : Int) < (padLen l.length : Int) := by omega
      clear hX hbel
      go_wp2_with fail
      have hst : Row8 _ _ (padLen l.length) (padK l (k + 1)) := ((unhide hX').set (padLen l.length - 1 - k) (lenByte l.length k)).congr fun j hj => padK_step l k j hlt hj
      refine ⟨⟨k + 1, by omega, by go_num, hst, by simpa using hblk, (unhide hb').setCell (by simp) _⟩, ?_⟩
      simp [intOf]; omega
    · obtain rfl : k = 8 := by omega
      have HX := hide hX
      have hb' := hide hbel
      clear hX hbel
      go_wp2_with fail
      go_ret
      exact ⟨w.heap.size, rfl, Nat.le_refl _, hblk, unhide HX, unhide hb'⟩
end Go.Proofs.YtnajpeaieeaflaaDoor.Sha
