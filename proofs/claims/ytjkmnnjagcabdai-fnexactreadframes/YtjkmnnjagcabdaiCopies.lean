/- A slice's copy by laws.toByteS, and that laws.eqByteS tells two alike. -/
import Derived.Test.YtjkmnnjagcabdaiBytes
namespace Go.Proofs.Ytjkmnnjagcabdai
open Go.ChangeShapes Go.WideShapes Go.ChangeAt Go.RowKit
set_option linter.unusedVariables false

def copied (l : List Int) (k j : Nat) : Int := if j < k then l.getD j 0 else 0
theorem copied_old {l : List Int} {k j : Nat} (h : j ≠ k) : copied l (k + 1) j = copied l k j := by
  unfold copied
  by_cases h1 : j < k
  · rw [if_pos h1, if_pos (by omega)]
  · rw [if_neg h1, if_neg (by omega)]
theorem copied_zero {w w1 : World} {n : Nat} {l : List Int} (h : w1.ownsRow w.heap.size 5 1 (.slice (some ⟨w.heap.size, 0, none⟩) n n) n (madeCells (Value.int .u8 0).cells (n * 1)).toList) :
    (∀ j, j < n → w1.cell? ⟨w.heap.size, j, none⟩ = some (.int .u8 (copied l 0 j))) ∧ (∀ j, j < n → w1.frozen? ⟨w.heap.size, j, none⟩ = false) := by
  refine ⟨fun j hj => ?_, fun j _ => h.frozenAt j⟩
  rw [h.cellAt j (by omega)]
  have e : (Value.int IntKind.u8 0).cells = #[Value.int IntKind.u8 0] := rfl
  rw [e, Nat.mul_one, toList_madeCells_one]
  simp [hj, copied]
theorem copied_step {g k n : Nat} (hk : k < n) {B : Nat} (hB : B ≤ g) {l : List Int} {w wr : World}
    (hc : ∀ j, j < n → wr.cell? ⟨g, j, none⟩ = some (.int .u8 (copied l k j))) (hf : ∀ j, j < n → wr.frozen? ⟨g, j, none⟩ = false) (hb : Below B w wr) :
    (∀ j, j < n → (wr.setCell ⟨g, k, none⟩ (.int .u8 (l.getD k 0))).cell? ⟨g, j, none⟩ = some (.int .u8 (copied l (k + 1) j))) ∧
    (∀ j, j < n → (wr.setCell ⟨g, k, none⟩ (.int .u8 (l.getD k 0))).frozen? ⟨g, j, none⟩ = false) ∧
    Below B w (wr.setCell ⟨g, k, none⟩ (.int .u8 (l.getD k 0))) := by
  refine ⟨fun j hj => ?_, fun j hj => ?_, hb.setCell hB _⟩
  · by_cases e : j = k
    · subst e
      rw [show copied l (j + 1) j = l.getD j 0 by unfold copied; rw [if_pos (by omega)]]
      exact World.cell?_setCell_same wr _ _ (hc j hj)
    · rw [copied_old e, World.cell?_setCell_other wr _ _ _ (fun h => e (by simpa using (congrArg Addr.off h).symm))]
      exact hc j hj
  · rw [World.frozen?_setCell]; exact hf j hj

set_option maxRecDepth 100000 in
set_option maxHeartbeats 1000000 in
theorem toByteS_any (v : Value) (l : List Int) (w : World) (h : Bytes w v l) (hs : l.length ≤ 1048576) :
    Calls Try.prog 10 #[v] w fun e w' => ∃ g, e = .returned (.slice (some ⟨g, 0, none⟩) l.length l.length) ∧ (w.heap.size ≤ g ∧ g < w'.heap.size) ∧ Bytes w' (.slice (some ⟨g, 0, none⟩) l.length l.length) l ∧ Below w.heap.size w w' := by
  obtain ⟨a, cap, rfl, hm, hc, hr⟩ := h
  obtain ⟨i0, hi, hz0, hz1, hz2⟩ := info_parts info5
  have HC := hide hc
  have HR := hide hr
  clear hc hr hm
  go_enter Try.func10, Try.ntmps10
  go_wp2_with (at_make; refine wpList_make_full _ rfl _ _ 22 rfl w.heap.size 5 i0 _ 1 Try.underlying22 hi hz0 hz1 .i64 .i64 _ _ l.length rfl rfl rfl rfl (by rw [hz2]; omega) (by unfold maxLen; omega) (Nat.le_refl _) ?_; intro w1 hown1 hg1)
  go_loopw [4] (fun i wr => ∃ k : Nat, k ≤ l.length ∧ i = .int .i64 k ∧ (∀ j, j < l.length → wr.cell? ⟨w.heap.size, j, none⟩ = some (.int .u8 (copied l k j))) ∧ (∀ j, j < l.length → wr.frozen? ⟨w.heap.size, j, none⟩ = false) ∧ Below w.heap.size w wr ∧ w.heap.size < wr.heap.size)
    (fun i _ => l.length - (intOf i).toNat)
  case atStart =>
    have hz := copied_zero (l := l) hown1
    have hlt := (hown1.lt w.heap.size rfl).2
    exact ⟨0, Nat.zero_le _, rfl, hz.1, hz.2, (Below.refl _ _).grown hg1 (Nat.le_refl _) (fun k h => by cases h), hlt⟩
  case round =>
    clear hown1 hg1
    obtain ⟨k, hk, rfl, hcell, hfro, hbel, hblk⟩ := hrel
    by_cases hlt : k < l.length
    · obtain ⟨b, off, rfl, hbl, hsrc⟩ : ∃ b off, a = some ⟨b, off, none⟩ ∧ b < w.heap.size ∧ ∀ i, i < l.length → w.cell? ⟨b, off + i, none⟩ = some (.int .u8 (l.getD i 0)) := by
        rcases unhide HC with h0 | h1
        · omega
        · exact h1
      have hs1 : wr.cell? ⟨b, off + k, none⟩ = some (.int .u8 (l.getD k 0)) := (hbel.cell (p := ⟨b, off + k, none⟩) hbl).trans (hsrc k hlt)
      have hd1 := hcell k hlt
      have hd2 := hfro k hlt
      have hk0 : (0 : Int) ≤ (k : Int) := by omega
      have hk1 : (k : Int) < (l.length : Int) := by omega
      have R := hide (copied_step hlt (Nat.le_refl _) hcell hfro hbel)
      clear hcell hfro hbel hsrc
      generalize l.getD k 0 = x at *
      go_wp2_with fail
      refine ⟨⟨k + 1, by omega, by go_num, (unhide R).1, (unhide R).2.1, (unhide R).2.2, by simpa using hblk⟩, ?_⟩
      simp [intOf]; omega
    · obtain rfl : k = l.length := by omega
      have H := hide hcell
      have HB := hide hbel
      clear hcell hfro hbel
      go_wp2_with fail
      go_ret
      refine ⟨w.heap.size, rfl, ⟨Nat.le_refl _, hblk⟩, ⟨_, _, rfl, by unfold maxLen; omega, .inr ⟨_, 0, rfl, hblk, fun i hi => ?_⟩, unhide HR⟩, unhide HB⟩
      rw [Nat.zero_add, unhide H i hi]
      unfold copied; rw [if_pos hi]

set_option maxRecDepth 100000 in
set_option maxHeartbeats 1000000 in
theorem eqByteS_any (v v2 : Value) (l : List Int) (w : World) (h : Bytes w v l) (h2 : Bytes w v2 l) (hs : l.length ≤ 1048576) :
    Calls Try.prog 13 #[v, v2] w fun e w' => e = .returned (.bool true) ∧ ∃ n, w' = w.drewN n := by
  obtain ⟨a, cap, rfl, hm, hc, hr⟩ := h
  obtain ⟨a2, cap2, rfl, hm2, hc2, hr2⟩ := h2
  have HC := hide hc
  have HC2 := hide hc2
  clear hc hr hm hc2 hm2 hr2
  go_enter Try.func13, Try.ntmps13
  go_wp2_with fail
  go_loopw [5] (fun i wr => ∃ k n : Nat, k ≤ l.length ∧ i = .int .i64 k ∧ wr = w.drewN n) (fun i _ => l.length - (intOf i).toNat)
  case atStart => exact ⟨0, 0, Nat.zero_le _, rfl, rfl⟩
  case round =>
    obtain ⟨k, n, hk, rfl, rfl⟩ := hrel
    by_cases hlt : k < l.length
    · obtain ⟨b, off, rfl, hbl, hsrc⟩ : ∃ b off, a = some ⟨b, off, none⟩ ∧ b < w.heap.size ∧ ∀ i, i < l.length → w.cell? ⟨b, off + i, none⟩ = some (.int .u8 (l.getD i 0)) := by
        rcases unhide HC with h0 | h1
        · omega
        · exact h1
      obtain ⟨b2, off2, rfl, hbl2, hsrc2⟩ : ∃ b off, a2 = some ⟨b, off, none⟩ ∧ b < w.heap.size ∧ ∀ i, i < l.length → w.cell? ⟨b, off + i, none⟩ = some (.int .u8 (l.getD i 0)) := by
        rcases unhide HC2 with h0 | h1
        · omega
        · exact h1
      have hs1 : w.cell? ⟨b, off + k, none⟩ = some (.int .u8 (l.getD k 0)) := hsrc k hlt
      have hs2 : w.cell? ⟨b2, off2 + k, none⟩ = some (.int .u8 (l.getD k 0)) := hsrc2 k hlt
      have hk0 : (0 : Int) ≤ (k : Int) := by omega
      have hk1 : (k : Int) < (l.length : Int) := by omega
      clear hsrc hsrc2
      generalize l.getD k 0 = x at *
      go_wp2_with fail
      go_quiet (fail)
      go_wp2_with fail
      refine ⟨⟨k + 1, n + nq, by omega, by go_num, rfl⟩, ?_⟩
      simp [intOf]; omega
    · go_wp2_with fail
      go_ret
      exact ⟨rfl, n, rfl⟩
end Go.Proofs.Ytjkmnnjagcabdai
