/- laws.toByteS once more: the copy is the call's own. -/
import Derived.Test.YtjkmnnjagcabdaiMark
import Derived.Test.YtjkmnnjagcabdaiCopies
namespace Go.Proofs.Ytjkmnnjagcabdai
open Go.ChangeShapes Go.WideShapes Go.ChangeAt Go.RowKit
set_option linter.unusedVariables false

theorem Laid.ownG {B : Nat} {w : World} {g cap : Nat} {f : Nat → Int} {l : List Int} (h : Laid w g cap f l.length) (hf : ∀ j, j < l.length → f j = l.getD j 0) (hr : ∀ i, 0 ≤ l.getD i 0 ∧ l.getD i 0 ≤ 255) (hB : B ≤ g) (hm : cap ≤ maxLen) : OwnB B w (.slice (some ⟨g, 0, none⟩) l.length cap) l := by
  obtain ⟨cur, hg, hs, hn, hc⟩ := h
  refine ⟨⟨by simp, .inr ⟨g, cap, cur, rfl, hB, hg, hn, hm, by simpa using hs, ?_⟩⟩, hr⟩
  apply List.ext_getElem?
  intro j
  rw [Nat.mul_one, List.getElem?_take, Array.getElem?_toList, List.getElem?_map]
  by_cases hj : j < l.length
  · rw [if_pos hj, hc j hj, hf j hj, List.getD_eq_getElem?_getD, List.getElem?_eq_getElem hj]; rfl
  · rw [if_neg hj, List.getElem?_eq_none (by omega)]; rfl
set_option maxRecDepth 100000 in
set_option maxHeartbeats 1000000 in
theorem toByteS_own (v : Value) (l : List Int) (w : World) (h : Bytes w v l) (hs : l.length ≤ 1048576) :
    Calls Try.prog 10 #[v] w fun e w' => ∃ v', e = .returned v' ∧ OwnB w.heap.size w' v' l ∧ Below w.heap.size w w' := by
  obtain ⟨i0, hi, hz0, hz1, hz2⟩ := info_parts info5
  obtain ⟨a, cap, rfl, hm, hc, hr⟩ := h
  have HC := hide hc
  have HR := hide hr
  clear hc hm hr
  go_enter Try.func10, Try.ntmps10
  go_wp2_with (at_make; refine wpList_make_full _ rfl _ _ 22 rfl w.heap.size 5 i0 _ 1 Try.underlying22 hi hz0 hz1 .i64 .i64 _ _ l.length rfl rfl rfl rfl (by rw [hz2]; omega) (by unfold maxLen; omega) (Nat.le_refl _) ?_; intro w1 hown1 hg1)
  have hz : Laid w1 w.heap.size l.length (copied l 0) l.length := by
    obtain ⟨hl1, hc1⟩ := hown1
    rcases hc1 with ⟨hv, _⟩ | ⟨g', cap', cur, hv, hb, hg, hn, hm, hs1, ht⟩
    · cases hv
    · cases hv
      refine ⟨cur, hg, by simpa using hs1, hn, fun j hj => ?_⟩
      have e := congrArg (fun z : List Value => z[j]?) ht
      have e3 : (Value.int IntKind.u8 0).cells = #[Value.int IntKind.u8 0] := rfl
      rw [e3, Nat.mul_one, toList_madeCells_one] at e
      simp only [List.getElem?_take, if_pos hj, Array.getElem?_toList] at e
      rw [e]; simp [hj, copied]
  have HZ := hide (And.intro hz ((Below.refl w.heap.size w).grown hg1 (Nat.le_refl _) (fun k h => by cases h)))
  clear hown1 hg1 hz
  go_loopw [4] (fun i wr => ∃ k : Nat, k ≤ l.length ∧ i = .int .i64 k ∧ Laid wr w.heap.size l.length (copied l k) l.length ∧ Below w.heap.size w wr) (fun i _ => l.length - (intOf i).toNat)
  case atStart => exact ⟨0, Nat.zero_le _, rfl, (unhide HZ).1, (unhide HZ).2⟩
  case round =>
    obtain ⟨k, hk, rfl, hL, hbel⟩ := hrel
    by_cases hlt : k < l.length
    · obtain ⟨b, off, rfl, hbl, hsrc⟩ : ∃ b off, a = some ⟨b, off, none⟩ ∧ b < w.heap.size ∧ ∀ i, i < l.length → w.cell? ⟨b, off + i, none⟩ = some (.int .u8 (l.getD i 0)) := by
        rcases unhide HC with h0 | h1
        · omega
        · exact h1
      have hs1 : wr.cell? ⟨b, off + k, none⟩ = some (.int .u8 (l.getD k 0)) := (hbel.cell (p := ⟨b, off + k, none⟩) hbl).trans (hsrc k hlt)
      have hk0 : (0 : Int) ≤ (k : Int) := by omega
      have hk1 : (k : Int) < (l.length : Int) := by omega
      obtain ⟨d1, d2⟩ := hL.cell k hlt
      have R := hide (And.intro (hL.set (f' := copied l (k + 1)) k (l.getD k 0) hlt (by unfold copied; rw [if_pos (by omega)]) (fun j hj => copied_old hj)) (hbel.setCell (p := ⟨w.heap.size, k, none⟩) (Nat.le_refl _) (.int .u8 (l.getD k 0))))
      clear hL hbel hsrc
      generalize l.getD k 0 = x at *
      go_wp2_with fail
      refine ⟨⟨k + 1, by omega, by go_num, (unhide R).1, (unhide R).2⟩, ?_⟩
      simp [intOf]; omega
    · obtain rfl : k = l.length := by omega
      have R := hide (And.intro (Laid.ownG (B := w.heap.size) hL (fun j hj => by unfold copied; rw [if_pos hj]) (unhide HR) (Nat.le_refl _) (by unfold maxLen; omega)) hbel)
      clear hL hbel
      go_wp2_with fail
      go_ret
      exact ⟨_, rfl, (unhide R).1, (unhide R).2⟩
end Go.Proofs.Ytjkmnnjagcabdai
