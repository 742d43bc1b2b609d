/- The writer's raw bytes. -/
import Derived.Test.YtfihhkhdigbmiaaGreatDoorWrB
namespace Go.Proofs.YtfihhkhdigbmiaaGreatDoor
open Go.ChangeShapes Go.WideShapes Go.ChangeAt Go.RowKit
set_option linter.unusedVariables false

set_option maxRecDepth 100000 in
set_option maxHeartbeats 1000000 in
theorem raw_any (b : Nat) (v : Value) (xs ys : List Int) (L off cap : Nat) (w : World) (h : Wr w b v xs) (hL : L < w.heap.size)
    (hc : ∀ i, i < ys.length → w.cell? ⟨L, off + i, none⟩ = some (.int .u8 (ys.getD i 0))) (hr : ∀ i, 0 ≤ ys.getD i 0 ∧ ys.getD i 0 ≤ 255) (h0 : 0 < ys.length) (hyl : ys.length ≤ 70000) (hxl : xs.length ≤ 70000) :
    Calls Tryz.prog 90 #[.pointer (some ⟨b, 0, none⟩), .slice (some ⟨L, off, none⟩) ys.length cap] w fun e w' => e = .returned (.tuple #[]) ∧ ∃ v', Wr w' b v' (xs ++ ys) ∧ Touch (WT b v) w w' ∧ Lies v v' w.heap.size := by
  obtain ⟨i0, hi, hz0, hz1, hz2⟩ := info_parts info5
  have HW := hide h
  have hcell := h.1
  have hfr := h.2.1
  have hbl := h.2.2.1
  have hne : some b ≠ v.ownBlock := fun e => by have := (h.row b e.symm).1; omega
  have HN := hide hne
  have hnews : ∀ j u, (ys.map (Value.int .u8))[j]? = some u → w.cell? ((⟨L, off, none⟩ : Addr).add j) = some u := fun j u hu => by
    have hadd : (⟨L, off, none⟩ : Addr).add j = ⟨L, off + j, none⟩ := by unfold Addr.add; split <;> simp_all
    rw [List.getElem?_map] at hu
    rw [hadd]
    by_cases hj : j < ys.length
    · rw [hc j hj]
      rw [List.getElem?_eq_getElem hj] at hu
      rw [List.getD_eq_getElem?_getD, List.getElem?_eq_getElem hj]
      simpa using hu
    · rw [List.getElem?_eq_none (by omega)] at hu; cases hu
  have HH := hide hnews
  have HR := hide hr
  clear h hc hr hne hnews
  go_enter Tryz.func90, Tryz.ntmps90
  go_wp2_with (at_builtin; refine wpList_append_lies _ rfl _ _ _ rfl (b + 1) 5 i0 _ 1 1 Tryz.underlying79 hi hz0 hz1 hz2 rfl (by omega) v xs.length (xs.map (Value.int .u8)) rfl (unhide HW).2.2.2.1 ⟨L, off, none⟩ ys.length cap (ys.map (Value.int .u8)) rfl (by simp) (unhide HH) (by simp [Value.oneCell']) h0 (by unfold maxLen; omega) (by omega) (by omega) w.heap.size rfl ?_; intro gg capg w1 hown1 hgrow hat hlt1; have hc1 : w1.cell? ⟨b, 0, none⟩ = some v := (hgrow.cell_far ⟨b, 0, none⟩ hbl (unhide HN)).trans hcell; have hf1 : w1.frozen? ⟨b, 0, none⟩ = false := (hgrow.frozen_far ⟨b, 0, none⟩ hbl (unhide HN)).trans hfr)
  have R := hide ((unhide HW).appended (ys := ys) (by simpa using hown1) hgrow (by
    rcases hat with e | e
    · left; rw [e]; rfl
    · right; rw [e]; rfl) (unhide HR))
  clear hown1 hgrow hat hlt1
  go_end0
  exact ⟨rfl, _, (unhide R).1, (unhide R).2.1, (unhide R).2.2⟩

end Go.Proofs.YtfihhkhdigbmiaaGreatDoor
