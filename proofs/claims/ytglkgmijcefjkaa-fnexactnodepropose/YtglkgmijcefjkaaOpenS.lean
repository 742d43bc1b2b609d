/- A state that came in, opened. -/
import Derived.Test.YtglkgmijcefjkaaStL
import Derived.Deep.Fields
import Derived.Deep.Slices
import Derived.Test.YtglkgmijcefjkaaLawG
namespace Go.Proofs.Ytglkgmijcefjkaa
open Go.ChangeShapes Go.WideShapes Go.ChangeAt Go.RowKit Go.Deep
set_option linter.unusedVariables false

theorem array3s {α : Type} {cs : Array α} (h : cs.size = 3) : ∃ c0 c1 c2, cs = #[c0, c1, c2] := by
  obtain ⟨l⟩ := cs
  match l, h with
  | [c0, c1, c2], _ => exact ⟨c0, c1, c2, rfl⟩
set_option maxRecDepth 100000 in
theorem open_entries {H : Type} {enc : TypeId × Value → H} {W : World} {base : Nat} {sp : Nat → Bool} {held : Bool} {fuel : Nat} {c : Value} {x : DataW H × List MemPlace}
    (h : DataW.trod enc Try.prog W base sp held fuel 22 [c] = some x) :
    ∃ l : List En, Ens W c l ∧ ∀ i, i < l.length → (l.getD i default).d.size ≤ maxLen := by
  have i3 : Try.prog.cellsOf 3 = 1 := by kernel_rfl
  have i9 : Try.prog.cellsOf 9 = 1 := by kernel_rfl
  have iF : Try.prog.cellsOf 66 = 3 := by kernel_rfl
  rcases open_slice Try.underlying22 h with ⟨hc, _⟩ | ⟨a, len, cap, m, n, D, Pl, hc, hb, hl, hm, hmm, _, hx⟩
  · simp only [List.cons.injEq, and_true] at hc
    subst hc
    exact ⟨[], ⟨none, 0, rfl, Nat.le_refl _, by unfold maxLen; omega, .inl rfl⟩, fun i hi => by simp at hi⟩
  · simp only [List.cons.injEq, and_true] at hc
    subst hc
    have hlm : len ≤ m := by rw [hmm]; split <;> omega
    rw [iF] at hx
    have each : ∀ i, i < len → ∃ f : En, W.cell? (a.add (i * 3)) = some (.int .i64 f.t) ∧ W.cell? (a.add (i * 3 + 1)) = some (.int .i64 f.k) ∧ W.cell? (a.add (i * 3 + 2)) = some (.string f.d) ∧ f.d.size ≤ maxLen := by
      intro i hi
      obtain ⟨cs', h1, h2⟩ := hx i (by omega)
      obtain ⟨_, hlen, hcell⟩ := World.cells?_some h1
      obtain ⟨xs, k, hk, hxy, _, hxl, hf⟩ := DataW.trod_struct Try.underlying66 h2
      match cs', hlen with
      | [v0, v1, v2], _ =>
        obtain ⟨y0, e0⟩ := get_some hxl (show 0 < 3 by omega)
        obtain ⟨y1, e1⟩ := get_some hxl (show 1 < 3 by omega)
        obtain ⟨y2, e2⟩ := get_some hxl (show 2 < 3 by omega)
        have g0 : DataW.trod enc Try.prog W base sp held k 3 [v0] = some y0 := by simpa [Value.cells, i3] using (hf 0 _ rfl).trans e0
        have g1 : DataW.trod enc Try.prog W base sp held k 3 [v1] = some y1 := by simpa [Value.cells, i3] using (hf 1 _ rfl).trans e1
        have g2 : DataW.trod enc Try.prog W base sp held k 9 [v2] = some y2 := by simpa [Value.cells, i9] using (hf 2 _ rfl).trans e2
        obtain ⟨a0, f0, _, q0⟩ := DataW.trod_int Try.underlying3 g0
        obtain ⟨a1, f1, _, q1⟩ := DataW.trod_int Try.underlying3 g1
        obtain ⟨a2, f2, _, q2⟩ := DataW.trod_string Try.underlying9 g2
        simp only [List.cons.injEq, and_true] at f0 f1 f2
        subst f0 f1 f2
        have c0 := hcell 0 (by omega)
        have c1 := hcell 1 (by omega)
        have c2 := hcell 2 (by omega)
        rw [add_add] at c0 c1 c2
        exact ⟨⟨a0, a1, a2⟩, by simpa using c0, by simpa using c1, by simpa using c2, q2⟩
    obtain ⟨F, hF⟩ := choose_lt each
    have hlen : ((List.range len).map F).length = len := by simp
    have hget : ∀ i, i < len → ((List.range len).map F).getD i default = F i := fun i hi => by simp [List.getD_eq_getElem?_getD, hi]
    refine ⟨(List.range len).map F, ⟨some a, cap, by rw [hlen], by rw [hlen]; exact hl, hm, ?_⟩, fun i hi => ?_⟩
    · by_cases h0 : len = 0
      · exact .inl (by rw [hlen]; exact h0)
      · obtain ⟨b, off, spot⟩ := a
        have hc := (hF 0 (by omega)).1
        have hspot : spot = none := by simpa [Addr.add] using World.cell?_spot hc
        subst hspot
        have hblk := World.block_lt_of_cell? W _ hc
        have e0 : ∀ i, (⟨b, off, none⟩ : Addr).add i = ⟨b, off + i, none⟩ := fun i => by unfold Addr.add; split <;> simp_all
        rw [e0] at hblk
        refine .inr ⟨b, off, rfl, hblk, fun i hi => ?_⟩
        rw [hlen] at hi
        obtain ⟨k0, k1, k2, _⟩ := hF i hi
        rw [e0] at k0 k1 k2
        rw [hget i hi]
        exact ⟨k0, by rw [Nat.add_assoc]; exact k1, by rw [Nat.add_assoc]; exact k2⟩
    · rw [hlen] at hi
      rw [hget i hi]
      exact (hF i hi).2.2.2
/-- A state that the laws measure is small. -/
theorem esmall_of (L : Int) (hL : L ≤ 1048576) (l : List En) (h : 0 ≤ eszR L l) : l.length ≤ 1048576 ∧ ∀ i, (l.getD i default).d.size ≤ 1048576 := by
  have h1 : (l.length : Int) + ewTo l l.length ≤ L := by
    unfold eszR at h
    split at h
    · assumption
    · omega
  have hw0 := ew_mono l 0 l.length (Nat.zero_le _)
  have hw00 : ewTo l 0 = 0 := rfl
  refine ⟨by omega, fun i => ?_⟩
  by_cases hi : i < l.length
  · have e2 : ewTo l (i + 1) = ewTo l i + ((l.getD i default).d.size : Int) := rfl
    have := ew_mono l (i + 1) l.length (by omega)
    have := ew_mono l 0 i (Nat.zero_le _)
    omega
  · rw [List.getD_eq_getElem?_getD, List.getElem?_eq_none (by omega)]
    have e : (default : En).d.size = 0 := rfl
    simp only [Option.getD_none]
    omega
theorem eszR_cases (L : Int) (l : List En) : eszR L l = -1 ∨ (0 ≤ eszR L l ∧ eszR L l ≤ L) := by
  have hw0 := ew_mono l 0 l.length (Nat.zero_le _)
  have hw00 : ewTo l 0 = 0 := rfl
  unfold eszR; split
  · right; omega
  · left; rfl
end Go.Proofs.Ytglkgmijcefjkaa
