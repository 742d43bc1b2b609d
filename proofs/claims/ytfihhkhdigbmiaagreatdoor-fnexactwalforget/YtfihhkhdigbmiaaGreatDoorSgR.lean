/- The log read: (*segmentLog).read. -/
import Derived.Test.YtfihhkhdigbmiaaGreatDoorSgM
import Derived.Test.YtfihhkhdigbmiaaGreatDoorRdF
import Derived.Deep.RegionHeld3
namespace Go.Proofs.YtfihhkhdigbmiaaGreatDoor
open Go.ChangeShapes Go.WideShapes Go.ChangeAt Go.RowKit
set_option linter.unusedVariables false
set_option linter.unusedSimpArgs false

instance : Inhabited (Fl × Value) := ⟨(default, undef)⟩
theorem sgC_get : ∀ (xs : List (Fl × Value)) (k j : Nat), k < xs.length → j < 5 → (xs.flatMap sgC)[k * 5 + j]? = (sgC (xs.getD k default))[j]?
  | [], k, j, h, _ => by simp at h
  | x :: xs, 0, j, _, hj => by
    rw [List.flatMap_cons, List.getElem?_append_left (by simp [sgC]; omega)]; simp
  | x :: xs, k + 1, j, h, hj => by
    have e : (k + 1) * 5 + j = 5 + (k * 5 + j) := by omega
    rw [List.flatMap_cons, List.getElem?_append_right (by simp [sgC]; omega), e]
    have := sgC_get xs k j (by simpa using h) hj
    simpa [sgC] using this
theorem OwnG.form {B : Nat} {w : World} {v : Value} {xs : List (Fl × Value)} (h : OwnG B w v xs) : ∃ a cap, v = .slice a xs.length cap ∧ xs.length ≤ cap ∧ cap ≤ maxLen ∧ ∀ k, k < xs.length → ∃ g, a = some ⟨g, 0, none⟩ ∧ v.ownBlock = some g ∧ g < w.heap.size ∧ ∀ j u, (sgC (xs.getD k default))[j]? = some u → w.cell? ⟨g, k * 5 + j, none⟩ = some u := by
  rcases own_shape h.1 with ⟨rfl, h0⟩ | ⟨g, cap, rfl, hb, hlt, hn, hm⟩
  · exact ⟨none, 0, by rw [h0], by omega, by unfold maxLen; omega, fun k hk => by omega⟩
  · refine ⟨_, _, rfl, hn, hm, fun k hk => ⟨g, rfl, rfl, hlt, fun j u hu => ?_⟩⟩
    have hj : j < 5 := by
      rcases Nat.lt_or_ge j 5 with h | h
      · exact h
      · rw [List.getElem?_eq_none (by simpa [sgC] using h)] at hu; cases hu
    have := sgC_get xs k j hk hj
    rw [hu] at this
    rw [h.1.cellAt (k * 5 + j) (by omega)]
    exact this
theorem frP_range (b : List Int) (hb : ∀ i, 0 ≤ b.getD i 0 ∧ b.getD i 0 ≤ 255) : ∀ n p, b.length - p = n → ∀ d ∈ (frP b p).1, ∀ i, 0 ≤ d.getD i 0 ∧ d.getD i 0 ≤ 255 := by
  intro n
  induction n using Nat.strongRecOn with
  | ind n ih =>
    intro p hp d hd
    rw [frP] at hd
    split at hd
    · split at hd
      · rename_i h1 h2
        rcases List.mem_cons.1 hd with rfl | hd
        · obtain ⟨_, _, _, _, _, he, _⟩ := frStep_ok (d := (frStep (b.drop p)).2) (by rw [← h2])
          rw [he]
          exact range_take _ (range_drop 6 (range_drop p hb))
        · exact ih (b.length - (p + 6 + (frStep (b.drop p)).2.length)) (by omega) _ rfl d hd
      · cases hd
    · cases hd
theorem frF_range (f : Fl) : ∀ i, ∀ j, 0 ≤ ((frF f).1.getD i []).getD j 0 ∧ ((frF f).1.getD i []).getD j 0 ≤ 255 := by
  intro i j
  by_cases hi : i < (frF f).1.length
  · refine frP_range (bytesI f.d) (bytesI_range f.d) _ 0 rfl _ ?_ j
    rw [List.getD_eq_getElem?_getD, List.getElem?_eq_getElem hi]
    exact List.getElem_mem _
  · have e : (frF f).1.getD i [] = [] := by rw [List.getD_eq_getElem?_getD, List.getElem?_eq_none (by omega)]; rfl
    rw [e]; simp
/-- The number of a headed segment. -/
theorem head_num {d : List Int} (hr : ∀ i, 0 ≤ d.getD i 0 ∧ d.getD i 0 ≤ 255) (h : d.length = 4) : (numP 4 (some (bytesI (strOfNums d)))).1 = dec d ∧ 0 ≤ dec d ∧ dec d < 4294967296 := by
  have e : bytesI (strOfNums d) = d := by
    have := bytes_back2 d hr
    unfold bytesI
    exact this.symm
  rw [e]
  refine ⟨by simp [numP, takeP, h, List.take_of_length_le], ?_⟩
  have := decN_lo d hr d.length
  unfold dec
  rw [h] at this ⊢
  simpa using this
/-- The log's own cells, what was read so far. -/
def LgS (w0 : World) (lb : Nat) (gv : Value) (wr : World) (L : Lg) (rv nv : Value) : Prop :=
  Blk wr lb [.int .i64 L.first, rv, nv, .int .i64 L.torn, gv] ∧ OwnS w0.heap.size wr rv L.recs ∧ OwnS w0.heap.size wr nv L.names ∧ (∀ k, rv.ownBlock = some k → nv.ownBlock ≠ some k) ∧ Touch (fun k => k = lb) w0 wr
theorem LgS.below {w0 wr w' : World} {lb : Nat} {gv rv nv : Value} {L : Lg} (h : LgS w0 lb gv wr L rv nv) (hb : Below wr.heap.size wr w') : LgS w0 lb gv w' L rv nv :=
  ⟨h.1.below hb, h.2.1.below hb, h.2.2.1.below hb, h.2.2.2.1, h.2.2.2.2.trans (T' := fun _ => False) (Touch.ofBelow hb) (fun _ _ h => h.elim)⟩
theorem OwnG.kept {T : Nat → Prop} {B : Nat} {w w' : World} {v : Value} {xs : List (Fl × Value)} (h : OwnG B w v xs) (ht : Touch T w w') (hn : ∀ k, v.ownBlock = some k → ¬ T k) (hx : ∀ x ∈ xs, ∀ k, x.2.ownBlock = some k → ¬ T k) : OwnG B w' v xs :=
  ⟨own_kept h.1 ht hn, fun x hxx => (h.2 x hxx).kept ht (hx x hxx)⟩
end Go.Proofs.YtfihhkhdigbmiaaGreatDoor
