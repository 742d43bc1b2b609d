/- What a collision means: pure. -/
import Derived.Test.YtcaadcdjipdjeaaDoorCol
namespace Go.Proofs.YtcaadcdjipdjeaaDoor.Sha
open Go.ChangeShapes Go.WideShapes Go.ChangeAt Go.RowKit
set_option linter.unusedVariables false

theorem bytes_inj {a b : ByteArray} (h : bytesI a = bytesI b) : a = b := by
  have hl : a.size = b.size := by rw [← bytesI_len, ← bytesI_len, h]
  apply ByteArray.ext
  apply Array.ext hl
  intro i h1 h2
  unfold bytesI at h
  have := congrArg (fun l => l[i]?) h
  simp [List.getElem?_map] at this
  rw [Array.getElem?_eq_getElem h1, Array.getElem?_eq_getElem h2] at this
  have h2 : a.data[i].toNat = b.data[i].toNat := by simp only [Option.map_some, Option.some.injEq] at this; exact_mod_cast this
  exact UInt8.toNat_inj.1 h2
theorem nodeI_inj {a b c d : ByteArray} (ha : a.size = 32) (hc : c.size = 32) (h : nodeI a b = nodeI c d) : a = c ∧ b = d := by
  have h1 := congrArg bytesI h
  rw [nodeI_bytes, nodeI_bytes] at h1
  have h2 := (List.cons.inj h1).2
  have hl : (bytesI a).length = (bytesI c).length := by rw [bytesI_len, bytesI_len, ha, hc]
  have h3 := List.append_inj h2 hl
  exact ⟨bytes_inj h3.1, bytes_inj h3.2⟩
theorem inV_inj {h h' : ByteArray} {s : Int} {x y : ByteArray} (hh : h.size = 32) (hh' : h'.size = 32) (hx : x.size = 32) (hy : y.size = 32) (e : inV h (s, x) = inV h' (s, y)) : h = h' ∧ x = y := by
  unfold inV at e
  split at e
  · exact And.symm (nodeI_inj hx hy e)
  · exact nodeI_inj hh hh' e
theorem inpL_get : ∀ (z : List (Int × ByteArray)) (h : ByteArray) (k : Nat), k < z.length → (inpL z h).getD k ByteArray.empty = inV ((z.take k).foldl climbV h) (z.getD k (0, ByteArray.empty)) := by
  intro z
  induction z with
  | nil => intro h k hk; simp at hk
  | cons t z ih =>
    intro h k hk
    cases k with
    | zero => simp [inpL]
    | succ k => simpa [inpL] using ih (climbV h t) k (by simpa using hk)
theorem fold_next (z : List (Int × ByteArray)) (h : ByteArray) (k : Nat) (hk : k < z.length) : (z.take (k + 1)).foldl climbV h = climbV ((z.take k).foldl climbV h) (z.getD k (0, ByteArray.empty)) := by
  rw [List.take_add_one, List.getElem?_eq_getElem hk, List.getD_eq_getElem?_getD, List.getElem?_eq_getElem hk, List.foldl_append]
  rfl
theorem zipG (s : List Int) (p : List ByteArray) (h : p.length = s.length) (k : Nat) (hk : k < s.length) : (s.zip p).getD k (0, ByteArray.empty) = (s.getD k 0, p.getD k ByteArray.empty) := by
  simp only [List.getD_eq_getElem?_getD]
  rw [List.getElem?_eq_getElem hk, List.getElem?_eq_getElem (l := p) (by omega), List.getElem?_eq_getElem (by rw [List.length_zip]; omega)]
  simp
theorem foldz_size (s : List Int) (p : List ByteArray) (h : p.length = s.length) (hA : AllH p) (x : ByteArray) (hx : x.size = 32) : ∀ k, k ≤ s.length → (((s.zip p).take k).foldl climbV x).size = 32 := by
  intro k
  induction k with
  | zero => intro _; simpa using hx
  | succ k ih =>
    intro hk
    rw [fold_next _ _ _ (by rw [List.length_zip]; omega), zipG s p h k (by omega)]
    exact climb_size (ih (by omega)) (hA k (by omega))
theorem fdA_same (a : List ByteArray) : ∀ k, fdA a a k = (⟨#[]⟩, ⟨#[]⟩, 5) := by
  intro k
  induction k with
  | zero => rfl
  | succ k ih => rw [fdA_eq rfl]; exact ih
theorem col_mean (s : List Int) (pa pb : List ByteArray) (la lb : ByteArray) (ha : pa.length = s.length) (hb : pb.length = s.length) (hA : AllH pa) (hB : AllH pb) (hla : la.size = 32) (hlb : lb.size = 32) :
    ∀ k, k ≤ s.length → ((s.zip pa).take k).foldl climbV la = ((s.zip pb).take k).foldl climbV lb →
      (fdA (inpL (s.zip pa) la) (inpL (s.zip pb) lb) k = (⟨#[]⟩, ⟨#[]⟩, 5) ∧ la = lb ∧ ∀ i, i < k → pa.getD i ByteArray.empty = pb.getD i ByteArray.empty) ∨
      (∃ a b, fdA (inpL (s.zip pa) la) (inpL (s.zip pb) lb) k = (a, b, 0) ∧ a ≠ b ∧ hashV (bytesI a) = hashV (bytesI b) ∧ a.size = 65 ∧ b.size = 65) := by
  intro k
  induction k with
  | zero => intro _ h; exact .inl ⟨rfl, by simpa using h, fun i hi => by omega⟩
  | succ k ih =>
    intro hk h
    have hza : k < (s.zip pa).length := by rw [List.length_zip]; omega
    have hzb : k < (s.zip pb).length := by rw [List.length_zip]; omega
    have sa := foldz_size s pa ha hA la hla k (by omega)
    have sb := foldz_size s pb hb hB lb hlb k (by omega)
    have ga := inpL_get (s.zip pa) la k hza
    have gb := inpL_get (s.zip pb) lb k hzb
    rw [fold_next _ _ _ hza, fold_next _ _ _ hzb] at h
    rw [zipG s pa ha k (by omega)] at ga h
    rw [zipG s pb hb k (by omega)] at gb h
    have xa := hA k (by omega)
    have xb := hB k (by omega)
    by_cases e : (inpL (s.zip pa) la).getD k ByteArray.empty = (inpL (s.zip pb) lb).getD k ByteArray.empty
    · rw [fdA_eq e]
      rw [ga, gb] at e
      obtain ⟨e1, e2⟩ := inV_inj sa sb xa xb e
      rcases ih (by omega) e1 with ⟨f1, f2, f3⟩ | f
      · refine .inl ⟨f1, f2, fun i hi => ?_⟩
        rcases (show i < k ∨ i = k by omega) with h9 | h9
        · exact f3 i h9
        · rw [h9]; exact e2
      · exact .inr f
    · rw [fdA_ne e]
      refine .inr ⟨_, _, rfl, e, ?_, ?_, ?_⟩
      · rw [ga, gb, ← climb_inV, ← climb_inV]; exact h
      · rw [ga]; exact inV_size sa xa
      · rw [gb]; exact inV_size sb xb
theorem take_zip (s : List Int) (p : List ByteArray) (h : p.length = s.length) : (s.zip p).take s.length = s.zip p := by
  apply List.take_of_length_le
  rw [List.length_zip]; omega
theorem codeH {L : List ByteArray} (h : L.length ≤ 64) (hA : AllH L) : codeL L = 0 := by
  unfold codeL; rw [if_neg (by omega), if_pos ⟨h, allH_yes hA⟩]
theorem colOut_right {p n : Nat} {la lb : ByteArray} {pa pb : List ByteArray} (hn : n ≤ 64) (hp : p < n) (ha : pa.length = (wayV p n).length) (hb : pb.length = (wayV p n).length) (hA : AllH pa) (hB : AllH pb) (h64 : (wayV p n).length ≤ 64) (hla : la.size = 32) (hlb : lb.size = 32) :
    colOut p n la pa lb pb = if ((wayV p n).zip pa).foldl climbV la = ((wayV p n).zip pb).foldl climbV lb then fdA (inpL ((wayV p n).zip pa) la) (inpL ((wayV p n).zip pb) lb) (wayV p n).length else (⟨#[]⟩, ⟨#[]⟩, 11) := by
  unfold colOut
  have e1 : mx4 (hfC la) (codeL pa) (hfC lb) (codeL pb) = 0 := by
    rw [hf0 hla, hf0 hlb, codeH (by omega) hA, codeH (by omega) hB]; rfl
  rw [if_pos e1, if_pos ⟨(inB_iff (n := (n : Int)) (lo := 1) (hi := 64)).2 ⟨by omega, by omega⟩, (inB_iff (n := (p : Int)) (lo := 0) (hi := (n : Int) - 1)).2 ⟨by omega, by omega⟩⟩, Int.toNat_natCast, Int.toNat_natCast, if_pos ⟨ha, hb⟩]
/-- Of one leaf and one proof no collision is told. -/
theorem col_none {p n : Nat} {la : ByteArray} {pa : List ByteArray} (hn : n ≤ 64) (hp : p < n) (ha : pa.length = (wayV p n).length) (hA : AllH pa) (h64 : (wayV p n).length ≤ 64) (hla : la.size = 32) : colOut p n la pa la pa = (⟨#[]⟩, ⟨#[]⟩, 5) := by
  rw [colOut_right hn hp ha ha hA hA h64 hla hla, if_pos rfl, fdA_same]
/-- What is told of two leaves and two proofs: the roots differ, or all is the same, or two inputs that differ have one hash. -/
theorem col_cases {p n : Nat} {la lb : ByteArray} {pa pb : List ByteArray} (hn : n ≤ 64) (hp : p < n) (ha : pa.length = (wayV p n).length) (hb : pb.length = (wayV p n).length) (hA : AllH pa) (hB : AllH pb) (h64 : (wayV p n).length ≤ 64) (hla : la.size = 32) (hlb : lb.size = 32) :
    colOut p n la pa lb pb = (⟨#[]⟩, ⟨#[]⟩, 11) ∨ (colOut p n la pa lb pb = (⟨#[]⟩, ⟨#[]⟩, 5) ∧ la = lb ∧ pa = pb) ∨
      (∃ a b, colOut p n la pa lb pb = (a, b, 0) ∧ a ≠ b ∧ hashV (bytesI a) = hashV (bytesI b) ∧ a.size = 65 ∧ b.size = 65) := by
  rw [colOut_right hn hp ha hb hA hB h64 hla hlb]
  by_cases h : ((wayV p n).zip pa).foldl climbV la = ((wayV p n).zip pb).foldl climbV lb
  · rw [if_pos h]
    refine .inr ?_
    have h2 := h
    rw [← take_zip _ pa ha, ← take_zip _ pb hb] at h2
    rcases col_mean (wayV p n) pa pb la lb ha hb hA hB hla hlb _ (Nat.le_refl _) h2 with ⟨f1, f2, f3⟩ | f
    · refine .inl ⟨f1, f2, ?_⟩
      apply List.ext_getElem (by omega)
      intro i h1 h2
      have := f3 i (by omega)
      rw [List.getD_eq_getElem?_getD, List.getD_eq_getElem?_getD, List.getElem?_eq_getElem h1, List.getElem?_eq_getElem h2] at this
      exact this
    · exact .inr f
  · rw [if_neg h]; exact .inl rfl
end Go.Proofs.YtcaadcdjipdjeaaDoor.Sha
