/- Peaks: slices of structs of two cells; what the laws do with them: sz, to, eq; a list that came in opened. -/
import Derived.Test.YthabemlcabmmaaaDoorMkH
import Derived.Test.YthabemlcabmmaaaDoorIn
import Derived.Deep.Fields
import Derived.Deep.Slices
import Derived.Test.YthabemlcabmmaaaDoorLawG
import Derived.Deep.RegionHeld3
namespace Go.Proofs.YthabemlcabmmaaaDoor
open Go.ChangeShapes Go.WideShapes Go.ChangeAt Go.RowKit Go.Deep
set_option linter.unusedVariables false

/-- A peak: size, hash. -/
structure Pk where
  s : Int
  h : ByteArray
deriving Inhabited
def pkC (f : Pk) : List Value := [.int .i64 f.s, .string f.h]
def pksC (l : List Pk) : List Value := l.flatMap pkC
/-- The value is a slice that holds these peaks. -/
def Pks (w : World) (v : Value) (l : List Pk) : Prop :=
  ∃ a cap, v = .slice a l.length cap ∧ l.length ≤ cap ∧ cap ≤ maxLen ∧ (l.length = 0 ∨ ∃ b off, a = some ⟨b, off, none⟩ ∧ b < w.heap.size ∧ ∀ i, i < l.length → w.cell? ⟨b, off + i * 2, none⟩ = some (.int .i64 (l.getD i default).s) ∧ w.cell? ⟨b, off + i * 2 + 1, none⟩ = some (.string (l.getD i default).h))
theorem Pks.below {w w' : World} {v : Value} {l : List Pk} (h : Pks w v l) (hb : Below w.heap.size w w') : Pks w' v l := by
  obtain ⟨a, cap, hv, hn, hm, hc⟩ := h
  refine ⟨a, cap, hv, hn, hm, ?_⟩
  rcases hc with h0 | ⟨b, off, ha, hlt, hc⟩
  · exact .inl h0
  · exact .inr ⟨b, off, ha, Nat.lt_of_lt_of_le hlt hb.size, fun i hi => ⟨(hb.cell (p := ⟨b, off + i * 2, none⟩) hlt).trans (hc i hi).1, (hb.cell (p := ⟨b, off + i * 2 + 1, none⟩) hlt).trans (hc i hi).2⟩⟩
theorem pksC_len (l : List Pk) : (pksC l).length = l.length * 2 := by
  induction l with
  | nil => rfl
  | cons f r ih => simp only [pksC, List.flatMap_cons, List.length_append, List.length_cons] at ih ⊢; rw [ih]; simp [pkC]; omega
theorem pksC_get : ∀ (l : List Pk) (i : Nat), i < l.length → (pksC l)[i * 2]? = some (.int .i64 (l.getD i default).s) ∧ (pksC l)[i * 2 + 1]? = some (.string (l.getD i default).h)
  | [], i, h => by simp at h
  | f :: r, 0, h => ⟨rfl, rfl⟩
  | f :: r, i + 1, h => by
    have ih := pksC_get r i (by simpa using h)
    have e : pksC (f :: r) = .int .i64 f.s :: .string f.h :: pksC r := rfl
    rw [e, show (i + 1) * 2 = i * 2 + 1 + 1 by omega, show i * 2 + 1 + 1 + 1 = (i * 2 + 1) + 1 + 1 by omega]
    simp only [List.getElem?_cons_succ, List.getD_cons_succ]
    exact ih
theorem pksC_set : ∀ (l : List Pk) (k : Nat) (f : Pk), k < l.length → ((pksC l).set (k * 2) (.int .i64 f.s)).set (k * 2 + 1) (.string f.h) = pksC (l.set k f)
  | [], k, f, h => by simp at h
  | g :: r, 0, f, h => rfl
  | g :: r, k + 1, f, h => by
    have ih := pksC_set r k f (by simpa using h)
    have e : ∀ (g : Pk) (r : List Pk), pksC (g :: r) = .int .i64 g.s :: .string g.h :: pksC r := fun _ _ => rfl
    rw [List.set_cons_succ, e, e, ← ih, show (k + 1) * 2 = k * 2 + 1 + 1 by omega, show k * 2 + 1 + 1 + 1 = (k * 2 + 1) + 1 + 1 by omega]
    simp only [List.set_cons_succ]
/-- A slice of the call's own that holds these peaks. -/
def OwnP (B : Nat) (w : World) (v : Value) (l : List Pk) : Prop := w.ownsRow B 103 2 v l.length (pksC l)
theorem OwnP.nil (B : Nat) (w : World) : OwnP B w (.slice none 0 0) [] := World.ownsRow_nil w B 103 2
theorem OwnP.cells {B : Nat} {w : World} {g cap n : Nat} {l : List Pk} (h : w.ownsRow B 103 2 (.slice (some ⟨g, 0, none⟩) n cap) n (pksC l)) (i : Nat) (hi : i < l.length) (hn : n = l.length) :
    w.cell? ⟨g, i * 2, none⟩ = some (.int .i64 (l.getD i default).s) ∧ w.cell? ⟨g, i * 2 + 1, none⟩ = some (.string (l.getD i default).h) := by
  obtain ⟨e0, e1⟩ := pksC_get l i hi
  exact ⟨(h.cellAt _ (by omega)).trans e0, (h.cellAt _ (by omega)).trans e1⟩
theorem OwnP.pks {B : Nat} {w : World} {v : Value} {l : List Pk} (h : OwnP B w v l) : Pks w v l := by
  rcases h.2 with ⟨rfl, h0⟩ | ⟨g, cap, cur, rfl, hb, hg, hn, hm, _⟩
  · obtain rfl := List.eq_nil_of_length_eq_zero h0
    exact ⟨none, 0, rfl, Nat.le_refl _, by unfold maxLen; omega, .inl rfl⟩
  · refine ⟨_, _, rfl, hn, hm, .inr ⟨g, 0, rfl, (Array.getElem?_eq_some_iff.1 hg).1, fun i hi => ?_⟩⟩
    have := OwnP.cells h i hi rfl
    simpa using this
theorem OwnP.kept {T : Nat → Prop} {B : Nat} {w w' : World} {v : Value} {l : List Pk} (h : OwnP B w v l) (ht : Touch T w w') (hn : ∀ k, v.ownBlock = some k → ¬ T k) : OwnP B w' v l := own_kept h ht hn
theorem OwnP.below {B : Nat} {w w' : World} {v : Value} {l : List Pk} (h : OwnP B w v l) (hb : Below w.heap.size w w') : OwnP B w' v l := h.kept (T := fun _ => False) (Touch.ofBelow hb) (fun _ _ h => h)
theorem OwnP.lt {B : Nat} {w : World} {v : Value} {l : List Pk} (h : OwnP B w v l) : ∀ k, v.ownBlock = some k → B ≤ k ∧ k < w.heap.size := World.ownsRow.lt h
theorem infoPk : (Tryd.prog.info? 103).map (fun i => (i.zero, i.size, i.bytes)) = some (some (.agg #[.int .i64 0, .string ⟨#[]⟩]), 2, 24) := by kernel_rfl

/-- Bytes of the hashes of the first k peaks. -/
def pwTo (l : List Pk) : Nat → Int
  | 0 => 0
  | k + 1 => pwTo l k + ((l.getD k default).h.size : Int)
theorem pw_mono (l : List Pk) (i j : Nat) (h : i ≤ j) : pwTo l i ≤ pwTo l j := by
  induction j with
  | zero => obtain rfl : i = 0 := by omega
            exact Int.le_refl _
  | succ j ih =>
    by_cases e : i = j + 1
    · subst e; exact Int.le_refl _
    · have := ih (by omega)
      show _ ≤ pwTo l j + _
      omega
def pszR (L : Int) (l : List Pk) : Int := if (l.length : Int) + pwTo l l.length ≤ L then L - (l.length : Int) - pwTo l l.length else -1
def pszF (f : Pk) (left : Int) : Int := if left - (f.h.size : Int) < 0 then -1 else left - (f.h.size : Int)
theorem pszR_cases (L : Int) (l : List Pk) : pszR L l = -1 ∨ (0 ≤ pszR L l ∧ pszR L l ≤ L) := by
  have hw0 := pw_mono l 0 l.length (Nat.zero_le _)
  have hw00 : pwTo l 0 = 0 := rfl
  unfold pszR; split
  · right; omega
  · left; rfl
theorem psmall_of (L : Int) (hL : L ≤ 1048576) (l : List Pk) (h : 0 ≤ pszR L l) : l.length ≤ 1048576 ∧ ∀ i, (l.getD i default).h.size ≤ 1048576 := by
  have h1 : (l.length : Int) + pwTo l l.length ≤ L := by
    unfold pszR at h
    split at h
    · assumption
    · omega
  have hw0 := pw_mono l 0 l.length (Nat.zero_le _)
  have hw00 : pwTo l 0 = 0 := rfl
  refine ⟨by omega, fun i => ?_⟩
  by_cases hi : i < l.length
  · have e2 : pwTo l (i + 1) = pwTo l i + ((l.getD i default).h.size : Int) := rfl
    have := pw_mono l (i + 1) l.length (by omega)
    have := pw_mono l 0 i (Nat.zero_le _)
    omega
  · rw [List.getD_eq_getElem?_getD, List.getElem?_eq_none (by omega)]
    have e : (default : Pk).h.size = 0 := rfl
    simp only [Option.getD_none]
    omega
set_option maxRecDepth 100000 in
set_option maxHeartbeats 1000000 in
theorem szPeak_any (f : Pk) (left : Int) (w : World) (h0 : 0 ≤ left) (h1 : left ≤ 1048576) (hd : f.h.size ≤ maxLen) :
    Calls Tryd.prog 70 #[.agg #[.int .i64 f.s, .string f.h], .int .i64 left] w fun e w' => e = .returned (.int .i64 (pszF f left)) ∧ Below w.heap.size w w' := by
  obtain ⟨ft, fd⟩ := f
  dsimp only at hd ⊢
  unfold maxLen at hd
  by_cases q1 : left - (fd.size : Int) < 0
  · have E : Hid (pszF ⟨ft, fd⟩ left = -1) := hide (by unfold pszF; dsimp only; rw [if_pos (by omega)])
    go_enter Tryd.func70, Tryd.ntmps70
    go_wp2_with fail
    go_ret
    exact ⟨ret_int (unhide E).symm, (Below.refl _ _).alloc (Nat.le_refl _) _⟩
  · have E : Hid (pszF ⟨ft, fd⟩ left = left - (fd.size : Int)) := hide (by unfold pszF; dsimp only; rw [if_neg (by omega)])
    go_enter Tryd.func70, Tryd.ntmps70
    go_wp2_with fail
    go_ret
    exact ⟨ret_int (unhide E).symm, (Below.refl _ _).alloc (Nat.le_refl _) _⟩
set_option maxRecDepth 100000 in
set_option maxHeartbeats 1000000 in
theorem szPeakS_any (L : Int) (hL0 : 0 ≤ L) (hL1 : L ≤ 1048576) (v : Value) (l : List Pk) (w : World) (h : Pks w v l) (hz : ∀ i, i < l.length → (l.getD i default).h.size ≤ maxLen) :
    Calls Tryd.prog 29 #[v, .int .i64 L] w fun e w' => e = .returned (.int .i64 (pszR L l)) ∧ Below w.heap.size w w' := by
  obtain ⟨a, cap, rfl, hn, hm, hc⟩ := h
  have HC := hide hc
  have HZ := hide hz
  have hlm : l.length ≤ 9223372036854775807 := by unfold maxLen at hm; omega
  clear hc hz hm hn
  have hw0 := pw_mono l 0 l.length (Nat.zero_le _)
  have hw00 : pwTo l 0 = 0 := rfl
  by_cases hl : L < l.length
  · have E : Hid (pszR L l = -1) := hide (by unfold pszR; rw [if_neg (by omega)])
    have hl2 : L - (l.length : Int) < 0 := by omega
    go_enter Tryd.func29, Tryd.ntmps29
    go_wp2_with fail
    go_ret
    exact ⟨ret_int (unhide E).symm, Below.refl _ _⟩
  · have hl2 : ¬ L - (l.length : Int) < 0 := by omega
    go_enter Tryd.func29, Tryd.ntmps29
    go_wp2_with fail
    go_loopw [1, 5] (fun lf i wr => ∃ (k : Nat) (x : Int), k ≤ l.length ∧ i = .int .i64 k ∧ lf = .int .i64 x ∧ x = L - (l.length : Int) - pwTo l k ∧ 0 ≤ x ∧ Below w.heap.size w wr) (fun _ i _ => l.length - (intOf i).toNat)
    case atStart => exact ⟨0, _, Nat.zero_le _, rfl, rfl, by rw [hw00]; omega, by omega, Below.refl _ _⟩
    case round =>
      obtain ⟨k, x, hk, rfl, rfl, hx, hx0, hb⟩ := hrel
      by_cases hlt : k < l.length
      · obtain ⟨b, off, rfl, hbl, hsrc⟩ : ∃ b off, a = some ⟨b, off, none⟩ ∧ b < w.heap.size ∧ ∀ i, i < l.length → w.cell? ⟨b, off + i * 2, none⟩ = some (.int .i64 (l.getD i default).s) ∧ w.cell? ⟨b, off + i * 2 + 1, none⟩ = some (.string (l.getD i default).h) := by
          rcases unhide HC with h0 | h1
          · omega
          · exact h1
        obtain ⟨s0, s1⟩ := hsrc k hlt
        have c0 := (hb.cell (p := ⟨b, off + k * 2, none⟩) hbl).trans s0
        have c1 := (hb.cell (p := ⟨b, off + k * 2 + 1, none⟩) hbl).trans s1
        have hk0 : (0 : Int) ≤ (k : Int) := by omega
        have hk1 : (k : Int) < (l.length : Int) := by omega
        have hwk := pw_mono l 0 k (Nat.zero_le _)
        have hwl := pw_mono l (k + 1) l.length (by omega)
        have hws : pwTo l (k + 1) = pwTo l k + ((l.getD k default).h.size : Int) := rfl
        have hz := unhide HZ k hlt
        have hx1 : x ≤ 1048576 := by omega
        have hbs := hb.size
        have HB := hide hb
        clear hsrc s0 s1 hb
        generalize l.getD k default = f at *
        have HSZ := hide (fun wx => szPeak_any f x wx hx0 hx1 hz)
        have HSF : Hid (pszF f x = if x - (f.h.size : Int) < 0 then -1 else x - (f.h.size : Int)) := rfl
        obtain ⟨r, hr⟩ : ∃ r, r = pszF f x := ⟨_, rfl⟩
        rw [← hr] at HSZ HSF
        have HW := hide (And.intro hwl (And.intro hws hx))
        clear hr hwl hws hx hwk hw0 hw00 hz
        obtain ⟨ft, fd⟩ := f
        dsimp only at c0 c1 HSZ HSF HW
        go_wp2_with fail
        refine (unhide HSZ wr).mono ?_
        rintro e w2 ⟨rfl, hb2⟩
        have HB2 := hide ((unhide HB).trans (hb2.mono hbs))
        clear hb2 HB HSZ
        by_cases hr0 : r < 0
        · have E : Hid (pszR L l = -1) := hide (by
            obtain ⟨h1, h2, h3⟩ := unhide HW
            have h4 := unhide HSF
            unfold pszR; rw [if_neg]
            split at h4 <;> omega)
          go_wp2_with fail
          go_ret
          exact ⟨ret_int (unhide E).symm, unhide HB2⟩
        · go_wp2_with fail
          refine ⟨⟨k + 1, r, by omega, by go_num, rfl, ?_, by omega, unhide HB2⟩, ?_⟩
          · obtain ⟨h1, h2, h3⟩ := unhide HW
            have h4 := unhide HSF
            split at h4 <;> omega
          · simp [intOf]; omega
      · obtain rfl : k = l.length := by omega
        have E : Hid (pszR L l = x) := hide (by unfold pszR; rw [if_pos (by omega)]; omega)
        have R := hide hb
        clear hb hx
        go_wp2_with fail
        go_ret
        exact ⟨ret_int (unhide E).symm, unhide R⟩
set_option maxRecDepth 100000 in
set_option maxHeartbeats 1000000 in
theorem toPeak_any (f : Pk) (w : World) :
    Calls Tryd.prog 73 #[.agg #[.int .i64 f.s, .string f.h]] w fun e w' => e = .returned (.agg #[.int .i64 f.s, .string f.h]) ∧ Below w.heap.size w w' := by
  obtain ⟨ft, fd⟩ := f
  dsimp only
  go_enter Tryd.func73, Tryd.ntmps73
  go_wp2_with fail
  refine bodyPost_ret (v := .agg #[.int .i64 ft, .string fd]) (by simp [results, Tryd.results73, go_sem]) rfl ⟨rfl, ?_⟩
  exact (((Below.refl _ _).alloc (Nat.le_refl _) _).alloc (by simp) _).alloc (by simp; omega) _
def zeroPk : Pk := ⟨0, ⟨#[]⟩⟩
def fillP (l : List Pk) (k : Nat) : List Pk := (List.range l.length).map fun j => if j < k then l.getD j default else zeroPk
theorem fillP_len (l : List Pk) (k : Nat) : (fillP l k).length = l.length := by simp [fillP]
theorem fillP_all (l : List Pk) : fillP l l.length = l := by
  apply List.ext_getElem?
  intro j
  by_cases hj : j < l.length
  · simp [fillP, hj, List.getD_eq_getElem?_getD]
  · simp [fillP, hj]
theorem fillP_set (l : List Pk) (k : Nat) (hk : k < l.length) : (fillP l k).set k (l.getD k default) = fillP l (k + 1) := by
  apply List.ext_getElem?
  intro j
  rw [List.getElem?_set]
  simp only [fillP_len]
  by_cases e : k = j
  · subst e
    rw [if_pos rfl, if_pos hk]
    simp [fillP, hk]
  · rw [if_neg e]
    by_cases hj : j < l.length
    · by_cases h1 : j < k
      · simp [fillP, hj, h1, show j < k + 1 by omega]
      · simp [fillP, hj, h1, show ¬ j < k + 1 by omega]
    · simp [fillP, hj]
theorem made2p (a b : Value) (n j : Nat) (hj : j < n) : (madeCells #[a, b] n).toList[j]? = some (if j % 2 = 0 then a else b) := by
  have h3 : (#[a, b] : Array Value).size = 2 := rfl
  unfold madeCells
  rw [h3, Array.getElem?_toList, Array.getElem?_map]
  have hr : (Array.range n)[j]? = some j := by simp [hj]
  rw [hr, Option.map_some]
  rcases (show j % 2 = 0 ∨ j % 2 = 1 by omega) with e | e
  · rw [e]; rfl
  · rw [e]; rfl
theorem made_pk (l : List Pk) : (madeCells (Value.agg #[.int .i64 0, .string ⟨#[]⟩]).cells (l.length * 2)).toList = pksC (fillP l 0) := by
  have hcs : (Value.agg #[.int .i64 0, .string ⟨#[]⟩]).cells = #[Value.int .i64 0, .string ⟨#[]⟩] := rfl
  rw [hcs]
  apply List.ext_getElem?
  intro j
  by_cases hj : j < l.length * 2
  · have hq : j / 2 < (fillP l 0).length := by rw [fillP_len]; omega
    obtain ⟨g0, g1⟩ := pksC_get (fillP l 0) (j / 2) hq
    have hz : (fillP l 0).getD (j / 2) default = zeroPk := by
      rw [fillP_len] at hq
      rw [List.getD_eq_getElem?_getD]
      simp [fillP, hq]
    rw [hz] at g0 g1
    rw [made2p _ _ _ _ hj]
    rcases (show j % 2 = 0 ∨ j % 2 = 1 by omega) with e | e
    · rw [show j / 2 * 2 = j by omega] at g0; rw [g0, e]; rfl
    · rw [show j / 2 * 2 + 1 = j by omega] at g1; rw [g1, e]; rfl
  · have e1 : (madeCells #[Value.int .i64 0, .string ⟨#[]⟩] (l.length * 2)).toList[j]? = none := List.getElem?_eq_none (by rw [Array.length_toList, size_madeCells]; omega)
    have e2 : (pksC (fillP l 0))[j]? = none := List.getElem?_eq_none (by rw [pksC_len, fillP_len]; omega)
    rw [e1, e2]
set_option maxRecDepth 100000 in
set_option maxHeartbeats 1000000 in
theorem toPeakS_any (v : Value) (l : List Pk) (w : World) (h : Pks w v l) (hs : l.length ≤ 1048576) :
    Calls Tryd.prog 31 #[v] w fun e w' => e = .returned (.slice (some ⟨w.heap.size, 0, none⟩) l.length l.length) ∧ OwnP w.heap.size w' (.slice (some ⟨w.heap.size, 0, none⟩) l.length l.length) l ∧ w.heap.size < w'.heap.size ∧ Below w.heap.size w w' := by
  obtain ⟨i0, hi, hz0, hz1, hz2⟩ := info_parts infoPk
  obtain ⟨a, cap, rfl, hn, hm, hc⟩ := h
  have HC := hide hc
  clear hc hm hn
  go_enter Tryd.func31, Tryd.ntmps31
  go_wp2_with (at_make; refine wpList_make_full _ rfl _ _ 41 rfl w.heap.size 103 i0 _ 2 Tryd.underlying41 hi hz0 hz1 .i64 .i64 _ _ l.length rfl rfl rfl rfl (by rw [hz2]; omega) (by unfold maxLen; omega) (Nat.le_refl _) ?_; intro w1 hown1 hg1)
  rw [made_pk] at hown1
  have HZ := hide (And.intro hown1 ((Below.refl w.heap.size w).grown hg1 (Nat.le_refl _) (fun k h => by cases h)))
  clear hown1 hg1
  go_loopw [4] (fun i wr => ∃ k : Nat, k ≤ l.length ∧ i = .int .i64 k ∧ wr.ownsRow w.heap.size 103 2 (.slice (some ⟨w.heap.size, 0, none⟩) l.length l.length) l.length (pksC (fillP l k)) ∧ Below w.heap.size w wr) (fun i _ => l.length - (intOf i).toNat)
  case atStart => exact ⟨0, Nat.zero_le _, rfl, (unhide HZ).1, (unhide HZ).2⟩
  case round =>
    obtain ⟨k, hk, rfl, hL, hbel⟩ := hrel
    by_cases hlt : k < l.length
    · obtain ⟨b, off, rfl, hbl, hsrc⟩ : ∃ b off, a = some ⟨b, off, none⟩ ∧ b < w.heap.size ∧ ∀ i, i < l.length → w.cell? ⟨b, off + i * 2, none⟩ = some (.int .i64 (l.getD i default).s) ∧ w.cell? ⟨b, off + i * 2 + 1, none⟩ = some (.string (l.getD i default).h) := by
        rcases unhide HC with h0 | h1
        · omega
        · exact h1
      obtain ⟨s0, s1⟩ := hsrc k hlt
      have c0 := (hbel.cell (p := ⟨b, off + k * 2, none⟩) hbl).trans s0
      have c1 := (hbel.cell (p := ⟨b, off + k * 2 + 1, none⟩) hbl).trans s1
      have hk0 : (0 : Int) ≤ (k : Int) := by omega
      have hk1 : (k : Int) < (l.length : Int) := by omega
      have hbs := hbel.size
      have HL := hide hL
      have HB := hide hbel
      clear hsrc s0 s1 hL hbel
      obtain ⟨f, hf⟩ : ∃ f, f = l.getD k default := ⟨_, rfl⟩
      rw [← hf] at c0 c1
      have HFe := hide hf
      clear hf
      have HT := hide (fun wx => toPeak_any f wx)
      obtain ⟨ft, fd⟩ := f
      dsimp only at c0 c1 HT
      go_wp2_with fail
      refine (unhide HT wr).mono ?_
      rintro e w2 ⟨rfl, hb2⟩
      have hO : w2.ownsRow w.heap.size 103 2 (.slice (some ⟨w.heap.size, 0, none⟩) l.length l.length) l.length (pksC (fillP l k)) := own_kept (T := fun _ => False) (unhide HL) (Touch.ofBelow hb2) (fun _ _ h => h)
      have hB2 := (unhide HB).trans (hb2.mono hbs)
      obtain ⟨d0, d1⟩ := OwnP.cells hO k (by rw [fillP_len]; exact hlt) (fillP_len l k).symm
      have f0 := hO.frozenAt (k * 2)
      have f1 := hO.frozenAt (k * 2 + 1)
      have q0 := (hO.stored (k * 2) (.int .i64 ft)).1
      have q1 := (q0.stored (k * 2 + 1) (.string fd)).1
      have hset : ((pksC (fillP l k)).set (k * 2) (.int .i64 ft)).set (k * 2 + 1) (.string fd) = pksC (fillP l (k + 1)) := by
        have h1 := pksC_set (fillP l k) k ⟨ft, fd⟩ (by rw [fillP_len]; exact hlt)
        dsimp only at h1
        rw [h1, ← fillP_set l k hlt, ← unhide HFe]
      rw [hset] at q1
      have R := hide (And.intro q1 ((hB2.setCell (p := ⟨w.heap.size, k * 2, none⟩) (Nat.le_refl _) (.int .i64 ft)).setCell (p := ⟨w.heap.size, k * 2 + 1, none⟩) (Nat.le_refl _) (.string fd)))
      clear q0 q1 hset hO hB2 hb2 HT HL HB
      go_wp2_with fail
      refine ⟨⟨k + 1, by omega, by go_num, (unhide R).1, (unhide R).2⟩, ?_⟩
      simp [intOf]; omega
    · obtain rfl : k = l.length := by omega
      rw [fillP_all] at hL
      have hlt9 := (hL.lt w.heap.size rfl).2
      have R := hide (And.intro hL hbel)
      clear hL hbel
      go_wp2_with fail
      go_ret
      exact ⟨rfl, (unhide R).1, hlt9, (unhide R).2⟩
set_option maxRecDepth 100000 in
set_option maxHeartbeats 1000000 in
theorem eqPeak_any (f : Pk) (w : World) :
    Calls Tryd.prog 77 #[.agg #[.int .i64 f.s, .string f.h], .agg #[.int .i64 f.s, .string f.h]] w fun e w' => e = .returned (.bool true) ∧ Below w.heap.size w w' := by
  obtain ⟨ft, fd⟩ := f
  dsimp only
  go_enter Tryd.func77, Tryd.ntmps77
  go_wp2_with fail
  go_ret
  exact ⟨rfl, ((Below.refl _ _).alloc (Nat.le_refl _) _).alloc (by simp) _⟩
set_option maxRecDepth 100000 in
set_option maxHeartbeats 1000000 in
theorem eqPeakS_any (v v2 : Value) (l : List Pk) (w : World) (h : Pks w v l) (h2 : Pks w v2 l) (hs : l.length ≤ 1048576) :
    Calls Tryd.prog 33 #[v, v2] w fun e w' => e = .returned (.bool true) ∧ Below w.heap.size w w' := by
  obtain ⟨a, cap, rfl, hn, hm, hc⟩ := h
  obtain ⟨a2, cap2, rfl, hn2, hm2, hc2⟩ := h2
  have HC := hide hc
  have HC2 := hide hc2
  clear hc hm hc2 hm2 hn hn2
  go_enter Tryd.func33, Tryd.ntmps33
  go_wp2_with fail
  go_loopw [5] (fun i wr => ∃ k : Nat, k ≤ l.length ∧ i = .int .i64 k ∧ Below w.heap.size w wr) (fun i _ => l.length - (intOf i).toNat)
  case atStart => exact ⟨0, Nat.zero_le _, rfl, Below.refl _ _⟩
  case round =>
    obtain ⟨k, hk, rfl, hb⟩ := hrel
    by_cases hlt : k < l.length
    · obtain ⟨b, off, rfl, hbl, hsrc⟩ : ∃ b off, a = some ⟨b, off, none⟩ ∧ b < w.heap.size ∧ ∀ i, i < l.length → w.cell? ⟨b, off + i * 2, none⟩ = some (.int .i64 (l.getD i default).s) ∧ w.cell? ⟨b, off + i * 2 + 1, none⟩ = some (.string (l.getD i default).h) := by
        rcases unhide HC with h0 | h1
        · omega
        · exact h1
      obtain ⟨b2, off2, rfl, hbl2, hsrc2⟩ : ∃ b off, a2 = some ⟨b, off, none⟩ ∧ b < w.heap.size ∧ ∀ i, i < l.length → w.cell? ⟨b, off + i * 2, none⟩ = some (.int .i64 (l.getD i default).s) ∧ w.cell? ⟨b, off + i * 2 + 1, none⟩ = some (.string (l.getD i default).h) := by
        rcases unhide HC2 with h0 | h1
        · omega
        · exact h1
      obtain ⟨s0, s1⟩ := hsrc k hlt
      obtain ⟨t0, t1⟩ := hsrc2 k hlt
      have c0 := (hb.cell (p := ⟨b, off + k * 2, none⟩) hbl).trans s0
      have c1 := (hb.cell (p := ⟨b, off + k * 2 + 1, none⟩) hbl).trans s1
      have d0 := (hb.cell (p := ⟨b2, off2 + k * 2, none⟩) hbl2).trans t0
      have d1 := (hb.cell (p := ⟨b2, off2 + k * 2 + 1, none⟩) hbl2).trans t1
      have hk0 : (0 : Int) ≤ (k : Int) := by omega
      have hk1 : (k : Int) < (l.length : Int) := by omega
      have hbs := hb.size
      have HB := hide hb
      clear hsrc hsrc2 s0 s1 t0 t1 hb
      generalize l.getD k default = f at *
      have HT := hide (fun wx => eqPeak_any f wx)
      obtain ⟨ft, fd⟩ := f
      dsimp only at c0 c1 d0 d1 HT
      go_wp2_with fail
      go_region_held3 (fun wx => wx.cell? ⟨b, off + k * 2, none⟩ = some (.int .i64 ft) ∧ wx.cell? ⟨b, off + k * 2 + 1, none⟩ = some (.string fd) ∧ wx.cell? ⟨b2, off2 + k * 2, none⟩ = some (.int .i64 ft) ∧ wx.cell? ⟨b2, off2 + k * 2 + 1, none⟩ = some (.string fd))
        (first | go_keep | exact ⟨(hb2.cell (p := ⟨b, off + k * 2, none⟩) (by simp; omega)).trans c0, (hb2.cell (p := ⟨b, off + k * 2 + 1, none⟩) (by simp; omega)).trans c1, (hb2.cell (p := ⟨b2, off2 + k * 2, none⟩) (by simp; omega)).trans d0, (hb2.cell (p := ⟨b2, off2 + k * 2 + 1, none⟩) (by simp; omega)).trans d1⟩)
        ((go_at_call 77; refine (unhide HT _).mono ?_; rintro e w2 ⟨rfl, hb2⟩))
      all_goals
        have HBZ := hide ((unhide HB).trans (show Below w.heap.size wr w2 from (below_drewN (Below.refl _ wr) 1).trans (hb2.mono (by simpa using hbs))))
        clear hb2 HB
        go_wp2_with fail
        refine ⟨⟨k + 1, by omega, by go_num, unhide HBZ⟩, ?_⟩
        simp [intOf]; omega
    · have HB := hide hb
      clear hb
      go_wp2_with fail
      go_ret
      exact ⟨rfl, unhide HB⟩
set_option maxRecDepth 100000 in
/-- Peaks that came in, opened. -/
theorem open_peaks {H : Type} {enc : TypeId × Value → H} {W : World} {base b0 : Nat} {r : Reach} {sp : Nat → Bool} {held : Bool} {v : Value} {d : DataW H} {p : List MemPlace}
    (hv : Value.okWide Tryd.prog W r b0 39 v) (ht : DataW.Trod enc Tryd.prog W base sp held 39 v d p) :
    ∃ l : List Pk, Pks W v l ∧ ∀ i, i < l.length → (l.getD i default).h.size ≤ maxLen := by
  obtain ⟨fuel, h0⟩ := ht
  obtain ⟨a0, len0, cap0, rfl⟩ := okWide_slice Tryd.underlying39 hv
  have h : DataW.trod enc Tryd.prog W base sp held fuel 39 [.slice a0 len0 cap0] = some (d, p) := h0
  have i3 : Tryd.prog.cellsOf 3 = 1 := by kernel_rfl
  have i9 : Tryd.prog.cellsOf 9 = 1 := by kernel_rfl
  have iF : Tryd.prog.cellsOf 101 = 2 := by kernel_rfl
  rcases open_slice Tryd.underlying39 h with ⟨hc, _⟩ | ⟨a, len, cap, m, n, D, Pl, hc, hb, hl, hm, hmm, _, hx⟩
  · simp only [List.cons.injEq, and_true, Value.slice.injEq] at hc
    obtain ⟨rfl, rfl, rfl⟩ := hc
    exact ⟨[], ⟨none, 0, rfl, Nat.le_refl _, by unfold maxLen; omega, .inl rfl⟩, fun i hi => by simp at hi⟩
  · simp only [List.cons.injEq, and_true, Value.slice.injEq] at hc
    obtain ⟨rfl, rfl, rfl⟩ := hc
    have hlm : len0 ≤ m := by rw [hmm]; split <;> omega
    rw [iF] at hx
    have each : ∀ i, i < len0 → ∃ f : Pk, W.cell? (a.add (i * 2)) = some (.int .i64 f.s) ∧ W.cell? (a.add (i * 2 + 1)) = some (.string f.h) ∧ f.h.size ≤ maxLen := by
      intro i hi
      obtain ⟨cs', h1, h2⟩ := hx i (by omega)
      obtain ⟨_, hlen, hcell⟩ := World.cells?_some h1
      obtain ⟨xs, k, hk, hxy, _, hxl, hf⟩ := DataW.trod_struct Tryd.underlying101 h2
      match cs', hlen with
      | [v0, v1], _ =>
        obtain ⟨y0, e0⟩ := get_some hxl (show 0 < 2 by omega)
        obtain ⟨y1, e1⟩ := get_some hxl (show 1 < 2 by omega)
        have g0 : DataW.trod enc Tryd.prog W base sp held k 3 [v0] = some y0 := by simpa [Value.cells, i3] using (hf 0 _ rfl).trans e0
        have g1 : DataW.trod enc Tryd.prog W base sp held k 9 [v1] = some y1 := by simpa [Value.cells, i9] using (hf 1 _ rfl).trans e1
        obtain ⟨a0, f0, _, q0⟩ := DataW.trod_int Tryd.underlying3 g0
        obtain ⟨a2, f2, _, q2⟩ := DataW.trod_string Tryd.underlying9 g1
        simp only [List.cons.injEq, and_true] at f0 f2
        subst f0 f2
        have c0 := hcell 0 (by omega)
        have c1 := hcell 1 (by omega)
        rw [add_add] at c0 c1
        exact ⟨⟨a0, a2⟩, by simpa using c0, by simpa using c1, q2⟩
    obtain ⟨F, hF⟩ := choose_lt each
    have hlen : ((List.range len0).map F).length = len0 := by simp
    have hget : ∀ i, i < len0 → ((List.range len0).map F).getD i default = F i := fun i hi => by simp [List.getD_eq_getElem?_getD, hi]
    refine ⟨(List.range len0).map F, ⟨some a, cap0, by rw [hlen], by rw [hlen]; exact hl, hm, ?_⟩, fun i hi => ?_⟩
    · by_cases h0 : len0 = 0
      · exact .inl (by rw [hlen]; exact h0)
      · obtain ⟨b, off, spot⟩ := a
        have hc := (hF 0 (by omega)).1
        have hspot : spot = none := by simpa [Addr.add] using World.cell?_spot hc
        subst hspot
        have hblk := World.block_lt_of_cell? W _ hc
        have e0 : ∀ i, (⟨b, off, none⟩ : Addr).add i = ⟨b, off + i, none⟩ := fun i => by unfold Addr.add; split <;> simp_all
        rw [e0] at hblk
        refine .inr ⟨b, off, rfl, hblk, fun i hi => ?_⟩
        rw [hlen] at hi
        obtain ⟨k0, k1, _⟩ := hF i hi
        rw [e0] at k0 k1
        rw [hget i hi]
        exact ⟨k0, by rw [Nat.add_assoc]; exact k1⟩
    · rw [hlen] at hi
      rw [hget i hi]
      exact (hF i hi).2.2
end Go.Proofs.YthabemlcabmmaaaDoor
