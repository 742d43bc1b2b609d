/- What the laws do with disks: szEntry, szEntryS, szState; toEntry, toEntryS, toState; eqEntry, eqEntryS, eqState. -/
import Derived.Test.YtglkgmijcefjkaaSta
import Derived.Deep.RegionHeld3
namespace Go.Proofs.Ytglkgmijcefjkaa
open Go.ChangeShapes Go.WideShapes Go.ChangeAt Go.RowKit
set_option linter.unusedVariables false

/-- Bytes of the data of the first k entries. -/
def ewTo (l : List En) : Nat → Int
  | 0 => 0
  | k + 1 => ewTo l k + ((l.getD k default).d.size : Int)
theorem ew_mono (l : List En) (i j : Nat) (h : i ≤ j) : ewTo l i ≤ ewTo l j := by
  induction j with
  | zero => obtain rfl : i = 0 := by omega
            exact Int.le_refl _
  | succ j ih =>
    by_cases e : i = j + 1
    · subst e; exact Int.le_refl _
    · have := ih (by omega)
      show _ ≤ ewTo l j + _
      omega
/-- What the measure of all of it leaves of L, or -1. -/
def eszR (L : Int) (l : List En) : Int := if (l.length : Int) + ewTo l l.length ≤ L then L - (l.length : Int) - ewTo l l.length else -1
def eszF (f : En) (left : Int) : Int := if left - (f.d.size : Int) < 0 then -1 else left - (f.d.size : Int)

set_option maxRecDepth 100000 in
set_option maxHeartbeats 1000000 in
theorem szEntryL_any (f : En) (left : Int) (w : World) (h0 : 0 ≤ left) (h1 : left ≤ 1048576) (hd : f.d.size ≤ maxLen) :
    Calls Try.prog 39 #[.agg #[.int .i64 f.t, .int .i64 f.k, .string f.d], .int .i64 left] w fun e w' => e = .returned (.int .i64 (eszF f left)) ∧ Below w.heap.size w w' := by
  obtain ⟨ft, fk, fd⟩ := f
  dsimp only at hd ⊢
  unfold maxLen at hd
  by_cases q1 : left - (fd.size : Int) < 0
  · have E : Hid (eszF ⟨ft, fk, fd⟩ left = -1) := hide (by unfold eszF; dsimp only; rw [if_pos (by omega)])
    go_enter Try.func39, Try.ntmps39
    go_wp2_with fail
    go_ret
    exact ⟨ret_int (unhide E).symm, (Below.refl _ _).alloc (Nat.le_refl _) _⟩
  · have E : Hid (eszF ⟨ft, fk, fd⟩ left = left - (fd.size : Int)) := hide (by unfold eszF; dsimp only; rw [if_neg (by omega)])
    go_enter Try.func39, Try.ntmps39
    go_wp2_with fail
    go_ret
    exact ⟨ret_int (unhide E).symm, (Below.refl _ _).alloc (Nat.le_refl _) _⟩

set_option maxRecDepth 100000 in
set_option maxHeartbeats 1000000 in
theorem szEntryS_any (L : Int) (hL0 : 0 ≤ L) (hL1 : L ≤ 1048576) (v : Value) (l : List En) (w : World) (h : Ens w v l) (hz : ∀ i, i < l.length → (l.getD i default).d.size ≤ maxLen) :
    Calls Try.prog 17 #[v, .int .i64 L] w fun e w' => e = .returned (.int .i64 (eszR L l)) ∧ Below w.heap.size w w' := by
  obtain ⟨a, cap, rfl, hn, hm, hc⟩ := h
  have HC := hide hc
  have HZ := hide hz
  have hlm : l.length ≤ 9223372036854775807 := by unfold maxLen at hm; omega
  clear hc hz hm hn
  have hw0 := ew_mono l 0 l.length (Nat.zero_le _)
  have hw00 : ewTo l 0 = 0 := rfl
  by_cases hl : L < l.length
  · have E : Hid (eszR L l = -1) := hide (by unfold eszR; rw [if_neg (by omega)])
    have hl2 : L - (l.length : Int) < 0 := by omega
    go_enter Try.func17, Try.ntmps17
    go_wp2_with fail
    go_ret
    exact ⟨ret_int (unhide E).symm, Below.refl _ _⟩
  · have hl2 : ¬ L - (l.length : Int) < 0 := by omega
    go_enter Try.func17, Try.ntmps17
    go_wp2_with fail
    go_loopw [1, 5] (fun lf i wr => ∃ (k : Nat) (x : Int), k ≤ l.length ∧ i = .int .i64 k ∧ lf = .int .i64 x ∧ x = L - (l.length : Int) - ewTo l k ∧ 0 ≤ x ∧ Below w.heap.size w wr) (fun _ i _ => l.length - (intOf i).toNat)
    case atStart => exact ⟨0, _, Nat.zero_le _, rfl, rfl, by rw [hw00]; omega, by omega, Below.refl _ _⟩
    case round =>
      obtain ⟨k, x, hk, rfl, rfl, hx, hx0, hb⟩ := hrel
      by_cases hlt : k < l.length
      · obtain ⟨b, off, rfl, hbl, hsrc⟩ : ∃ b off, a = some ⟨b, off, none⟩ ∧ b < w.heap.size ∧ ∀ i, i < l.length → w.cell? ⟨b, off + i * 3, none⟩ = some (.int .i64 (l.getD i default).t) ∧ w.cell? ⟨b, off + i * 3 + 1, none⟩ = some (.int .i64 (l.getD i default).k) ∧ w.cell? ⟨b, off + i * 3 + 2, none⟩ = some (.string (l.getD i default).d) := by
          rcases unhide HC with h0 | h1
          · omega
          · exact h1
        obtain ⟨s0, s1, s2⟩ := hsrc k hlt
        have c0 := (hb.cell (p := ⟨b, off + k * 3, none⟩) hbl).trans s0
        have c1 := (hb.cell (p := ⟨b, off + k * 3 + 1, none⟩) hbl).trans s1
        have c2 := (hb.cell (p := ⟨b, off + k * 3 + 2, none⟩) hbl).trans s2
        have hk0 : (0 : Int) ≤ (k : Int) := by omega
        have hk1 : (k : Int) < (l.length : Int) := by omega
        have hwk := ew_mono l 0 k (Nat.zero_le _)
        have hwl := ew_mono l (k + 1) l.length (by omega)
        have hws : ewTo l (k + 1) = ewTo l k + ((l.getD k default).d.size : Int) := rfl
        have hz := unhide HZ k hlt
        have hx1 : x ≤ 1048576 := by omega
        have hbs := hb.size
        have HB := hide hb
        clear hsrc s0 s1 s2 hb
        generalize l.getD k default = f at *
        have HSZ := hide (fun wx => szEntryL_any f x wx hx0 hx1 hz)
        have HSF : Hid (eszF f x = if x - (f.d.size : Int) < 0 then -1 else x - (f.d.size : Int)) := rfl
        obtain ⟨r, hr⟩ : ∃ r, r = eszF f x := ⟨_, rfl⟩
        rw [← hr] at HSZ HSF
        have HW := hide (And.intro hwl (And.intro hws hx))
        clear hr hwl hws hx hwk hw0 hw00 hz
        obtain ⟨ft, fk, fd⟩ := f
        dsimp only at c0 c1 c2 HSZ HSF HW
        go_wp2_with fail
        refine (unhide HSZ wr).mono ?_
        rintro e w2 ⟨rfl, hb2⟩
        have HB2 := hide ((unhide HB).trans (hb2.mono hbs))
        clear hb2 HB HSZ
        by_cases hr0 : r < 0
        · have E : Hid (eszR L l = -1) := hide (by
            obtain ⟨h1, h2, h3⟩ := unhide HW
            have h4 := unhide HSF
            unfold eszR; rw [if_neg]
            split at h4 <;> omega)
          go_wp2_with fail
          go_ret
          exact ⟨ret_int (unhide E).symm, unhide HB2⟩
        · go_wp2_with fail
          refine ⟨⟨k + 1, r, by omega, by go_num, rfl, ?_, by omega, unhide HB2⟩, ?_⟩
          · obtain ⟨h1, h2, h3⟩ := unhide HW
            have h4 := unhide HSF
            split at h4 <;> omega
          · simp [intOf]; omega
      · obtain rfl : k = l.length := by omega
        have E : Hid (eszR L l = x) := hide (by unfold eszR; rw [if_pos (by omega)]; omega)
        have R := hide hb
        clear hb hx
        go_wp2_with fail
        go_ret
        exact ⟨ret_int (unhide E).symm, unhide R⟩

set_option maxRecDepth 100000 in
set_option maxHeartbeats 1000000 in
theorem toEntryE_any (f : En) (w : World) :
    Calls Try.prog 46 #[.agg #[.int .i64 f.t, .int .i64 f.k, .string f.d]] w fun e w' => e = .returned (.agg #[.int .i64 f.t, .int .i64 f.k, .string f.d]) ∧ Below w.heap.size w w' := by
  obtain ⟨ft, fk, fd⟩ := f
  dsimp only
  go_enter Try.func46, Try.ntmps46
  go_wp2_with fail
  refine bodyPost_ret (v := .agg #[.int .i64 ft, .int .i64 fk, .string fd]) (by simp [results, Try.results46, go_sem]) rfl ⟨rfl, ?_⟩
  exact (((Below.refl _ _).alloc (Nat.le_refl _) _).alloc (by simp) _).alloc (by simp; omega) _

theorem ensC_len (l : List En) : (ensC l).length = l.length * 3 := by
  induction l with
  | nil => rfl
  | cons f r ih => simp only [ensC, List.flatMap_cons, List.length_append, List.length_cons] at ih ⊢; rw [ih]; simp [enC]; omega
theorem ensC_get : ∀ (l : List En) (i : Nat), i < l.length → (ensC l)[i * 3]? = some (.int .i64 (l.getD i default).t) ∧ (ensC l)[i * 3 + 1]? = some (.int .i64 (l.getD i default).k) ∧ (ensC l)[i * 3 + 2]? = some (.string (l.getD i default).d)
  | [], i, h => by simp at h
  | f :: r, 0, h => ⟨rfl, rfl, rfl⟩
  | f :: r, i + 1, h => by
    have ih := ensC_get r i (by simpa using h)
    have e : ensC (f :: r) = .int .i64 f.t :: .int .i64 f.k :: .string f.d :: ensC r := rfl
    rw [e, show (i + 1) * 3 = i * 3 + 1 + 1 + 1 by omega, show i * 3 + 1 + 1 + 1 + 1 = (i * 3 + 1) + 1 + 1 + 1 by omega, show i * 3 + 1 + 1 + 1 + 2 = (i * 3 + 2) + 1 + 1 + 1 by omega]
    simp only [List.getElem?_cons_succ, List.getD_cons_succ]
    exact ih
theorem ensC_set : ∀ (l : List En) (k : Nat) (f : En), k < l.length → (((ensC l).set (k * 3) (.int .i64 f.t)).set (k * 3 + 1) (.int .i64 f.k)).set (k * 3 + 2) (.string f.d) = ensC (l.set k f)
  | [], k, f, h => by simp at h
  | g :: r, 0, f, h => rfl
  | g :: r, k + 1, f, h => by
    have ih := ensC_set r k f (by simpa using h)
    have e : ∀ (g : En) (r : List En), ensC (g :: r) = .int .i64 g.t :: .int .i64 g.k :: .string g.d :: ensC r := fun _ _ => rfl
    rw [List.set_cons_succ, e, e, ← ih, show (k + 1) * 3 = k * 3 + 1 + 1 + 1 by omega, show k * 3 + 1 + 1 + 1 + 1 = (k * 3 + 1) + 1 + 1 + 1 by omega, show k * 3 + 1 + 1 + 1 + 2 = (k * 3 + 2) + 1 + 1 + 1 by omega]
    simp only [List.set_cons_succ]
theorem World.ownsRow_monoE {w : World} {base base' : Nat} {e : TypeId} {size : Nat} {v : Value} {n : Nat} {xs : List Value} (h : w.ownsRow base e size v n xs) (hb : base' ≤ base) : w.ownsRow base' e size v n xs := by
  obtain ⟨hl, hc⟩ := h
  refine ⟨hl, ?_⟩
  rcases hc with h0 | ⟨g, cap, cur, hv, hg, rest⟩
  · exact .inl h0
  · exact .inr ⟨g, cap, cur, hv, by omega, rest⟩
/-- The value is a slice of the call's own, from block B on, that holds these files. -/
def OwnE (B : Nat) (w : World) (v : Value) (l : List En) : Prop := w.ownsRow B 63 3 v l.length (ensC l)
theorem OwnE.cells {B : Nat} {w : World} {g cap n : Nat} {l : List En} (h : w.ownsRow B 63 3 (.slice (some ⟨g, 0, none⟩) n cap) n (ensC l)) (i : Nat) (hi : i < l.length) (hn : n = l.length) :
    w.cell? ⟨g, i * 3, none⟩ = some (.int .i64 (l.getD i default).t) ∧ w.cell? ⟨g, i * 3 + 1, none⟩ = some (.int .i64 (l.getD i default).k) ∧ w.cell? ⟨g, i * 3 + 2, none⟩ = some (.string (l.getD i default).d) := by
  obtain ⟨e0, e1, e2⟩ := ensC_get l i hi
  exact ⟨(h.cellAt _ (by omega)).trans e0, (h.cellAt _ (by omega)).trans e1, (h.cellAt _ (by omega)).trans e2⟩
theorem OwnE.ens {B : Nat} {w : World} {v : Value} {l : List En} (h : OwnE B w v l) : Ens w v l := by
  rcases h.2 with ⟨rfl, h0⟩ | ⟨g, cap, cur, rfl, hb, hg, hn, hm, _⟩
  · obtain rfl := List.eq_nil_of_length_eq_zero h0
    exact ⟨none, 0, rfl, Nat.le_refl _, by unfold maxLen; omega, .inl rfl⟩
  · refine ⟨_, _, rfl, hn, hm, .inr ⟨g, 0, rfl, (Array.getElem?_eq_some_iff.1 hg).1, fun i hi => ?_⟩⟩
    have := OwnE.cells h i hi rfl
    simpa using this
theorem OwnE.kept {T : Nat → Prop} {B : Nat} {w w' : World} {v : Value} {l : List En} (h : OwnE B w v l) (ht : Touch T w w') (hn : ∀ k, v.ownBlock = some k → ¬ T k) : OwnE B w' v l := by
  obtain ⟨hl, hc⟩ := h
  refine ⟨hl, ?_⟩
  rcases hc with h0 | ⟨g, cap, cur, rfl, hb, hgg, rest⟩
  · exact .inl h0
  · exact .inr ⟨g, cap, cur, rfl, hb, (ht.block g (Array.getElem?_eq_some_iff.1 hgg).1 (hn g rfl)).trans hgg, rest⟩
theorem OwnE.below {B : Nat} {w w' : World} {v : Value} {l : List En} (h : OwnE B w v l) (hb : Below w.heap.size w w') : OwnE B w' v l := h.kept (T := fun _ => False) (Touch.ofBelow hb) (fun _ _ h => h)
theorem OwnE.drewN {B : Nat} {w : World} {v : Value} {l : List En} (h : OwnE B w v l) (n : Nat) : OwnE B (w.drewN n) v l := h.kept (T := fun _ => False) ((Touch.refl _ _).drewN n) (fun _ _ h => h)
theorem infoEn : (Try.prog.info? 63).map (fun i => (i.zero, i.size, i.bytes)) = some (some (.agg #[.int .i64 0, .int .i64 0, .string ⟨#[]⟩]), 3, 32) := by kernel_rfl

def zeroEn : En := ⟨0, 0, ⟨#[]⟩⟩
def fillE (l : List En) (k : Nat) : List En := (List.range l.length).map fun j => if j < k then l.getD j default else zeroEn
theorem fillE_len (l : List En) (k : Nat) : (fillE l k).length = l.length := by simp [fillE]
theorem fillE_all (l : List En) : fillE l l.length = l := by
  apply List.ext_getElem?
  intro j
  by_cases hj : j < l.length
  · simp [fillE, hj, List.getD_eq_getElem?_getD]
  · simp [fillE, hj]
theorem fillE_set (l : List En) (k : Nat) (hk : k < l.length) : (fillE l k).set k (l.getD k default) = fillE l (k + 1) := by
  apply List.ext_getElem?
  intro j
  rw [List.getElem?_set]
  simp only [fillE_len]
  by_cases e : k = j
  · subst e
    rw [if_pos rfl, if_pos hk]
    simp [fillE, hk]
  · rw [if_neg e]
    by_cases hj : j < l.length
    · by_cases h1 : j < k
      · simp [fillE, hj, h1, show j < k + 1 by omega]
      · simp [fillE, hj, h1, show ¬ j < k + 1 by omega]
    · simp [fillE, hj]
theorem made3e (a b c : Value) (n j : Nat) (hj : j < n) : (madeCells #[a, b, c] n).toList[j]? = some (if j % 3 = 0 then a else if j % 3 = 1 then b else c) := by
  have h3 : (#[a, b, c] : Array Value).size = 3 := rfl
  unfold madeCells
  rw [h3, Array.getElem?_toList, Array.getElem?_map]
  have hr : (Array.range n)[j]? = some j := by simp [hj]
  rw [hr, Option.map_some]
  rcases (show j % 3 = 0 ∨ j % 3 = 1 ∨ j % 3 = 2 by omega) with e | e | e
  · rw [e]; rfl
  · rw [e]; rfl
  · rw [e]; rfl
theorem made_en (l : List En) : (madeCells (Value.agg #[.int .i64 0, .int .i64 0, .string ⟨#[]⟩]).cells (l.length * 3)).toList = ensC (fillE l 0) := by
  have hcs : (Value.agg #[.int .i64 0, .int .i64 0, .string ⟨#[]⟩]).cells = #[Value.int .i64 0, .int .i64 0, .string ⟨#[]⟩] := rfl
  rw [hcs]
  apply List.ext_getElem?
  intro j
  by_cases hj : j < l.length * 3
  · have hq : j / 3 < (fillE l 0).length := by rw [fillE_len]; omega
    obtain ⟨g0, g1, g2⟩ := ensC_get (fillE l 0) (j / 3) hq
    have hz : (fillE l 0).getD (j / 3) default = zeroEn := by
      rw [fillE_len] at hq
      rw [List.getD_eq_getElem?_getD]
      simp [fillE, hq]
    rw [hz] at g0 g1 g2
    rw [made3e _ _ _ _ _ hj]
    rcases (show j % 3 = 0 ∨ j % 3 = 1 ∨ j % 3 = 2 by omega) with e | e | e
    · rw [show j / 3 * 3 = j by omega] at g0; rw [g0, e]; rfl
    · rw [show j / 3 * 3 + 1 = j by omega] at g1; rw [g1, e]; rfl
    · rw [show j / 3 * 3 + 2 = j by omega] at g2; rw [g2, e]; rfl
  · have e1 : (madeCells #[Value.int .i64 0, .int .i64 0, .string ⟨#[]⟩] (l.length * 3)).toList[j]? = none := List.getElem?_eq_none (by rw [Array.length_toList, size_madeCells]; omega)
    have e2 : (ensC (fillE l 0))[j]? = none := List.getElem?_eq_none (by rw [ensC_len, fillE_len]; omega)
    rw [e1, e2]

set_option maxRecDepth 100000 in
set_option maxHeartbeats 1000000 in
theorem toEntryS_any (v : Value) (l : List En) (w : World) (h : Ens w v l) (hs : l.length ≤ 1048576) :
    Calls Try.prog 23 #[v] w fun e w' => e = .returned (.slice (some ⟨w.heap.size, 0, none⟩) l.length l.length) ∧ OwnE w.heap.size w' (.slice (some ⟨w.heap.size, 0, none⟩) l.length l.length) l ∧ Below w.heap.size w w' := by
  obtain ⟨i0, hi, hz0, hz1, hz2⟩ := info_parts infoEn
  obtain ⟨a, cap, rfl, hn, hm, hc⟩ := h
  have HC := hide hc
  clear hc hm hn
  go_enter Try.func23, Try.ntmps23
  go_wp2_with (at_make; refine wpList_make_full _ rfl _ _ 27 rfl w.heap.size 63 i0 _ 3 Try.underlying27 hi hz0 hz1 .i64 .i64 _ _ l.length rfl rfl rfl rfl (by rw [hz2]; omega) (by unfold maxLen; omega) (Nat.le_refl _) ?_; intro w1 hown1 hg1)
  rw [made_en] at hown1
  have HZ := hide (And.intro hown1 ((Below.refl w.heap.size w).grown hg1 (Nat.le_refl _) (fun k h => by cases h)))
  clear hown1 hg1
  go_loopw [4] (fun i wr => ∃ k : Nat, k ≤ l.length ∧ i = .int .i64 k ∧ wr.ownsRow w.heap.size 63 3 (.slice (some ⟨w.heap.size, 0, none⟩) l.length l.length) l.length (ensC (fillE l k)) ∧ Below w.heap.size w wr) (fun i _ => l.length - (intOf i).toNat)
  case atStart => exact ⟨0, Nat.zero_le _, rfl, (unhide HZ).1, (unhide HZ).2⟩
  case round =>
    obtain ⟨k, hk, rfl, hL, hbel⟩ := hrel
    by_cases hlt : k < l.length
    · obtain ⟨b, off, rfl, hbl, hsrc⟩ : ∃ b off, a = some ⟨b, off, none⟩ ∧ b < w.heap.size ∧ ∀ i, i < l.length → w.cell? ⟨b, off + i * 3, none⟩ = some (.int .i64 (l.getD i default).t) ∧ w.cell? ⟨b, off + i * 3 + 1, none⟩ = some (.int .i64 (l.getD i default).k) ∧ w.cell? ⟨b, off + i * 3 + 2, none⟩ = some (.string (l.getD i default).d) := by
        rcases unhide HC with h0 | h1
        · omega
        · exact h1
      obtain ⟨s0, s1, s2⟩ := hsrc k hlt
      have c0 := (hbel.cell (p := ⟨b, off + k * 3, none⟩) hbl).trans s0
      have c1 := (hbel.cell (p := ⟨b, off + k * 3 + 1, none⟩) hbl).trans s1
      have c2 := (hbel.cell (p := ⟨b, off + k * 3 + 2, none⟩) hbl).trans s2
      have hk0 : (0 : Int) ≤ (k : Int) := by omega
      have hk1 : (k : Int) < (l.length : Int) := by omega
      have hbs := hbel.size
      have HL := hide hL
      have HB := hide hbel
      clear hsrc s0 s1 s2 hL hbel
      obtain ⟨f, hf⟩ : ∃ f, f = l.getD k default := ⟨_, rfl⟩
      rw [← hf] at c0 c1 c2
      have HFe := hide hf
      clear hf
      have HT := hide (fun wx => toEntryE_any f wx)
      obtain ⟨ft, fk, fd⟩ := f
      dsimp only at c0 c1 c2 HT
      go_wp2_with fail
      refine (unhide HT wr).mono ?_
      rintro e w2 ⟨rfl, hb2⟩
      have hO : w2.ownsRow w.heap.size 63 3 (.slice (some ⟨w.heap.size, 0, none⟩) l.length l.length) l.length (ensC (fillE l k)) := by
        obtain ⟨hl, hc⟩ := unhide HL
        refine ⟨hl, ?_⟩
        rcases hc with h0 | ⟨g, cap, cur, hv, hb, hgg, rest⟩
        · exact .inl h0
        · exact .inr ⟨g, cap, cur, hv, hb, (hb2.block g (Array.getElem?_eq_some_iff.1 hgg).1).trans hgg, rest⟩
      have hB2 := (unhide HB).trans (hb2.mono hbs)
      obtain ⟨d0, d1, d2⟩ := OwnE.cells hO k (by rw [fillE_len]; exact hlt) (fillE_len l k).symm
      have f0 := hO.frozenAt (k * 3)
      have f1 := hO.frozenAt (k * 3 + 1)
      have f2 := hO.frozenAt (k * 3 + 2)
      have q0 := (hO.stored (k * 3) (.int .i64 ft)).1
      have q1 := (q0.stored (k * 3 + 1) (.int .i64 fk)).1
      have q2 := (q1.stored (k * 3 + 2) (.string fd)).1
      have hset : (((ensC (fillE l k)).set (k * 3) (.int .i64 ft)).set (k * 3 + 1) (.int .i64 fk)).set (k * 3 + 2) (.string fd) = ensC (fillE l (k + 1)) := by
        have h1 := ensC_set (fillE l k) k ⟨ft, fk, fd⟩ (by rw [fillE_len]; exact hlt)
        dsimp only at h1
        rw [h1, ← fillE_set l k hlt, ← unhide HFe]
      rw [hset] at q2
      have R := hide (And.intro q2 (((hB2.setCell (p := ⟨w.heap.size, k * 3, none⟩) (Nat.le_refl _) (.int .i64 ft)).setCell (p := ⟨w.heap.size, k * 3 + 1, none⟩) (Nat.le_refl _) (.int .i64 fk)).setCell (p := ⟨w.heap.size, k * 3 + 2, none⟩) (Nat.le_refl _) (.string fd)))
      clear q0 q1 q2 hset hO hB2 hb2 HT HL HB
      go_wp2_with fail
      refine ⟨⟨k + 1, by omega, by go_num, (unhide R).1, (unhide R).2⟩, ?_⟩
      simp [intOf]; omega
    · obtain rfl : k = l.length := by omega
      rw [fillE_all] at hL
      have R := hide (And.intro hL hbel)
      clear hL hbel
      go_wp2_with fail
      go_ret
      exact ⟨rfl, (unhide R).1, (unhide R).2⟩

set_option maxRecDepth 100000 in
set_option maxHeartbeats 1000000 in
theorem eqEntry_any (f : En) (w : World) :
    Calls Try.prog 57 #[.agg #[.int .i64 f.t, .int .i64 f.k, .string f.d], .agg #[.int .i64 f.t, .int .i64 f.k, .string f.d]] w fun e w' => e = .returned (.bool true) ∧ Below w.heap.size w w' := by
  obtain ⟨ft, fk, fd⟩ := f
  dsimp only
  go_enter Try.func57, Try.ntmps57
  go_wp2_with fail
  go_ret
  exact ⟨rfl, ((Below.refl _ _).alloc (Nat.le_refl _) _).alloc (by simp) _⟩

set_option maxRecDepth 100000 in
set_option maxHeartbeats 1000000 in
theorem eqEntryS_any (v v2 : Value) (l : List En) (w : World) (h : Ens w v l) (h2 : Ens w v2 l) (hs : l.length ≤ 1048576) :
    Calls Try.prog 30 #[v, v2] w fun e w' => e = .returned (.bool true) ∧ Below w.heap.size w w' := by
  obtain ⟨a, cap, rfl, hn, hm, hc⟩ := h
  obtain ⟨a2, cap2, rfl, hn2, hm2, hc2⟩ := h2
  have HC := hide hc
  have HC2 := hide hc2
  clear hc hm hc2 hm2 hn hn2
  go_enter Try.func30, Try.ntmps30
  go_wp2_with fail
  go_loopw [5] (fun i wr => ∃ k : Nat, k ≤ l.length ∧ i = .int .i64 k ∧ Below w.heap.size w wr) (fun i _ => l.length - (intOf i).toNat)
  case atStart => exact ⟨0, Nat.zero_le _, rfl, Below.refl _ _⟩
  case round =>
    obtain ⟨k, hk, rfl, hb⟩ := hrel
    by_cases hlt : k < l.length
    · obtain ⟨b, off, rfl, hbl, hsrc⟩ : ∃ b off, a = some ⟨b, off, none⟩ ∧ b < w.heap.size ∧ ∀ i, i < l.length → w.cell? ⟨b, off + i * 3, none⟩ = some (.int .i64 (l.getD i default).t) ∧ w.cell? ⟨b, off + i * 3 + 1, none⟩ = some (.int .i64 (l.getD i default).k) ∧ w.cell? ⟨b, off + i * 3 + 2, none⟩ = some (.string (l.getD i default).d) := by
        rcases unhide HC with h0 | h1
        · omega
        · exact h1
      obtain ⟨b2, off2, rfl, hbl2, hsrc2⟩ : ∃ b off, a2 = some ⟨b, off, none⟩ ∧ b < w.heap.size ∧ ∀ i, i < l.length → w.cell? ⟨b, off + i * 3, none⟩ = some (.int .i64 (l.getD i default).t) ∧ w.cell? ⟨b, off + i * 3 + 1, none⟩ = some (.int .i64 (l.getD i default).k) ∧ w.cell? ⟨b, off + i * 3 + 2, none⟩ = some (.string (l.getD i default).d) := by
        rcases unhide HC2 with h0 | h1
        · omega
        · exact h1
      obtain ⟨s0, s1, s2⟩ := hsrc k hlt
      obtain ⟨t0, t1, t2⟩ := hsrc2 k hlt
      have c0 := (hb.cell (p := ⟨b, off + k * 3, none⟩) hbl).trans s0
      have c1 := (hb.cell (p := ⟨b, off + k * 3 + 1, none⟩) hbl).trans s1
      have c2 := (hb.cell (p := ⟨b, off + k * 3 + 2, none⟩) hbl).trans s2
      have d0 := (hb.cell (p := ⟨b2, off2 + k * 3, none⟩) hbl2).trans t0
      have d1 := (hb.cell (p := ⟨b2, off2 + k * 3 + 1, none⟩) hbl2).trans t1
      have d2 := (hb.cell (p := ⟨b2, off2 + k * 3 + 2, none⟩) hbl2).trans t2
      have hk0 : (0 : Int) ≤ (k : Int) := by omega
      have hk1 : (k : Int) < (l.length : Int) := by omega
      have hbs := hb.size
      have HB := hide hb
      clear hsrc hsrc2 s0 s1 s2 t0 t1 t2 hb
      generalize l.getD k default = f at *
      have HT := hide (fun wx => eqEntry_any f wx)
      obtain ⟨ft, fk, fd⟩ := f
      dsimp only at c0 c1 c2 d0 d1 d2 HT
      go_wp2_with fail
      go_region_held3 (fun wx => wx.cell? ⟨b, off + k * 3, none⟩ = some (.int .i64 ft) ∧ wx.cell? ⟨b, off + k * 3 + 1, none⟩ = some (.int .i64 fk) ∧ wx.cell? ⟨b, off + k * 3 + 2, none⟩ = some (.string fd) ∧ wx.cell? ⟨b2, off2 + k * 3, none⟩ = some (.int .i64 ft) ∧ wx.cell? ⟨b2, off2 + k * 3 + 1, none⟩ = some (.int .i64 fk) ∧ wx.cell? ⟨b2, off2 + k * 3 + 2, none⟩ = some (.string fd))
        (first | go_keep | exact ⟨(hb2.cell (p := ⟨b, off + k * 3, none⟩) (by simp; omega)).trans c0, (hb2.cell (p := ⟨b, off + k * 3 + 1, none⟩) (by simp; omega)).trans c1, (hb2.cell (p := ⟨b, off + k * 3 + 2, none⟩) (by simp; omega)).trans c2, (hb2.cell (p := ⟨b2, off2 + k * 3, none⟩) (by simp; omega)).trans d0, (hb2.cell (p := ⟨b2, off2 + k * 3 + 1, none⟩) (by simp; omega)).trans d1, (hb2.cell (p := ⟨b2, off2 + k * 3 + 2, none⟩) (by simp; omega)).trans d2⟩)
        ((go_at_call 57; refine (unhide HT _).mono ?_; rintro e w2 ⟨rfl, hb2⟩))
      all_goals
        have HBZ := hide ((unhide HB).trans (show Below w.heap.size wr w2 from (below_drewN (Below.refl _ wr) 1).trans (hb2.mono (by simpa using hbs))))
        clear hb2 HB
        go_wp2_with fail
        refine ⟨⟨k + 1, by omega, by go_num, unhide HBZ⟩, ?_⟩
        simp [intOf]; omega
    · have HB := hide hb
      clear hb
      go_wp2_with fail
      go_ret
      exact ⟨rfl, unhide HB⟩

end Go.Proofs.Ytglkgmijcefjkaa
