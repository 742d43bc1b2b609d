/- What the laws do with disks: szFile, szFileS, szDisk; toFile, toFileS, toDisk; eqFile, eqFileS, eqDisk. -/
import Derived.Test.YtfihhkhdigbmiaaGreatDoorFil
import Derived.Deep.RegionHeld3
namespace Go.Proofs.YtfihhkhdigbmiaaGreatDoor
open Go.ChangeShapes Go.WideShapes Go.ChangeAt Go.RowKit
set_option linter.unusedVariables false

/-- Bytes of names and data of the first k files. -/
def wtTo (l : List Fl) : Nat → Int
  | 0 => 0
  | k + 1 => wtTo l k + ((l.getD k default).n.size : Int) + ((l.getD k default).d.size : Int)
theorem wt_mono (l : List Fl) (i j : Nat) (h : i ≤ j) : wtTo l i ≤ wtTo l j := by
  induction j with
  | zero => obtain rfl : i = 0 := by omega
            exact Int.le_refl _
  | succ j ih =>
    by_cases e : i = j + 1
    · subst e; exact Int.le_refl _
    · have := ih (by omega)
      show _ ≤ wtTo l j + _ + _
      omega
/-- What the measure of all of it leaves of 1048576, or -1. -/
def szR (l : List Fl) : Int := if (l.length : Int) + wtTo l l.length ≤ 1048576 then 1048576 - (l.length : Int) - wtTo l l.length else -1
def szF (f : Fl) (left : Int) : Int := if left - (f.n.size : Int) - (f.d.size : Int) < 0 then -1 else left - (f.n.size : Int) - (f.d.size : Int)

set_option maxRecDepth 100000 in
set_option maxHeartbeats 1000000 in
theorem szFile_any (f : Fl) (left : Int) (w : World) (h0 : 0 ≤ left) (h1 : left ≤ 1048576) (hn : f.n.size ≤ maxLen) (hd : f.d.size ≤ maxLen) :
    Calls Tryz.prog 30 #[.agg #[.string f.n, .string f.d, .int .i64 f.s], .int .i64 left] w fun e w' => e = .returned (.int .i64 (szF f left)) ∧ Below w.heap.size w w' := by
  obtain ⟨fn, fd, fs⟩ := f
  dsimp only at hn hd ⊢
  unfold maxLen at hn hd
  by_cases q1 : left - (fn.size : Int) < 0
  · have E : Hid (szF ⟨fn, fd, fs⟩ left = -1) := hide (by unfold szF; dsimp only; rw [if_pos (by omega)])
    go_enter Tryz.func30, Tryz.ntmps30
    go_wp2_with fail
    go_ret
    exact ⟨ret_int (unhide E).symm, (Below.refl _ _).alloc (Nat.le_refl _) _⟩
  · by_cases q2 : left - (fn.size : Int) - (fd.size : Int) < 0
    · have E : Hid (szF ⟨fn, fd, fs⟩ left = -1) := hide (by unfold szF; dsimp only; rw [if_pos (by omega)])
      go_enter Tryz.func30, Tryz.ntmps30
      go_wp2_with fail
      go_ret
      exact ⟨ret_int (unhide E).symm, (Below.refl _ _).alloc (Nat.le_refl _) _⟩
    · have E : Hid (szF ⟨fn, fd, fs⟩ left = left - (fn.size : Int) - (fd.size : Int)) := hide (by unfold szF; dsimp only; rw [if_neg (by omega)])
      go_enter Tryz.func30, Tryz.ntmps30
      go_wp2_with fail
      go_ret
      exact ⟨ret_int (unhide E).symm, (Below.refl _ _).alloc (Nat.le_refl _) _⟩

set_option maxRecDepth 100000 in
set_option maxHeartbeats 1000000 in
theorem szFileS_any (v : Value) (l : List Fl) (w : World) (h : Fls w v l) (hz : ∀ i, i < l.length → (l.getD i default).n.size ≤ maxLen ∧ (l.getD i default).d.size ≤ maxLen) :
    Calls Tryz.prog 14 #[v, .int .i64 1048576] w fun e w' => e = .returned (.int .i64 (szR l)) ∧ Below w.heap.size w w' := by
  obtain ⟨a, cap, rfl, hn, hm, hc⟩ := h
  have HC := hide hc
  have HZ := hide hz
  have hlm : l.length ≤ 9223372036854775807 := by unfold maxLen at hm; omega
  clear hc hz hm hn
  have hw0 := wt_mono l 0 l.length (Nat.zero_le _)
  have hw00 : wtTo l 0 = 0 := rfl
  by_cases hl : 1048576 < l.length
  · have E : Hid (szR l = -1) := hide (by unfold szR; rw [if_neg (by omega)])
    have hl2 : (1048576 : Int) - (l.length : Int) < 0 := by omega
    go_enter Tryz.func14, Tryz.ntmps14
    go_wp2_with fail
    go_ret
    exact ⟨ret_int (unhide E).symm, Below.refl _ _⟩
  · have hl2 : ¬ (1048576 : Int) - (l.length : Int) < 0 := by omega
    go_enter Tryz.func14, Tryz.ntmps14
    go_wp2_with fail
    go_loopw [1, 5] (fun lf i wr => ∃ (k : Nat) (x : Int), k ≤ l.length ∧ i = .int .i64 k ∧ lf = .int .i64 x ∧ x = 1048576 - (l.length : Int) - wtTo l k ∧ 0 ≤ x ∧ Below w.heap.size w wr) (fun _ i _ => l.length - (intOf i).toNat)
    case atStart => exact ⟨0, _, Nat.zero_le _, rfl, rfl, by rw [hw00]; omega, by omega, Below.refl _ _⟩
    case round =>
      obtain ⟨k, x, hk, rfl, rfl, hx, hx0, hb⟩ := hrel
      by_cases hlt : k < l.length
      · obtain ⟨b, off, rfl, hbl, hsrc⟩ : ∃ b off, a = some ⟨b, off, none⟩ ∧ b < w.heap.size ∧ ∀ i, i < l.length → w.cell? ⟨b, off + i * 3, none⟩ = some (.string (l.getD i default).n) ∧ w.cell? ⟨b, off + i * 3 + 1, none⟩ = some (.string (l.getD i default).d) ∧ w.cell? ⟨b, off + i * 3 + 2, none⟩ = some (.int .i64 (l.getD i default).s) := by
          rcases unhide HC with h0 | h1
          · omega
          · exact h1
        obtain ⟨s0, s1, s2⟩ := hsrc k hlt
        have c0 := (hb.cell (p := ⟨b, off + k * 3, none⟩) hbl).trans s0
        have c1 := (hb.cell (p := ⟨b, off + k * 3 + 1, none⟩) hbl).trans s1
        have c2 := (hb.cell (p := ⟨b, off + k * 3 + 2, none⟩) hbl).trans s2
        have hk0 : (0 : Int) ≤ (k : Int) := by omega
        have hk1 : (k : Int) < (l.length : Int) := by omega
        have hwk := wt_mono l 0 k (Nat.zero_le _)
        have hwl := wt_mono l (k + 1) l.length (by omega)
        have hws : wtTo l (k + 1) = wtTo l k + ((l.getD k default).n.size : Int) + ((l.getD k default).d.size : Int) := rfl
        have hz := unhide HZ k hlt
        have hx1 : x ≤ 1048576 := by omega
        have hbs := hb.size
        have HB := hide hb
        clear hsrc s0 s1 s2 hb
        generalize l.getD k default = f at *
        have HSZ := hide (fun wx => szFile_any f x wx hx0 hx1 hz.1 hz.2)
        have HSF : Hid (szF f x = if x - (f.n.size : Int) - (f.d.size : Int) < 0 then -1 else x - (f.n.size : Int) - (f.d.size : Int)) := rfl
        obtain ⟨r, hr⟩ : ∃ r, r = szF f x := ⟨_, rfl⟩
        rw [← hr] at HSZ HSF
        have HW := hide (And.intro hwl (And.intro hws hx))
        clear hr hwl hws hx hwk hw0 hw00 hz
        obtain ⟨fn, fd, fs⟩ := f
        dsimp only at c0 c1 c2 HSZ HSF HW
        go_wp2_with fail
        refine (unhide HSZ wr).mono ?_
        rintro e w2 ⟨rfl, hb2⟩
        have HB2 := hide ((unhide HB).trans (hb2.mono hbs))
        clear hb2 HB HSZ
        by_cases hr0 : r < 0
        · have E : Hid (szR l = -1) := hide (by
            obtain ⟨h1, h2, h3⟩ := unhide HW
            have h4 := unhide HSF
            unfold szR; rw [if_neg]
            split at h4 <;> omega)
          go_wp2_with fail
          go_ret
          exact ⟨ret_int (unhide E).symm, unhide HB2⟩
        · go_wp2_with fail
          refine ⟨⟨k + 1, r, by omega, by go_num, rfl, ?_, by omega, unhide HB2⟩, ?_⟩
          · obtain ⟨h1, h2, h3⟩ := unhide HW
            have h4 := unhide HSF
            split at h4 <;> omega
          · simp [intOf]; omega
      · obtain rfl : k = l.length := by omega
        have E : Hid (szR l = x) := hide (by unfold szR; rw [if_pos (by omega)]; omega)
        have R := hide hb
        clear hb hx
        go_wp2_with fail
        go_ret
        exact ⟨ret_int (unhide E).symm, unhide R⟩

set_option maxRecDepth 100000 in
set_option maxHeartbeats 1000000 in
theorem szDisk_any (room : Int) (v : Value) (l : List Fl) (w : World) (h : Fls w v l) (hz : ∀ i, i < l.length → (l.getD i default).n.size ≤ maxLen ∧ (l.getD i default).d.size ≤ maxLen) :
    Calls Tryz.prog 5 #[.agg #[.int .i64 room, v], .int .i64 1048576] w fun e w' => e = .returned (.int .i64 (szR l)) ∧ Below w.heap.size w w' := by
  have HF := hide h
  obtain ⟨a, cap, rfl, hn, hm, hc⟩ := h
  have HZ := hide hz
  have B0 := hide ((Below.refl w.heap.size w).alloc (Nat.le_refl _) (.cells #[.int .i64 room, .slice a l.length cap] 24))
  clear hc hz hm hn
  go_enter Tryz.func5, Tryz.ntmps5
  go_wp2_with fail
  generalize w.alloc (.cells #[.int .i64 room, .slice a l.length cap] 24) = w0 at *
  refine (szFileS_any _ l w0 ((unhide HF).below (unhide B0)) (unhide HZ)).mono ?_
  rintro e w1 ⟨rfl, hb⟩
  have B1 := hide ((unhide B0).trans (hb.mono (unhide B0).size))
  have hr : Hid (szR l < 0 → szR l = -1) := hide (fun h => by unfold szR at h ⊢; split at h <;> rename_i h1; omega; rw [if_neg h1])
  clear hb
  obtain ⟨r, hq⟩ : ∃ r, r = szR l := ⟨_, rfl⟩
  rw [← hq] at hr ⊢
  have HQ := hide hq
  clear hq
  by_cases hr0 : r < 0
  · obtain rfl : r = -1 := unhide hr hr0
    go_wp2_with fail
    go_ret
    exact ⟨ret_int (unhide HQ), unhide B1⟩
  · go_wp2_with fail
    go_ret
    exact ⟨ret_int (unhide HQ), unhide B1⟩

set_option maxRecDepth 100000 in
set_option maxHeartbeats 1000000 in
theorem toFile_any (f : Fl) (w : World) :
    Calls Tryz.prog 37 #[.agg #[.string f.n, .string f.d, .int .i64 f.s]] w fun e w' => e = .returned (.agg #[.string f.n, .string f.d, .int .i64 f.s]) ∧ Below w.heap.size w w' := by
  obtain ⟨fn, fd, fs⟩ := f
  dsimp only
  go_enter Tryz.func37, Tryz.ntmps37
  go_wp2_with fail
  refine bodyPost_ret (v := .agg #[.string fn, .string fd, .int .i64 fs]) (by simp [results, Tryz.results37, go_sem]) rfl ⟨rfl, ?_⟩
  exact (((Below.refl _ _).alloc (Nat.le_refl _) _).alloc (by simp) _).alloc (by simp; omega) _

theorem flsC_len (l : List Fl) : (flsC l).length = l.length * 3 := by
  induction l with
  | nil => rfl
  | cons f r ih => simp only [flsC, List.flatMap_cons, List.length_append, List.length_cons] at ih ⊢; rw [ih]; simp [flC]; omega
theorem flsC_get : ∀ (l : List Fl) (i : Nat), i < l.length → (flsC l)[i * 3]? = some (.string (l.getD i default).n) ∧ (flsC l)[i * 3 + 1]? = some (.string (l.getD i default).d) ∧ (flsC l)[i * 3 + 2]? = some (.int .i64 (l.getD i default).s)
  | [], i, h => by simp at h
  | f :: r, 0, h => ⟨rfl, rfl, rfl⟩
  | f :: r, i + 1, h => by
    have ih := flsC_get r i (by simpa using h)
    have e : flsC (f :: r) = .string f.n :: .string f.d :: .int .i64 f.s :: flsC r := rfl
    rw [e, show (i + 1) * 3 = i * 3 + 1 + 1 + 1 by omega, show i * 3 + 1 + 1 + 1 + 1 = (i * 3 + 1) + 1 + 1 + 1 by omega, show i * 3 + 1 + 1 + 1 + 2 = (i * 3 + 2) + 1 + 1 + 1 by omega]
    simp only [List.getElem?_cons_succ, List.getD_cons_succ]
    exact ih
theorem flsC_set : ∀ (l : List Fl) (k : Nat) (f : Fl), k < l.length → (((flsC l).set (k * 3) (.string f.n)).set (k * 3 + 1) (.string f.d)).set (k * 3 + 2) (.int .i64 f.s) = flsC (l.set k f)
  | [], k, f, h => by simp at h
  | g :: r, 0, f, h => rfl
  | g :: r, k + 1, f, h => by
    have ih := flsC_set r k f (by simpa using h)
    have e : ∀ (g : Fl) (r : List Fl), flsC (g :: r) = .string g.n :: .string g.d :: .int .i64 g.s :: flsC r := fun _ _ => rfl
    rw [List.set_cons_succ, e, e, ← ih, show (k + 1) * 3 = k * 3 + 1 + 1 + 1 by omega, show k * 3 + 1 + 1 + 1 + 1 = (k * 3 + 1) + 1 + 1 + 1 by omega, show k * 3 + 1 + 1 + 1 + 2 = (k * 3 + 2) + 1 + 1 + 1 by omega]
    simp only [List.set_cons_succ]
theorem World.ownsRow_mono' {w : World} {base base' : Nat} {e : TypeId} {size : Nat} {v : Value} {n : Nat} {xs : List Value} (h : w.ownsRow base e size v n xs) (hb : base' ≤ base) : w.ownsRow base' e size v n xs := by
  obtain ⟨hl, hc⟩ := h
  refine ⟨hl, ?_⟩
  rcases hc with h0 | ⟨g, cap, cur, hv, hg, rest⟩
  · exact .inl h0
  · exact .inr ⟨g, cap, cur, hv, by omega, rest⟩
/-- The value is a slice of the call's own, from block B on, that holds these files. -/
def OwnF (B : Nat) (w : World) (v : Value) (l : List Fl) : Prop := w.ownsRow B 68 3 v l.length (flsC l)
theorem OwnF.cells {B : Nat} {w : World} {g cap n : Nat} {l : List Fl} (h : w.ownsRow B 68 3 (.slice (some ⟨g, 0, none⟩) n cap) n (flsC l)) (i : Nat) (hi : i < l.length) (hn : n = l.length) :
    w.cell? ⟨g, i * 3, none⟩ = some (.string (l.getD i default).n) ∧ w.cell? ⟨g, i * 3 + 1, none⟩ = some (.string (l.getD i default).d) ∧ w.cell? ⟨g, i * 3 + 2, none⟩ = some (.int .i64 (l.getD i default).s) := by
  obtain ⟨e0, e1, e2⟩ := flsC_get l i hi
  exact ⟨(h.cellAt _ (by omega)).trans e0, (h.cellAt _ (by omega)).trans e1, (h.cellAt _ (by omega)).trans e2⟩
theorem OwnF.fls {B : Nat} {w : World} {v : Value} {l : List Fl} (h : OwnF B w v l) : Fls w v l := by
  rcases h.2 with ⟨rfl, h0⟩ | ⟨g, cap, cur, rfl, hb, hg, hn, hm, _⟩
  · obtain rfl := List.eq_nil_of_length_eq_zero h0
    exact ⟨none, 0, rfl, Nat.le_refl _, by unfold maxLen; omega, .inl rfl⟩
  · refine ⟨_, _, rfl, hn, hm, .inr ⟨g, 0, rfl, (Array.getElem?_eq_some_iff.1 hg).1, fun i hi => ?_⟩⟩
    have := OwnF.cells h i hi rfl
    simpa using this
theorem OwnF.kept {T : Nat → Prop} {B : Nat} {w w' : World} {v : Value} {l : List Fl} (h : OwnF B w v l) (ht : Touch T w w') (hn : ∀ k, v.ownBlock = some k → ¬ T k) : OwnF B w' v l := by
  obtain ⟨hl, hc⟩ := h
  refine ⟨hl, ?_⟩
  rcases hc with h0 | ⟨g, cap, cur, rfl, hb, hgg, rest⟩
  · exact .inl h0
  · exact .inr ⟨g, cap, cur, rfl, hb, (ht.block g (Array.getElem?_eq_some_iff.1 hgg).1 (hn g rfl)).trans hgg, rest⟩
theorem OwnF.below {B : Nat} {w w' : World} {v : Value} {l : List Fl} (h : OwnF B w v l) (hb : Below w.heap.size w w') : OwnF B w' v l := h.kept (T := fun _ => False) (Touch.ofBelow hb) (fun _ _ h => h)
theorem OwnF.drewN {B : Nat} {w : World} {v : Value} {l : List Fl} (h : OwnF B w v l) (n : Nat) : OwnF B (w.drewN n) v l := h.kept (T := fun _ => False) ((Touch.refl _ _).drewN n) (fun _ _ h => h)
theorem infoF : (Tryz.prog.info? 68).map (fun i => (i.zero, i.size, i.bytes)) = some (some (.agg #[.string ⟨#[]⟩, .string ⟨#[]⟩, .int .i64 0]), 3, 40) := by kernel_rfl

def zeroF : Fl := ⟨⟨#[]⟩, ⟨#[]⟩, 0⟩
def fillF (l : List Fl) (k : Nat) : List Fl := (List.range l.length).map fun j => if j < k then l.getD j default else zeroF
theorem fillF_len (l : List Fl) (k : Nat) : (fillF l k).length = l.length := by simp [fillF]
theorem fillF_all (l : List Fl) : fillF l l.length = l := by
  apply List.ext_getElem?
  intro j
  by_cases hj : j < l.length
  · simp [fillF, hj, List.getD_eq_getElem?_getD]
  · simp [fillF, hj]
theorem fillF_set (l : List Fl) (k : Nat) (hk : k < l.length) : (fillF l k).set k (l.getD k default) = fillF l (k + 1) := by
  apply List.ext_getElem?
  intro j
  rw [List.getElem?_set]
  simp only [fillF_len]
  by_cases e : k = j
  · subst e
    rw [if_pos rfl, if_pos hk]
    simp [fillF, hk]
  · rw [if_neg e]
    by_cases hj : j < l.length
    · by_cases h1 : j < k
      · simp [fillF, hj, h1, show j < k + 1 by omega]
      · simp [fillF, hj, h1, show ¬ j < k + 1 by omega]
    · simp [fillF, hj]
theorem made3 (a b c : Value) (n j : Nat) (hj : j < n) : (madeCells #[a, b, c] n).toList[j]? = some (if j % 3 = 0 then a else if j % 3 = 1 then b else c) := by
  have h3 : (#[a, b, c] : Array Value).size = 3 := rfl
  unfold madeCells
  rw [h3, Array.getElem?_toList, Array.getElem?_map]
  have hr : (Array.range n)[j]? = some j := by simp [hj]
  rw [hr, Option.map_some]
  rcases (show j % 3 = 0 ∨ j % 3 = 1 ∨ j % 3 = 2 by omega) with e | e | e
  · rw [e]; rfl
  · rw [e]; rfl
  · rw [e]; rfl
theorem made_fl (l : List Fl) : (madeCells (Value.agg #[.string ⟨#[]⟩, .string ⟨#[]⟩, .int .i64 0]).cells (l.length * 3)).toList = flsC (fillF l 0) := by
  have hcs : (Value.agg #[.string ⟨#[]⟩, .string ⟨#[]⟩, .int .i64 0]).cells = #[Value.string ⟨#[]⟩, .string ⟨#[]⟩, .int .i64 0] := rfl
  rw [hcs]
  apply List.ext_getElem?
  intro j
  by_cases hj : j < l.length * 3
  · have hq : j / 3 < (fillF l 0).length := by rw [fillF_len]; omega
    obtain ⟨g0, g1, g2⟩ := flsC_get (fillF l 0) (j / 3) hq
    have hz : (fillF l 0).getD (j / 3) default = zeroF := by
      rw [fillF_len] at hq
      rw [List.getD_eq_getElem?_getD]
      simp [fillF, hq]
    rw [hz] at g0 g1 g2
    rw [made3 _ _ _ _ _ hj]
    rcases (show j % 3 = 0 ∨ j % 3 = 1 ∨ j % 3 = 2 by omega) with e | e | e
    · rw [show j / 3 * 3 = j by omega] at g0; rw [g0, e]; rfl
    · rw [show j / 3 * 3 + 1 = j by omega] at g1; rw [g1, e]; rfl
    · rw [show j / 3 * 3 + 2 = j by omega] at g2; rw [g2, e]; rfl
  · have e1 : (madeCells #[Value.string ⟨#[]⟩, .string ⟨#[]⟩, .int .i64 0] (l.length * 3)).toList[j]? = none := List.getElem?_eq_none (by rw [Array.length_toList, size_madeCells]; omega)
    have e2 : (flsC (fillF l 0))[j]? = none := List.getElem?_eq_none (by rw [flsC_len, fillF_len]; omega)
    rw [e1, e2]

set_option maxRecDepth 100000 in
set_option maxHeartbeats 1000000 in
theorem toFileS_any (v : Value) (l : List Fl) (w : World) (h : Fls w v l) (hs : l.length ≤ 1048576) :
    Calls Tryz.prog 18 #[v] w fun e w' => e = .returned (.slice (some ⟨w.heap.size, 0, none⟩) l.length l.length) ∧ OwnF w.heap.size w' (.slice (some ⟨w.heap.size, 0, none⟩) l.length l.length) l ∧ Below w.heap.size w w' := by
  obtain ⟨i0, hi, hz0, hz1, hz2⟩ := info_parts infoF
  obtain ⟨a, cap, rfl, hn, hm, hc⟩ := h
  have HC := hide hc
  clear hc hm hn
  go_enter Tryz.func18, Tryz.ntmps18
  go_wp2_with (at_make; refine wpList_make_full _ rfl _ _ 26 rfl w.heap.size 68 i0 _ 3 Tryz.underlying26 hi hz0 hz1 .i64 .i64 _ _ l.length rfl rfl rfl rfl (by rw [hz2]; omega) (by unfold maxLen; omega) (Nat.le_refl _) ?_; intro w1 hown1 hg1)
  rw [made_fl] at hown1
  have HZ := hide (And.intro hown1 ((Below.refl w.heap.size w).grown hg1 (Nat.le_refl _) (fun k h => by cases h)))
  clear hown1 hg1
  go_loopw [4] (fun i wr => ∃ k : Nat, k ≤ l.length ∧ i = .int .i64 k ∧ wr.ownsRow w.heap.size 68 3 (.slice (some ⟨w.heap.size, 0, none⟩) l.length l.length) l.length (flsC (fillF l k)) ∧ Below w.heap.size w wr) (fun i _ => l.length - (intOf i).toNat)
  case atStart => exact ⟨0, Nat.zero_le _, rfl, (unhide HZ).1, (unhide HZ).2⟩
  case round =>
    obtain ⟨k, hk, rfl, hL, hbel⟩ := hrel
    by_cases hlt : k < l.length
    · obtain ⟨b, off, rfl, hbl, hsrc⟩ : ∃ b off, a = some ⟨b, off, none⟩ ∧ b < w.heap.size ∧ ∀ i, i < l.length → w.cell? ⟨b, off + i * 3, none⟩ = some (.string (l.getD i default).n) ∧ w.cell? ⟨b, off + i * 3 + 1, none⟩ = some (.string (l.getD i default).d) ∧ w.cell? ⟨b, off + i * 3 + 2, none⟩ = some (.int .i64 (l.getD i default).s) := by
        rcases unhide HC with h0 | h1
        · omega
        · exact h1
      obtain ⟨s0, s1, s2⟩ := hsrc k hlt
      have c0 := (hbel.cell (p := ⟨b, off + k * 3, none⟩) hbl).trans s0
      have c1 := (hbel.cell (p := ⟨b, off + k * 3 + 1, none⟩) hbl).trans s1
      have c2 := (hbel.cell (p := ⟨b, off + k * 3 + 2, none⟩) hbl).trans s2
      have hk0 : (0 : Int) ≤ (k : Int) := by omega
      have hk1 : (k : Int) < (l.length : Int) := by omega
      have hbs := hbel.size
      have HL := hide hL
      have HB := hide hbel
      clear hsrc s0 s1 s2 hL hbel
      obtain ⟨f, hf⟩ : ∃ f, f = l.getD k default := ⟨_, rfl⟩
      rw [← hf] at c0 c1 c2
      have HFe := hide hf
      clear hf
      have HT := hide (fun wx => toFile_any f wx)
      obtain ⟨fn, fd, fs⟩ := f
      dsimp only at c0 c1 c2 HT
      go_wp2_with fail
      refine (unhide HT wr).mono ?_
      rintro e w2 ⟨rfl, hb2⟩
      have hO : w2.ownsRow w.heap.size 68 3 (.slice (some ⟨w.heap.size, 0, none⟩) l.length l.length) l.length (flsC (fillF l k)) := by
        obtain ⟨hl, hc⟩ := unhide HL
        refine ⟨hl, ?_⟩
        rcases hc with h0 | ⟨g, cap, cur, hv, hb, hgg, rest⟩
        · exact .inl h0
        · exact .inr ⟨g, cap, cur, hv, hb, (hb2.block g (Array.getElem?_eq_some_iff.1 hgg).1).trans hgg, rest⟩
      have hB2 := (unhide HB).trans (hb2.mono hbs)
      obtain ⟨d0, d1, d2⟩ := OwnF.cells hO k (by rw [fillF_len]; exact hlt) (fillF_len l k).symm
      have f0 := hO.frozenAt (k * 3)
      have f1 := hO.frozenAt (k * 3 + 1)
      have f2 := hO.frozenAt (k * 3 + 2)
      have q0 := (hO.stored (k * 3) (.string fn)).1
      have q1 := (q0.stored (k * 3 + 1) (.string fd)).1
      have q2 := (q1.stored (k * 3 + 2) (.int .i64 fs)).1
      have hset : (((flsC (fillF l k)).set (k * 3) (.string fn)).set (k * 3 + 1) (.string fd)).set (k * 3 + 2) (.int .i64 fs) = flsC (fillF l (k + 1)) := by
        have h1 := flsC_set (fillF l k) k ⟨fn, fd, fs⟩ (by rw [fillF_len]; exact hlt)
        dsimp only at h1
        rw [h1, ← fillF_set l k hlt, ← unhide HFe]
      rw [hset] at q2
      have R := hide (And.intro q2 (((hB2.setCell (p := ⟨w.heap.size, k * 3, none⟩) (Nat.le_refl _) (.string fn)).setCell (p := ⟨w.heap.size, k * 3 + 1, none⟩) (Nat.le_refl _) (.string fd)).setCell (p := ⟨w.heap.size, k * 3 + 2, none⟩) (Nat.le_refl _) (.int .i64 fs)))
      clear q0 q1 q2 hset hO hB2 hb2 HT HL HB
      go_wp2_with fail
      refine ⟨⟨k + 1, by omega, by go_num, (unhide R).1, (unhide R).2⟩, ?_⟩
      simp [intOf]; omega
    · obtain rfl : k = l.length := by omega
      rw [fillF_all] at hL
      have R := hide (And.intro hL hbel)
      clear hL hbel
      go_wp2_with fail
      go_ret
      exact ⟨rfl, (unhide R).1, (unhide R).2⟩

set_option maxRecDepth 100000 in
set_option maxHeartbeats 1000000 in
theorem toDisk_any (room : Int) (v : Value) (l : List Fl) (w : World) (h : Fls w v l) (hs : l.length ≤ 1048576) :
    Calls Tryz.prog 7 #[.agg #[.int .i64 room, v]] w fun e w' => ∃ g, e = .returned (.agg #[.int .i64 room, .slice (some ⟨g, 0, none⟩) l.length l.length]) ∧ OwnF w.heap.size w' (.slice (some ⟨g, 0, none⟩) l.length l.length) l ∧ Below w.heap.size w w' := by
  have HF := hide h
  obtain ⟨a, cap, rfl, hn, hm, hc⟩ := h
  clear hc hm hn
  go_enter Tryz.func7, Tryz.ntmps7
  go_wp2_with fail
  have B3 := hide ((((Below.refl w.heap.size w).alloc (Nat.le_refl _) (.cells #[.int .i64 room, .slice a l.length cap] 24)).alloc (by simp) (.cells #[.int .i64 0, .slice none 0 0] 28)).alloc (by simp; omega) (.cells #[.int .i64 room, .slice none 0 0] 28))
  have X3 := hide (Blk.new ((w.alloc (.cells #[.int .i64 room, .slice a l.length cap] 24)).alloc (.cells #[.int .i64 0, .slice none 0 0] 28)) #[.int .i64 room, .slice none 0 0] 28 (w.heap.size + 1 + 1) (by simp))
  have Y3 := hide ((Blk.new (w.alloc (.cells #[.int .i64 room, .slice a l.length cap] 24)) #[.int .i64 0, .slice none 0 0] 28 (w.heap.size + 1) (by simp)).alloc (.cells #[.int .i64 room, .slice none 0 0] 28))
  have Z3 : (((w.alloc (.cells #[.int .i64 room, .slice a l.length cap] 24)).alloc (.cells #[.int .i64 0, .slice none 0 0] 28)).alloc (.cells #[.int .i64 room, .slice none 0 0] 28)).heap.size = w.heap.size + 3 := by simp
  generalize ((w.alloc (.cells #[.int .i64 room, .slice a l.length cap] 24)).alloc (.cells #[.int .i64 0, .slice none 0 0] 28)).alloc (.cells #[.int .i64 room, .slice none 0 0] 28) = w3 at *
  refine (toFileS_any _ l w3 ((unhide HF).below (unhide B3)) hs).mono ?_
  rintro e w4 ⟨rfl, hO, hb4⟩
  obtain ⟨v', hv'⟩ : ∃ v', v' = Value.slice (some ⟨w3.heap.size, 0, none⟩) l.length l.length := ⟨_, rfl⟩
  rw [← hv'] at hO
  have X4 := (unhide X3).below hb4
  have c0 := X4.cell 0 rfl
  have c1 := X4.cell 1 rfl
  have f1 := X4.fro 1
  have hlt := hO.lt
  have hz4 := hb4.size
  have HO5 : Hid (OwnF w.heap.size (w4.setCell ⟨w.heap.size + 1 + 1, 1, none⟩ v') v' l) := hide (OwnF.kept (T := fun k => k = w.heap.size + 1 + 1) (World.ownsRow_mono' hO (by omega)) ((Touch.refl _ _).setCell _ _ (fun _ => rfl)) (fun k hk e => by have := (hlt k hk).1; omega))
  have HB5 := hide (((unhide B3).trans (hb4.mono (by omega))).setCell (p := ⟨w.heap.size + 1 + 1, 1, none⟩) (by simp; omega) v')
  have e0 : (w4.setCell ⟨w.heap.size + 1 + 1, 1, none⟩ v').cell? ⟨w.heap.size + 1 + 1, 0, none⟩ = some (.int .i64 room) := (World.cell?_setCell_other _ _ _ _ (by simp)).trans c0
  have e1 : (w4.setCell ⟨w.heap.size + 1 + 1, 1, none⟩ v').cell? ⟨w.heap.size + 1 + 1, 1, none⟩ = some v' := World.cell?_setCell_same _ _ _ c1
  have Y5 := ((unhide Y3).below hb4).other (C := w.heap.size + 1 + 1) 1 v' (by omega)
  have y0 := Y5.cell 0 rfl
  have y1 := Y5.cell 1 rfl
  have h0 := Y5.fro 0
  have h1 := Y5.fro 1
  have Y6 := hide ((Y5.set 0 (.int .i64 room) (by simp)).set 1 v' (by simp))
  have hlt2 := (unhide HO5).lt
  have HO6 : Hid (OwnF w.heap.size (((w4.setCell ⟨w.heap.size + 1 + 1, 1, none⟩ v').setCell ⟨w.heap.size + 1, 0, none⟩ (.int .i64 room)).setCell ⟨w.heap.size + 1, 1, none⟩ v') v' l) := hide (OwnF.kept (T := fun k => k = w.heap.size + 1) (unhide HO5) (((Touch.refl (fun k => k = w.heap.size + 1) _).setCell ⟨w.heap.size + 1, 0, none⟩ _ (fun _ => rfl)).setCell ⟨w.heap.size + 1, 1, none⟩ _ (fun _ => rfl)) (fun k hk e => by have := (hlt k hk).1; omega))
  have HB6 := hide (((unhide HB5).setCell (p := ⟨w.heap.size + 1, 0, none⟩) (by simp) (.int .i64 room)).setCell (p := ⟨w.heap.size + 1, 1, none⟩) (by simp) v')
  clear X4 hO hb4 hlt X3 B3 Y5 Y3 HO5 HB5 Z3 hlt2 hz4
  subst hv'
  generalize w3.heap.size = g at *
  go_wp2_with fail
  have z0 := (unhide Y6).cell 0 rfl
  have z1 := (unhide Y6).cell 1 rfl
  refine bodyPost_ret (v := .agg #[.int .i64 room, .slice (some ⟨g, 0, none⟩) l.length l.length]) (by simp [results, Tryz.results7, go_sem, z0, z1]) rfl ?_
  exact ⟨g, rfl, unhide HO6, unhide HB6⟩

set_option maxRecDepth 100000 in
set_option maxHeartbeats 1000000 in
theorem eqFile_any (f : Fl) (w : World) :
    Calls Tryz.prog 47 #[.agg #[.string f.n, .string f.d, .int .i64 f.s], .agg #[.string f.n, .string f.d, .int .i64 f.s]] w fun e w' => e = .returned (.bool true) ∧ Below w.heap.size w w' := by
  obtain ⟨fn, fd, fs⟩ := f
  dsimp only
  go_enter Tryz.func47, Tryz.ntmps47
  go_wp2_with fail
  go_ret
  exact ⟨rfl, ((Below.refl _ _).alloc (Nat.le_refl _) _).alloc (by simp) _⟩

set_option maxRecDepth 100000 in
set_option maxHeartbeats 1000000 in
theorem eqFileS_any (v v2 : Value) (l : List Fl) (w : World) (h : Fls w v l) (h2 : Fls w v2 l) (hs : l.length ≤ 1048576) :
    Calls Tryz.prog 23 #[v, v2] w fun e w' => e = .returned (.bool true) ∧ Below w.heap.size w w' := by
  obtain ⟨a, cap, rfl, hn, hm, hc⟩ := h
  obtain ⟨a2, cap2, rfl, hn2, hm2, hc2⟩ := h2
  have HC := hide hc
  have HC2 := hide hc2
  clear hc hm hc2 hm2 hn hn2
  go_enter Tryz.func23, Tryz.ntmps23
  go_wp2_with fail
  go_loopw [5] (fun i wr => ∃ k : Nat, k ≤ l.length ∧ i = .int .i64 k ∧ Below w.heap.size w wr) (fun i _ => l.length - (intOf i).toNat)
  case atStart => exact ⟨0, Nat.zero_le _, rfl, Below.refl _ _⟩
  case round =>
    obtain ⟨k, hk, rfl, hb⟩ := hrel
    by_cases hlt : k < l.length
    · obtain ⟨b, off, rfl, hbl, hsrc⟩ : ∃ b off, a = some ⟨b, off, none⟩ ∧ b < w.heap.size ∧ ∀ i, i < l.length → w.cell? ⟨b, off + i * 3, none⟩ = some (.string (l.getD i default).n) ∧ w.cell? ⟨b, off + i * 3 + 1, none⟩ = some (.string (l.getD i default).d) ∧ w.cell? ⟨b, off + i * 3 + 2, none⟩ = some (.int .i64 (l.getD i default).s) := by
        rcases unhide HC with h0 | h1
        · omega
        · exact h1
      obtain ⟨b2, off2, rfl, hbl2, hsrc2⟩ : ∃ b off, a2 = some ⟨b, off, none⟩ ∧ b < w.heap.size ∧ ∀ i, i < l.length → w.cell? ⟨b, off + i * 3, none⟩ = some (.string (l.getD i default).n) ∧ w.cell? ⟨b, off + i * 3 + 1, none⟩ = some (.string (l.getD i default).d) ∧ w.cell? ⟨b, off + i * 3 + 2, none⟩ = some (.int .i64 (l.getD i default).s) := by
        rcases unhide HC2 with h0 | h1
        · omega
        · exact h1
      obtain ⟨s0, s1, s2⟩ := hsrc k hlt
      obtain ⟨t0, t1, t2⟩ := hsrc2 k hlt
      have c0 := (hb.cell (p := ⟨b, off + k * 3, none⟩) hbl).trans s0
      have c1 := (hb.cell (p := ⟨b, off + k * 3 + 1, none⟩) hbl).trans s1
      have c2 := (hb.cell (p := ⟨b, off + k * 3 + 2, none⟩) hbl).trans s2
      have d0 := (hb.cell (p := ⟨b2, off2 + k * 3, none⟩) hbl2).trans t0
      have d1 := (hb.cell (p := ⟨b2, off2 + k * 3 + 1, none⟩) hbl2).trans t1
      have d2 := (hb.cell (p := ⟨b2, off2 + k * 3 + 2, none⟩) hbl2).trans t2
      have hk0 : (0 : Int) ≤ (k : Int) := by omega
      have hk1 : (k : Int) < (l.length : Int) := by omega
      have hbs := hb.size
      have HB := hide hb
      clear hsrc hsrc2 s0 s1 s2 t0 t1 t2 hb
      generalize l.getD k default = f at *
      have HT := hide (fun wx => eqFile_any f wx)
      obtain ⟨fn, fd, fs⟩ := f
      dsimp only at c0 c1 c2 d0 d1 d2 HT
      go_wp2_with fail
      go_region_held3 (fun wx => wx.cell? ⟨b, off + k * 3, none⟩ = some (.string fn) ∧ wx.cell? ⟨b, off + k * 3 + 1, none⟩ = some (.string fd) ∧ wx.cell? ⟨b, off + k * 3 + 2, none⟩ = some (.int .i64 fs) ∧ wx.cell? ⟨b2, off2 + k * 3, none⟩ = some (.string fn) ∧ wx.cell? ⟨b2, off2 + k * 3 + 1, none⟩ = some (.string fd) ∧ wx.cell? ⟨b2, off2 + k * 3 + 2, none⟩ = some (.int .i64 fs))
        (first | go_keep | exact ⟨(hb2.cell (p := ⟨b, off + k * 3, none⟩) (by simp; omega)).trans c0, (hb2.cell (p := ⟨b, off + k * 3 + 1, none⟩) (by simp; omega)).trans c1, (hb2.cell (p := ⟨b, off + k * 3 + 2, none⟩) (by simp; omega)).trans c2, (hb2.cell (p := ⟨b2, off2 + k * 3, none⟩) (by simp; omega)).trans d0, (hb2.cell (p := ⟨b2, off2 + k * 3 + 1, none⟩) (by simp; omega)).trans d1, (hb2.cell (p := ⟨b2, off2 + k * 3 + 2, none⟩) (by simp; omega)).trans d2⟩)
        ((go_at_call 47; refine (unhide HT _).mono ?_; rintro e w2 ⟨rfl, hb2⟩))
      all_goals
        have HBZ := hide ((unhide HB).trans (show Below w.heap.size wr w2 from (below_drewN (Below.refl _ wr) 1).trans (hb2.mono (by simpa using hbs))))
        clear hb2 HB
        go_wp2_with fail
        refine ⟨⟨k + 1, by omega, by go_num, unhide HBZ⟩, ?_⟩
        simp [intOf]; omega
    · have HB := hide hb
      clear hb
      go_wp2_with fail
      go_ret
      exact ⟨rfl, unhide HB⟩

set_option maxRecDepth 100000 in
set_option maxHeartbeats 1000000 in
theorem eqDisk_any (room : Int) (v v2 : Value) (l : List Fl) (w : World) (h : Fls w v l) (h2 : Fls w v2 l) (hs : l.length ≤ 1048576) :
    Calls Tryz.prog 9 #[.agg #[.int .i64 room, v], .agg #[.int .i64 room, v2]] w fun e w' => e = .returned (.bool true) ∧ Below w.heap.size w w' := by
  have HF := hide h
  have HF2 := hide h2
  obtain ⟨a, cap, rfl, hn, hm, hc⟩ := h
  obtain ⟨a2, cap2, rfl, hn2, hm2, hc2⟩ := h2
  clear hc hm hc2 hm2 hn hn2
  have B0 := hide (((Below.refl w.heap.size w).alloc (Nat.le_refl _) (.cells #[.int .i64 room, .slice a l.length cap] 28)).alloc (by simp) (.cells #[.int .i64 room, .slice a2 l.length cap2] 28))
  have X0 := hide ((Blk.new w #[.int .i64 room, .slice a l.length cap] 28 w.heap.size rfl).alloc (.cells #[.int .i64 room, .slice a2 l.length cap2] 28))
  have Y0 := hide (Blk.new (w.alloc (.cells #[.int .i64 room, .slice a l.length cap] 28)) #[.int .i64 room, .slice a2 l.length cap2] 28 (w.heap.size + 1) (by simp))
  go_enter Tryz.func9, Tryz.ntmps9
  go_wp2_with fail
  generalize (w.alloc (.cells #[.int .i64 room, .slice a l.length cap] 28)).alloc (.cells #[.int .i64 room, .slice a2 l.length cap2] 28) = w0 at *
  refine (eqFileS_any _ _ l w0 ((unhide HF).below (unhide B0)) ((unhide HF2).below (unhide B0)) hs).mono ?_
  rintro e w1 ⟨rfl, hb⟩
  have B1 := hide ((unhide B0).trans (hb.mono (unhide B0).size))
  clear hb
  go_wp2_with fail
  go_ret
  exact ⟨rfl, unhide B1⟩
end Go.Proofs.YtfihhkhdigbmiaaGreatDoor
