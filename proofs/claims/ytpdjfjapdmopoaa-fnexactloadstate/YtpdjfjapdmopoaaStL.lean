/- What the laws do with disks: szEntry, szEntryS, szState; toEntry, toEntryS, toState; eqEntry, eqEntryS, eqState. -/
import Derived.Test.YtpdjfjapdmopoaaSta
import Derived.Deep.RegionHeld3
namespace Go.Proofs.Ytpdjfjapdmopoaa
open Go.ChangeShapes Go.WideShapes Go.ChangeAt Go.RowKit
set_option linter.unusedVariables false

/-- Bytes of the data of the first k entries. -/
def ewTo (l : List En) : Nat → Int
  | 0 => 0
  | k + 1 => ewTo l k + ((l.getD k default).d.size : Int)
theorem ew_mono (l : List En) (i j : Nat) (h : i ≤ j) : ewTo l i ≤ ewTo l j := by
  induction j with
  | zero => obtain rfl : i = 0 := by omega
            exact Int.le_refl _
  | succ j ih =>
    by_cases e : i = j + 1
    · subst e; exact Int.le_refl _
    · have := ih (by omega)
      show _ ≤ ewTo l j + _
      omega
/-- What the measure of all of it leaves of L, or -1. -/
def eszR (L : Int) (l : List En) : Int := if (l.length : Int) + ewTo l l.length ≤ L then L - (l.length : Int) - ewTo l l.length else -1
def eszF (f : En) (left : Int) : Int := if left - (f.d.size : Int) < 0 then -1 else left - (f.d.size : Int)

theorem ensC_len (l : List En) : (ensC l).length = l.length * 3 := by
  induction l with
  | nil => rfl
  | cons f r ih => simp only [ensC, List.flatMap_cons, List.length_append, List.length_cons] at ih ⊢; rw [ih]; simp [enC]; omega
theorem ensC_get : ∀ (l : List En) (i : Nat), i < l.length → (ensC l)[i * 3]? = some (.int .i64 (l.getD i default).t) ∧ (ensC l)[i * 3 + 1]? = some (.int .i64 (l.getD i default).k) ∧ (ensC l)[i * 3 + 2]? = some (.string (l.getD i default).d)
  | [], i, h => by simp at h
  | f :: r, 0, h => ⟨rfl, rfl, rfl⟩
  | f :: r, i + 1, h => by
    have ih := ensC_get r i (by simpa using h)
    have e : ensC (f :: r) = .int .i64 f.t :: .int .i64 f.k :: .string f.d :: ensC r := rfl
    rw [e, show (i + 1) * 3 = i * 3 + 1 + 1 + 1 by omega, show i * 3 + 1 + 1 + 1 + 1 = (i * 3 + 1) + 1 + 1 + 1 by omega, show i * 3 + 1 + 1 + 1 + 2 = (i * 3 + 2) + 1 + 1 + 1 by omega]
    simp only [List.getElem?_cons_succ, List.getD_cons_succ]
    exact ih
theorem ensC_set : ∀ (l : List En) (k : Nat) (f : En), k < l.length → (((ensC l).set (k * 3) (.int .i64 f.t)).set (k * 3 + 1) (.int .i64 f.k)).set (k * 3 + 2) (.string f.d) = ensC (l.set k f)
  | [], k, f, h => by simp at h
  | g :: r, 0, f, h => rfl
  | g :: r, k + 1, f, h => by
    have ih := ensC_set r k f (by simpa using h)
    have e : ∀ (g : En) (r : List En), ensC (g :: r) = .int .i64 g.t :: .int .i64 g.k :: .string g.d :: ensC r := fun _ _ => rfl
    rw [List.set_cons_succ, e, e, ← ih, show (k + 1) * 3 = k * 3 + 1 + 1 + 1 by omega, show k * 3 + 1 + 1 + 1 + 1 = (k * 3 + 1) + 1 + 1 + 1 by omega, show k * 3 + 1 + 1 + 1 + 2 = (k * 3 + 2) + 1 + 1 + 1 by omega]
    simp only [List.set_cons_succ]
theorem World.ownsRow_monoE {w : World} {base base' : Nat} {e : TypeId} {size : Nat} {v : Value} {n : Nat} {xs : List Value} (h : w.ownsRow base e size v n xs) (hb : base' ≤ base) : w.ownsRow base' e size v n xs := by
  obtain ⟨hl, hc⟩ := h
  refine ⟨hl, ?_⟩
  rcases hc with h0 | ⟨g, cap, cur, hv, hg, rest⟩
  · exact .inl h0
  · exact .inr ⟨g, cap, cur, hv, by omega, rest⟩
/-- The value is a slice of the call's own, from block B on, that holds these files. -/
def OwnE (B : Nat) (w : World) (v : Value) (l : List En) : Prop := w.ownsRow B 78 3 v l.length (ensC l)
theorem OwnE.cells {B : Nat} {w : World} {g cap n : Nat} {l : List En} (h : w.ownsRow B 78 3 (.slice (some ⟨g, 0, none⟩) n cap) n (ensC l)) (i : Nat) (hi : i < l.length) (hn : n = l.length) :
    w.cell? ⟨g, i * 3, none⟩ = some (.int .i64 (l.getD i default).t) ∧ w.cell? ⟨g, i * 3 + 1, none⟩ = some (.int .i64 (l.getD i default).k) ∧ w.cell? ⟨g, i * 3 + 2, none⟩ = some (.string (l.getD i default).d) := by
  obtain ⟨e0, e1, e2⟩ := ensC_get l i hi
  exact ⟨(h.cellAt _ (by omega)).trans e0, (h.cellAt _ (by omega)).trans e1, (h.cellAt _ (by omega)).trans e2⟩
theorem OwnE.ens {B : Nat} {w : World} {v : Value} {l : List En} (h : OwnE B w v l) : Ens w v l := by
  rcases h.2 with ⟨rfl, h0⟩ | ⟨g, cap, cur, rfl, hb, hg, hn, hm, _⟩
  · obtain rfl := List.eq_nil_of_length_eq_zero h0
    exact ⟨none, 0, rfl, Nat.le_refl _, by unfold maxLen; omega, .inl rfl⟩
  · refine ⟨_, _, rfl, hn, hm, .inr ⟨g, 0, rfl, (Array.getElem?_eq_some_iff.1 hg).1, fun i hi => ?_⟩⟩
    have := OwnE.cells h i hi rfl
    simpa using this
theorem OwnE.kept {T : Nat → Prop} {B : Nat} {w w' : World} {v : Value} {l : List En} (h : OwnE B w v l) (ht : Touch T w w') (hn : ∀ k, v.ownBlock = some k → ¬ T k) : OwnE B w' v l := by
  obtain ⟨hl, hc⟩ := h
  refine ⟨hl, ?_⟩
  rcases hc with h0 | ⟨g, cap, cur, rfl, hb, hgg, rest⟩
  · exact .inl h0
  · exact .inr ⟨g, cap, cur, rfl, hb, (ht.block g (Array.getElem?_eq_some_iff.1 hgg).1 (hn g rfl)).trans hgg, rest⟩
theorem OwnE.below {B : Nat} {w w' : World} {v : Value} {l : List En} (h : OwnE B w v l) (hb : Below w.heap.size w w') : OwnE B w' v l := h.kept (T := fun _ => False) (Touch.ofBelow hb) (fun _ _ h => h)
theorem OwnE.drewN {B : Nat} {w : World} {v : Value} {l : List En} (h : OwnE B w v l) (n : Nat) : OwnE B (w.drewN n) v l := h.kept (T := fun _ => False) ((Touch.refl _ _).drewN n) (fun _ _ h => h)
theorem infoEn : (Try.prog.info? 78).map (fun i => (i.zero, i.size, i.bytes)) = some (some (.agg #[.int .i64 0, .int .i64 0, .string ⟨#[]⟩]), 3, 32) := by kernel_rfl

def zeroEn : En := ⟨0, 0, ⟨#[]⟩⟩
def fillE (l : List En) (k : Nat) : List En := (List.range l.length).map fun j => if j < k then l.getD j default else zeroEn
theorem fillE_len (l : List En) (k : Nat) : (fillE l k).length = l.length := by simp [fillE]
theorem fillE_all (l : List En) : fillE l l.length = l := by
  apply List.ext_getElem?
  intro j
  by_cases hj : j < l.length
  · simp [fillE, hj, List.getD_eq_getElem?_getD]
  · simp [fillE, hj]
theorem fillE_set (l : List En) (k : Nat) (hk : k < l.length) : (fillE l k).set k (l.getD k default) = fillE l (k + 1) := by
  apply List.ext_getElem?
  intro j
  rw [List.getElem?_set]
  simp only [fillE_len]
  by_cases e : k = j
  · subst e
    rw [if_pos rfl, if_pos hk]
    simp [fillE, hk]
  · rw [if_neg e]
    by_cases hj : j < l.length
    · by_cases h1 : j < k
      · simp [fillE, hj, h1, show j < k + 1 by omega]
      · simp [fillE, hj, h1, show ¬ j < k + 1 by omega]
    · simp [fillE, hj]
theorem made3e (a b c : Value) (n j : Nat) (hj : j < n) : (madeCells #[a, b, c] n).toList[j]? = some (if j % 3 = 0 then a else if j % 3 = 1 then b else c) := by
  have h3 : (#[a, b, c] : Array Value).size = 3 := rfl
  unfold madeCells
  rw [h3, Array.getElem?_toList, Array.getElem?_map]
  have hr : (Array.range n)[j]? = some j := by simp [hj]
  rw [hr, Option.map_some]
  rcases (show j % 3 = 0 ∨ j % 3 = 1 ∨ j % 3 = 2 by omega) with e | e | e
  · rw [e]; rfl
  · rw [e]; rfl
  · rw [e]; rfl
theorem made_en (l : List En) : (madeCells (Value.agg #[.int .i64 0, .int .i64 0, .string ⟨#[]⟩]).cells (l.length * 3)).toList = ensC (fillE l 0) := by
  have hcs : (Value.agg #[.int .i64 0, .int .i64 0, .string ⟨#[]⟩]).cells = #[Value.int .i64 0, .int .i64 0, .string ⟨#[]⟩] := rfl
  rw [hcs]
  apply List.ext_getElem?
  intro j
  by_cases hj : j < l.length * 3
  · have hq : j / 3 < (fillE l 0).length := by rw [fillE_len]; omega
    obtain ⟨g0, g1, g2⟩ := ensC_get (fillE l 0) (j / 3) hq
    have hz : (fillE l 0).getD (j / 3) default = zeroEn := by
      rw [fillE_len] at hq
      rw [List.getD_eq_getElem?_getD]
      simp [fillE, hq]
    rw [hz] at g0 g1 g2
    rw [made3e _ _ _ _ _ hj]
    rcases (show j % 3 = 0 ∨ j % 3 = 1 ∨ j % 3 = 2 by omega) with e | e | e
    · rw [show j / 3 * 3 = j by omega] at g0; rw [g0, e]; rfl
    · rw [show j / 3 * 3 + 1 = j by omega] at g1; rw [g1, e]; rfl
    · rw [show j / 3 * 3 + 2 = j by omega] at g2; rw [g2, e]; rfl
  · have e1 : (madeCells #[Value.int .i64 0, .int .i64 0, .string ⟨#[]⟩] (l.length * 3)).toList[j]? = none := List.getElem?_eq_none (by rw [Array.length_toList, size_madeCells]; omega)
    have e2 : (ensC (fillE l 0))[j]? = none := List.getElem?_eq_none (by rw [ensC_len, fillE_len]; omega)
    rw [e1, e2]

set_option maxRecDepth 100000 in
set_option maxHeartbeats 1000000 in
theorem eqEntry_any (f : En) (w : World) :
    Calls Try.prog 42 #[.agg #[.int .i64 f.t, .int .i64 f.k, .string f.d], .agg #[.int .i64 f.t, .int .i64 f.k, .string f.d]] w fun e w' => e = .returned (.bool true) ∧ Below w.heap.size w w' := by
  obtain ⟨ft, fk, fd⟩ := f
  dsimp only
  go_enter Try.func42, Try.ntmps42
  go_wp2_with fail
  go_ret
  exact ⟨rfl, ((Below.refl _ _).alloc (Nat.le_refl _) _).alloc (by simp) _⟩

set_option maxRecDepth 100000 in
set_option maxHeartbeats 1000000 in
theorem eqEntryS_any (v v2 : Value) (l : List En) (w : World) (h : Ens w v l) (h2 : Ens w v2 l) (hs : l.length ≤ 1048576) :
    Calls Try.prog 24 #[v, v2] w fun e w' => e = .returned (.bool true) ∧ Below w.heap.size w w' := by
  obtain ⟨a, cap, rfl, hn, hm, hc⟩ := h
  obtain ⟨a2, cap2, rfl, hn2, hm2, hc2⟩ := h2
  have HC := hide hc
  have HC2 := hide hc2
  clear hc hm hc2 hm2 hn hn2
  go_enter Try.func24, Try.ntmps24
  go_wp2_with fail
  go_loopw [5] (fun i wr => ∃ k : Nat, k ≤ l.length ∧ i = .int .i64 k ∧ Below w.heap.size w wr) (fun i _ => l.length - (intOf i).toNat)
  case atStart => exact ⟨0, Nat.zero_le _, rfl, Below.refl _ _⟩
  case round =>
    obtain ⟨k, hk, rfl, hb⟩ := hrel
    by_cases hlt : k < l.length
    · obtain ⟨b, off, rfl, hbl, hsrc⟩ : ∃ b off, a = some ⟨b, off, none⟩ ∧ b < w.heap.size ∧ ∀ i, i < l.length → w.cell? ⟨b, off + i * 3, none⟩ = some (.int .i64 (l.getD i default).t) ∧ w.cell? ⟨b, off + i * 3 + 1, none⟩ = some (.int .i64 (l.getD i default).k) ∧ w.cell? ⟨b, off + i * 3 + 2, none⟩ = some (.string (l.getD i default).d) := by
        rcases unhide HC with h0 | h1
        · omega
        · exact h1
      obtain ⟨b2, off2, rfl, hbl2, hsrc2⟩ : ∃ b off, a2 = some ⟨b, off, none⟩ ∧ b < w.heap.size ∧ ∀ i, i < l.length → w.cell? ⟨b, off + i * 3, none⟩ = some (.int .i64 (l.getD i default).t) ∧ w.cell? ⟨b, off + i * 3 + 1, none⟩ = some (.int .i64 (l.getD i default).k) ∧ w.cell? ⟨b, off + i * 3 + 2, none⟩ = some (.string (l.getD i default).d) := by
        rcases unhide HC2 with h0 | h1
        · omega
        · exact h1
      obtain ⟨s0, s1, s2⟩ := hsrc k hlt
      obtain ⟨t0, t1, t2⟩ := hsrc2 k hlt
      have c0 := (hb.cell (p := ⟨b, off + k * 3, none⟩) hbl).trans s0
      have c1 := (hb.cell (p := ⟨b, off + k * 3 + 1, none⟩) hbl).trans s1
      have c2 := (hb.cell (p := ⟨b, off + k * 3 + 2, none⟩) hbl).trans s2
      have d0 := (hb.cell (p := ⟨b2, off2 + k * 3, none⟩) hbl2).trans t0
      have d1 := (hb.cell (p := ⟨b2, off2 + k * 3 + 1, none⟩) hbl2).trans t1
      have d2 := (hb.cell (p := ⟨b2, off2 + k * 3 + 2, none⟩) hbl2).trans t2
      have hk0 : (0 : Int) ≤ (k : Int) := by omega
      have hk1 : (k : Int) < (l.length : Int) := by omega
      have hbs := hb.size
      have HB := hide hb
      clear hsrc hsrc2 s0 s1 s2 t0 t1 t2 hb
      generalize l.getD k default = f at *
      have HT := hide (fun wx => eqEntry_any f wx)
      obtain ⟨ft, fk, fd⟩ := f
      dsimp only at c0 c1 c2 d0 d1 d2 HT
      go_wp2_with fail
      go_region_held3 (fun wx => wx.cell? ⟨b, off + k * 3, none⟩ = some (.int .i64 ft) ∧ wx.cell? ⟨b, off + k * 3 + 1, none⟩ = some (.int .i64 fk) ∧ wx.cell? ⟨b, off + k * 3 + 2, none⟩ = some (.string fd) ∧ wx.cell? ⟨b2, off2 + k * 3, none⟩ = some (.int .i64 ft) ∧ wx.cell? ⟨b2, off2 + k * 3 + 1, none⟩ = some (.int .i64 fk) ∧ wx.cell? ⟨b2, off2 + k * 3 + 2, none⟩ = some (.string fd))
        (first | go_keep | exact ⟨(hb2.cell (p := ⟨b, off + k * 3, none⟩) (by simp; omega)).trans c0, (hb2.cell (p := ⟨b, off + k * 3 + 1, none⟩) (by simp; omega)).trans c1, (hb2.cell (p := ⟨b, off + k * 3 + 2, none⟩) (by simp; omega)).trans c2, (hb2.cell (p := ⟨b2, off2 + k * 3, none⟩) (by simp; omega)).trans d0, (hb2.cell (p := ⟨b2, off2 + k * 3 + 1, none⟩) (by simp; omega)).trans d1, (hb2.cell (p := ⟨b2, off2 + k * 3 + 2, none⟩) (by simp; omega)).trans d2⟩)
        ((go_at_call 42; refine (unhide HT _).mono ?_; rintro e w2 ⟨rfl, hb2⟩))
      all_goals
        have HBZ := hide ((unhide HB).trans (show Below w.heap.size wr w2 from (below_drewN (Below.refl _ wr) 1).trans (hb2.mono (by simpa using hbs))))
        clear hb2 HB
        go_wp2_with fail
        refine ⟨⟨k + 1, by omega, by go_num, unhide HBZ⟩, ?_⟩
        simp [intOf]; omega
    · have HB := hide hb
      clear hb
      go_wp2_with fail
      go_ret
      exact ⟨rfl, unhide HB⟩

set_option maxRecDepth 100000 in
set_option maxHeartbeats 1000000 in
theorem eqState_any (tm vo : Int) (v v2 : Value) (l : List En) (w : World) (h : Ens w v l) (h2 : Ens w v2 l) (hs : l.length ≤ 1048576) :
    Calls Try.prog 9 #[.agg #[.int .i64 tm, .int .i64 vo, v], .agg #[.int .i64 tm, .int .i64 vo, v2]] w fun e w' => e = .returned (.bool true) ∧ Below w.heap.size w w' := by
  have HF := hide h
  have HF2 := hide h2
  obtain ⟨a, cap, rfl, hn, hm, hc⟩ := h
  obtain ⟨a2, cap2, rfl, hn2, hm2, hc2⟩ := h2
  clear hc hm hc2 hm2 hn hn2
  have B0 := hide (((Below.refl w.heap.size w).alloc (Nat.le_refl _) (.cells #[.int .i64 tm, .int .i64 vo, .slice a l.length cap] 26)).alloc (by simp) (.cells #[.int .i64 tm, .int .i64 vo, .slice a2 l.length cap2] 26))
  have X0 := hide ((Blk.new w #[.int .i64 tm, .int .i64 vo, .slice a l.length cap] 26 w.heap.size rfl).alloc (.cells #[.int .i64 tm, .int .i64 vo, .slice a2 l.length cap2] 26))
  have Y0 := hide (Blk.new (w.alloc (.cells #[.int .i64 tm, .int .i64 vo, .slice a l.length cap] 26)) #[.int .i64 tm, .int .i64 vo, .slice a2 l.length cap2] 26 (w.heap.size + 1) (by simp))
  go_enter Try.func9, Try.ntmps9
  go_wp2_with fail
  generalize (w.alloc (.cells #[.int .i64 tm, .int .i64 vo, .slice a l.length cap] 26)).alloc (.cells #[.int .i64 tm, .int .i64 vo, .slice a2 l.length cap2] 26) = w0 at *
  refine (eqEntryS_any _ _ l w0 ((unhide HF).below (unhide B0)) ((unhide HF2).below (unhide B0)) hs).mono ?_
  rintro e w1 ⟨rfl, hb⟩
  have B1 := hide ((unhide B0).trans (hb.mono (unhide B0).size))
  clear hb
  go_wp2_with fail
  go_ret
  exact ⟨rfl, unhide B1⟩
end Go.Proofs.Ytpdjfjapdmopoaa
