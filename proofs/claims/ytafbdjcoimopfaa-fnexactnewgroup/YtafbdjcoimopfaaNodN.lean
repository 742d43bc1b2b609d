/- spec.l10New, walked: its first region draws its order: state by state. (Written by py/nodn.py.) -/
import Derived.Test.YtafbdjcoimopfaaNodH
import Derived.Deep.RegionHeld3
namespace Go.Proofs.Ytafbdjcoimopfaa
open Go.ChangeShapes Go.WideShapes Go.ChangeAt Go.RowKit Go.Deep
set_option linter.unusedVariables false
set_option linter.unusedSimpArgs false

theorem nameAt10 {α β γ δ : Type} (f : α → β → γ → δ → Prop) {x x' : α} {y y' : β} {z : γ} {u : δ} (hx : x = x') (hy : y = y') (h : ∀ F, F = f → F x' y' z u) : f x y z u := by subst hx hy; exact h f rfl
/-- The cells of a node that is nothing. -/
def zeroNd : List Value := [.int .i64 0, .int .i64 0, .int .i64 0, .slice none 0 0, .slice none 0 0, .int .i64 0, .slice none 0 0, .slice none 0 0, .slice none 0 0, .int .i64 0, .int .i64 0, .int .i64 0, .bool false]
/-- These values lie in blocks of their own, from LO on. -/
structure Blks (LO : Nat) (w : World) (vs : List Value) : Prop where
  ap : ∀ (i j : Nat) (a b : Value), i ≠ j → vs[i]? = some a → vs[j]? = some b → Apart a b
  lt : ∀ (i : Nat) (a : Value), vs[i]? = some a → ∀ k, a.ownBlock = some k → LO ≤ k ∧ k < w.heap.size
theorem Blks.put {LO : Nat} {w w' : World} {vs : List Value} (h : Blks LO w vs) (i : Nat) (v : Value) (hs : w.heap.size ≤ w'.heap.size) (hl : LO ≤ w.heap.size) (hv : ∀ k, v.ownBlock = some k → (w.heap.size ≤ k ∨ ∃ u, vs[i]? = some u ∧ u.ownBlock = some k) ∧ k < w'.heap.size) : Blks LO w' (vs.set i v) := by
  have look : ∀ j a, (vs.set i v)[j]? = some a → (j = i ∧ a = v) ∨ (j ≠ i ∧ vs[j]? = some a) := fun j a ha => by
    rw [List.getElem?_set] at ha
    by_cases e : i = j
    · rw [if_pos e] at ha
      split at ha
      · simp at ha; exact .inl ⟨e.symm, ha.symm⟩
      · cases ha
    · rw [if_neg e] at ha; exact .inr ⟨fun h => e h.symm, ha⟩
  refine ⟨fun j j' a b hne ha hb k h1 h2 => ?_, fun j a ha k hk => ?_⟩
  · rcases look j a ha with ⟨e1, rfl⟩ | ⟨e1, ha'⟩
    · rcases look j' b hb with ⟨e2, rfl⟩ | ⟨e2, hb'⟩
      · exact hne (e1.trans e2.symm)
      · rcases (hv k h1).1 with hh | ⟨u, hu, hk⟩
        · have := (h.lt j' b hb' k h2).2; omega
        · exact h.ap i j' u b (fun e => e2 e.symm) hu hb' k hk h2
    · rcases look j' b hb with ⟨e2, rfl⟩ | ⟨e2, hb'⟩
      · rcases (hv k h2).1 with hh | ⟨u, hu, hk⟩
        · have := (h.lt j a ha' k h1).2; omega
        · exact h.ap j i a u e1 ha' hu k h1 hk
      · exact h.ap j j' a b hne ha' hb' k h1 h2
  · rcases look j a ha with ⟨e1, rfl⟩ | ⟨e1, ha'⟩
    · refine ⟨?_, (hv k hk).2⟩
      rcases (hv k hk).1 with h' | ⟨u, hu, hk'⟩
      · omega
      · exact (h.lt i u hu k hk').1
    · have := h.lt j a ha' k hk; omega
theorem Blks.app {LO : Nat} {w w' : World} {vs : List Value} (h : Blks LO w vs) (v : Value) (hv : v.ownBlock = none) (hs : w.heap.size ≤ w'.heap.size) : Blks LO w' (vs ++ [v]) := by
  have look : ∀ j a, (vs ++ [v])[j]? = some a → vs[j]? = some a ∨ a = v := fun j a ha => by
    rw [List.getElem?_append] at ha
    split at ha
    · exact .inl ha
    · have := List.mem_of_getElem? ha; simp at this; exact .inr this
  refine ⟨fun j j' a b hne ha hb k h1 h2 => ?_, fun j a ha k hk => ?_⟩
  · rcases look j a ha with ha' | rfl
    · rcases look j' b hb with hb' | rfl
      · exact h.ap j j' a b hne ha' hb' k h1 h2
      · rw [hv] at h2; cases h2
    · rw [hv] at h1; cases h1
  · rcases look j a ha with ha' | rfl
    · have := h.lt j a ha' k hk; omega
    · rw [hv] at hk; cases hk
/-- What the region has made so far: five values in blocks of their own (nil: not yet). -/
structure NSt (w : World) (LO rb : Nat) (wx : World) (v8 v11 v12 v15 vn : Value) (l11 l15 : List Int) : Prop where
  K : Below w.heap.size w wx
  R : Blk wx rb zeroNd
  P : Blks LO wx [v8, v11, v12, v15, vn]
  O8 : OwnE LO wx v8 []
  O11 : OwnI LO wx v11 l11
  O12 : OwnI LO wx v12 []
  O15 : OwnI LO wx v15 l15
  N : ∀ nb, vn = .slice (some ⟨nb, 0, none⟩) 0 0 → Blk wx nb zeroNd
theorem NSt.lo {w : World} {LO rb : Nat} {wx : World} {v8 v11 v12 v15 vn : Value} {l11 l15 : List Int} (h : NSt w LO rb wx v8 v11 v12 v15 vn l11 l15) (hr : rb = w.heap.size) (hl : LO = w.heap.size + 1) : LO ≤ wx.heap.size := by have := h.R.1; omega
theorem NSt.a8 {w : World} {LO rb : Nat} {wx : World} {v11 v12 v15 vn : Value} {l11 l15 : List Int} (h : NSt w LO rb wx (.slice none 0 0) v11 v12 v15 vn l11 l15) (hr : rb = w.heap.size) (hl : LO = w.heap.size + 1) : NSt w LO rb (wx.alloc (.cells #[] 102)) (.slice (some ⟨wx.heap.size, 0, none⟩) 0 0) v11 v12 v15 vn l11 l15 := by
  have hlo := h.lo hr hl
  have TF := (Touch.refl (fun _ => False) wx).alloc (.cells #[] 102)
  have P2 := h.P.put (w' := wx.alloc (.cells #[] 102)) 0 (.slice (some ⟨wx.heap.size, 0, none⟩) 0 0) (by simp) hlo (fun k hk => by simp [Value.ownBlock] at hk; subst hk; exact ⟨.inl (Nat.le_refl _), by simp⟩)
  simp only [List.set_cons_succ, List.set_cons_zero] at P2
  exact ⟨h.K.alloc h.K.size _, h.R.alloc _, P2, (own_noneE wx LO wx.heap.size rfl hlo), h.O11.kept TF (fun _ _ e => e), h.O12.kept TF (fun _ _ e => e), h.O15.kept TF (fun _ _ e => e), fun nb e => (h.N nb e).alloc _⟩
theorem NSt.a9 {w : World} {LO rb : Nat} {wx : World} {v8 v12 v15 vn : Value} {l15 : List Int} (h : NSt w LO rb wx v8 (.slice none 0 0) v12 v15 vn [] l15) (hr : rb = w.heap.size) (hl : LO = w.heap.size + 1) : NSt w LO rb (wx.alloc (.cells #[] 3)) v8 (.slice (some ⟨wx.heap.size, 0, none⟩) 0 0) v12 v15 vn [] l15 := by
  have hlo := h.lo hr hl
  have TF := (Touch.refl (fun _ => False) wx).alloc (.cells #[] 3)
  have P2 := h.P.put (w' := wx.alloc (.cells #[] 3)) 1 (.slice (some ⟨wx.heap.size, 0, none⟩) 0 0) (by simp) hlo (fun k hk => by simp [Value.ownBlock] at hk; subst hk; exact ⟨.inl (Nat.le_refl _), by simp⟩)
  simp only [List.set_cons_succ, List.set_cons_zero] at P2
  exact ⟨h.K.alloc h.K.size _, h.R.alloc _, P2, OwnE.kept h.O8 TF (fun _ _ e => e), (own_noneJ wx LO wx.heap.size rfl hlo), h.O12.kept TF (fun _ _ e => e), h.O15.kept TF (fun _ _ e => e), fun nb e => (h.N nb e).alloc _⟩
theorem NSt.a12 {w : World} {LO rb : Nat} {wx : World} {v8 v11 v15 vn : Value} {l11 l15 : List Int} (h : NSt w LO rb wx v8 v11 (.slice none 0 0) v15 vn l11 l15) (hr : rb = w.heap.size) (hl : LO = w.heap.size + 1) : NSt w LO rb (wx.alloc (.cells #[] 3)) v8 v11 (.slice (some ⟨wx.heap.size, 0, none⟩) 0 0) v15 vn l11 l15 := by
  have hlo := h.lo hr hl
  have TF := (Touch.refl (fun _ => False) wx).alloc (.cells #[] 3)
  have P2 := h.P.put (w' := wx.alloc (.cells #[] 3)) 2 (.slice (some ⟨wx.heap.size, 0, none⟩) 0 0) (by simp) hlo (fun k hk => by simp [Value.ownBlock] at hk; subst hk; exact ⟨.inl (Nat.le_refl _), by simp⟩)
  simp only [List.set_cons_succ, List.set_cons_zero] at P2
  exact ⟨h.K.alloc h.K.size _, h.R.alloc _, P2, OwnE.kept h.O8 TF (fun _ _ e => e), h.O11.kept TF (fun _ _ e => e), (own_noneJ wx LO wx.heap.size rfl hlo), h.O15.kept TF (fun _ _ e => e), fun nb e => (h.N nb e).alloc _⟩
theorem NSt.a15 {w : World} {LO rb : Nat} {wx : World} {v8 v11 v12 vn : Value} {l11 : List Int} (h : NSt w LO rb wx v8 v11 v12 (.slice none 0 0) vn l11 []) (hr : rb = w.heap.size) (hl : LO = w.heap.size + 1) : NSt w LO rb (wx.alloc (.cells #[.int .i64 0, .int .i64 0, .int .i64 0, .int .i64 0, .int .i64 0, .int .i64 0, .int .i64 0] 3)) v8 v11 v12 (.slice (some ⟨wx.heap.size, 0, none⟩) 7 7) vn l11 (List.replicate 7 0) := by
  have hlo := h.lo hr hl
  have TF := (Touch.refl (fun _ => False) wx).alloc (.cells #[.int .i64 0, .int .i64 0, .int .i64 0, .int .i64 0, .int .i64 0, .int .i64 0, .int .i64 0] 3)
  have P2 := h.P.put (w' := wx.alloc (.cells #[.int .i64 0, .int .i64 0, .int .i64 0, .int .i64 0, .int .i64 0, .int .i64 0, .int .i64 0] 3)) 3 (.slice (some ⟨wx.heap.size, 0, none⟩) 7 7) (by simp) hlo (fun k hk => by simp [Value.ownBlock] at hk; subst hk; exact ⟨.inl (Nat.le_refl _), by simp⟩)
  simp only [List.set_cons_succ, List.set_cons_zero] at P2
  exact ⟨h.K.alloc h.K.size _, h.R.alloc _, P2, OwnE.kept h.O8 TF (fun _ _ e => e), h.O11.kept TF (fun _ _ e => e), h.O12.kept TF (fun _ _ e => e), (own_seven wx LO wx.heap.size rfl hlo), fun nb e => (h.N nb e).alloc _⟩
theorem NSt.aal {w : World} {LO rb : Nat} {wx : World} {v8 v11 v12 v15 : Value} {l11 l15 : List Int} (h : NSt w LO rb wx v8 v11 v12 v15 (.slice none 0 0) l11 l15) (hr : rb = w.heap.size) (hl : LO = w.heap.size + 1) : NSt w LO rb (wx.alloc (.cells #[.int .i64 0, .int .i64 0, .int .i64 0, .slice none 0 0, .slice none 0 0, .int .i64 0, .slice none 0 0, .slice none 0 0, .slice none 0 0, .int .i64 0, .int .i64 0, .int .i64 0, .bool false] 42)) v8 v11 v12 v15 (.slice (some ⟨wx.heap.size, 0, none⟩) 0 0) l11 l15 := by
  have hlo := h.lo hr hl
  have TF := (Touch.refl (fun _ => False) wx).alloc (.cells #[.int .i64 0, .int .i64 0, .int .i64 0, .slice none 0 0, .slice none 0 0, .int .i64 0, .slice none 0 0, .slice none 0 0, .slice none 0 0, .int .i64 0, .int .i64 0, .int .i64 0, .bool false] 42)
  have P2 := h.P.put (w' := wx.alloc (.cells #[.int .i64 0, .int .i64 0, .int .i64 0, .slice none 0 0, .slice none 0 0, .int .i64 0, .slice none 0 0, .slice none 0 0, .slice none 0 0, .int .i64 0, .int .i64 0, .int .i64 0, .bool false] 42)) 4 (.slice (some ⟨wx.heap.size, 0, none⟩) 0 0) (by simp) hlo (fun k hk => by simp [Value.ownBlock] at hk; subst hk; exact ⟨.inl (Nat.le_refl _), by simp⟩)
  simp only [List.set_cons_succ, List.set_cons_zero] at P2
  exact ⟨h.K.alloc h.K.size _, h.R.alloc _, P2, OwnE.kept h.O8 TF (fun _ _ e => e), h.O11.kept TF (fun _ _ e => e), h.O12.kept TF (fun _ _ e => e), h.O15.kept TF (fun _ _ e => e), fun nb e => by simp at e; subst e; exact Blk.new wx #[.int .i64 0, .int .i64 0, .int .i64 0, .slice none 0 0, .slice none 0 0, .int .i64 0, .slice none 0 0, .slice none 0 0, .slice none 0 0, .int .i64 0, .int .i64 0, .int .i64 0, .bool false] 42 wx.heap.size rfl⟩
theorem NSt.app {w : World} {LO rb : Nat} {wx wy : World} {v8 v12 v15 vn : Value} {l15 ms : List Int} {g9 : Nat} {a1 : Option Addr} {c1 : Nat} (h : NSt w LO rb wx v8 (.slice (some ⟨g9, 0, none⟩) 0 0) v12 v15 vn [] l15) (hr : rb = w.heap.size) (hl : LO = w.heap.size + 1)
    (hown : wy.ownsRow LO 3 1 (.slice a1 ms.length c1) ms.length ([] ++ ms.map (Value.int .i64))) (hgrow : wx.grownBy wy (Value.ownBlock (.slice (some ⟨g9, 0, none⟩) 0 0))) (hat : (Value.slice a1 ms.length c1).ownBlock = Value.ownBlock (.slice (some ⟨g9, 0, none⟩) 0 0) ∨ (Value.slice a1 ms.length c1).ownBlock = some wx.heap.size) :
    NSt w LO rb wy v8 (.slice a1 ms.length c1) v12 v15 vn ms l15 := by
  have hlo := h.lo hr hl
  have hR0 := h.R.1
  have TT := (Touch.refl (fun q => q = g9) wx).grown hgrow (fun k e _ => by simp [Value.ownBlock] at e; exact e.symm)
  have lt9 := h.O11.lt g9 rfl
  have O11 : OwnI LO wy (.slice a1 ms.length c1) ms := by simpa [OwnI] using hown
  have lt11 := O11.lt
  have P2 := h.P.put (w' := wy) 1 (.slice a1 ms.length c1) TT.size hlo (fun k hk => by
    refine ⟨?_, (lt11 k hk).2⟩
    rcases hat with e | e
    · exact .inr ⟨_, rfl, by rw [← e]; exact hk⟩
    · rw [hk] at e; simp at e; exact .inl (by omega))
  simp only [List.set_cons_succ, List.set_cons_zero] at P2
  refine ⟨h.K.grown hgrow h.K.size (fun k e => by simp [Value.ownBlock] at e; omega), h.R.kept TT (fun e => by omega), P2, OwnE.kept h.O8 TT (fun k hk e => h.P.ap 0 1 _ _ (by omega) rfl rfl k hk (by rw [e]; rfl)), O11, h.O12.kept TT (fun k hk e => h.P.ap 2 1 _ _ (by omega) rfl rfl k hk (by rw [e]; rfl)), h.O15.kept TT (fun k hk e => h.P.ap 3 1 _ _ (by omega) rfl rfl k hk (by rw [e]; rfl)), fun nb e => (h.N nb e).kept TT (fun e2 => ?_)⟩
  subst e
  exact h.P.ap 4 1 _ _ (by omega) rfl rfl nb rfl (by rw [e2]; rfl)
theorem one_rw (w : World) : Rw (w.alloc (.cells #[.int .i64 1] 3)) (.slice (some ⟨w.heap.size, 0, none⟩) 1 1) 1 [.int .i64 1] := by
  refine ⟨_, _, rfl, .inr ⟨_, rfl, fun j u hu => ?_⟩⟩
  have hj := (List.getElem?_eq_some_iff.1 hu).1
  simp at hj
  subst hj
  simp at hu
  subst hu
  exact (Blk.new w #[.int .i64 1] 3 w.heap.size rfl).cell 0 rfl
set_option maxRecDepth 100000 in
set_option maxHeartbeats 40000000 in
theorem l10New_any (id : Int) (hid0 : 0 ≤ id) (hid1 : id ≤ 6) (a : Option Addr) (c : Nat) (ms : List Int) (w : World) (hM : Ints w (.slice a ms.length c) ms) (hl : ms.length ≤ 4096) :
    Calls Try.prog 79 #[.int .i64 id, .slice a ms.length c] w fun e w' => ∃ g8 a1 c1 g12 g15 an cn, e = .returned (.agg #[.int .i64 id, .int .i64 0, .int .i64 (-1), .slice (some ⟨g8, 0, none⟩) 0 0, .slice a1 ms.length c1, .int .i64 0, .slice (some ⟨g12, 0, none⟩) 0 0, .slice an 7 cn, .slice (some ⟨g15, 0, none⟩) 7 7, .int .i64 0, .int .i64 0, .int .i64 (5 + id), .bool true]) ∧ NoO w.heap.size w' (.slice (some ⟨g8, 0, none⟩) 0 0) (.slice a1 ms.length c1) (.slice (some ⟨g12, 0, none⟩) 0 0) (.slice an 7 cn) (.slice (some ⟨g15, 0, none⟩) 7 7) [] ms [] (List.replicate 7 1) (List.replicate 7 0) ∧ Below w.heap.size w w' := by
  obtain ⟨i0, hi, hz0, hz1, hz2⟩ := info_parts info3
  have HMS := hide hM
  have K0 := hide (below_drewN ((Below.refl w.heap.size w).alloc (Nat.le_refl _) (.cells #[.int .i64 0, .int .i64 0, .int .i64 0, .slice none 0 0, .slice none 0 0, .int .i64 0, .slice none 0 0, .slice none 0 0, .slice none 0 0, .int .i64 0, .int .i64 0, .int .i64 0, .bool false] 42)) 1)
  have R0 : Hid (Blk ((w.alloc (.cells #[.int .i64 0, .int .i64 0, .int .i64 0, .slice none 0 0, .slice none 0 0, .int .i64 0, .slice none 0 0, .slice none 0 0, .slice none 0 0, .int .i64 0, .int .i64 0, .int .i64 0, .bool false] 42)).drewN 1) w.heap.size zeroNd) := hide ((Blk.new w #[.int .i64 0, .int .i64 0, .int .i64 0, .slice none 0 0, .slice none 0 0, .int .i64 0, .slice none 0 0, .slice none 0 0, .slice none 0 0, .int .i64 0, .int .i64 0, .int .i64 0, .bool false] 42 w.heap.size rfl).drewN 1)
  clear hM
  have wr5 : IntKind.i64.wrap (5 + id) = 5 + id := by
    simp only [IntKind.wrap, IntKind.bits, IntKind.signed]
    simp
    omega
  have hmk : ∀ w : World, (Instr.makeSlice 34 (.int .i64 7) (.int .i64 7)).run Try.prog w = .ok (.slice (some ⟨w.heap.size, 0, none⟩) 7 7) (w.alloc (.cells #[.int .i64 0, .int .i64 0, .int .i64 0, .int .i64 0, .int .i64 0, .int .i64 0, .int .i64 0] 3)) := fun _ => by kernel_rfl
  go_enter Try.func79, Try.ntmps79
  go_wp2_with fail
  refine wp_region_noPanic ?_
  refine wp_region_held_drew (S := (fun _ => True)) (by kernel_rfl) trivial (fun hHeld => ?_)
  refine wpAnyH_take (i := 0) (oi := _) (v := ?_) rfl (by kernel_rfl) (by kernel_rfl) (by kernel_rfl) (fun _ _ _ h => h) (Or.inl ⟨by rfl, ?_⟩) trivial ?_
  rotate_left 1
  · (intro wq hSw; (try simp only [List.getElem_toArray, List.getElem_cons_succ, List.getElem_cons_zero]); go_simp; try with_reducible rfl)
  (try simp only [Act.put, List.getElem_toArray, List.getElem_cons_succ, List.getElem_cons_zero, List.setIfInBounds_toArray, List.set_cons_zero, List.set_cons_succ])
  refine wpAnyH_take (i := 3) (oi := _) (v := ?_) rfl (by kernel_rfl) (by kernel_rfl) (by kernel_rfl) (fun _ _ _ h => h) (Or.inl ⟨by rfl, ?_⟩) trivial ?_
  rotate_left 1
  · (intro wq hSw; (try simp only [List.getElem_toArray, List.getElem_cons_succ, List.getElem_cons_zero]); go_simp; try with_reducible rfl)
  (try simp only [Act.put, List.getElem_toArray, List.getElem_cons_succ, List.getElem_cons_zero, List.setIfInBounds_toArray, List.set_cons_zero, List.set_cons_succ])
  refine wpAnyH_take (i := 6) (oi := _) (v := ?_) rfl (by kernel_rfl) (by kernel_rfl) (by kernel_rfl) (fun _ _ _ h => h) (Or.inl ⟨by rfl, ?_⟩) trivial ?_
  rotate_left 1
  · (intro wq hSw; (try simp only [List.getElem_toArray, List.getElem_cons_succ, List.getElem_cons_zero]); go_simp; try with_reducible rfl)
  (try simp only [Act.put, List.getElem_toArray, List.getElem_cons_succ, List.getElem_cons_zero, List.setIfInBounds_toArray, List.set_cons_zero, List.set_cons_succ])
  refine wpAnyH_take (i := 7) (oi := _) (v := ?_) rfl (by kernel_rfl) (by kernel_rfl) (by kernel_rfl) (fun _ _ _ h => h) (Or.inl ⟨by rfl, ?_⟩) trivial ?_
  rotate_left 1
  · (intro wq hSw; (try simp only [List.getElem_toArray, List.getElem_cons_succ, List.getElem_cons_zero]); go_simp; try with_reducible rfl)
  (try simp only [Act.put, List.getElem_toArray, List.getElem_cons_succ, List.getElem_cons_zero, List.setIfInBounds_toArray, List.set_cons_zero, List.set_cons_succ])
  refine nameAt10 (f := wpAnyH _ _ _ _ _) (x' := 8) (y' := #[true, false, false, true, false, false, true, true, false, false, false, false]) (by kernel_rfl) (by kernel_rfl) ?_
  intro F hF
  have HF := hide hF
  clear hF hHeld
  change F 8 _ _ ((w.alloc (.cells #[.int .i64 0, .int .i64 0, .int .i64 0, .slice none 0 0, .slice none 0 0, .int .i64 0, .slice none 0 0, .slice none 0 0, .slice none 0 0, .int .i64 0, .int .i64 0, .int .i64 0, .bool false] 42)).drewN 1)
  generalize (w.alloc (.cells #[.int .i64 0, .int .i64 0, .int .i64 0, .slice none 0 0, .slice none 0 0, .int .i64 0, .slice none 0 0, .slice none 0 0, .slice none 0 0, .int .i64 0, .int .i64 0, .int .i64 0, .bool false] 42)).drewN 1 = w0 at *
  obtain ⟨rb, hrbe⟩ : ∃ rb, rb = w.heap.size := ⟨_, rfl⟩
  rw [← hrbe] at R0 ⊢
  obtain ⟨LO, hLO⟩ : ∃ LO, LO = w.heap.size + 1 := ⟨_, rfl⟩
  have HE := hide (And.intro hrbe hLO)
  clear hrbe hLO
  have st12111 : Hid (∀ (wx : World) (g8 : Nat) (g9 : Nat) (a1 : Option Addr) (c1 : Nat) (g12 : Nat) (g15 : Nat) (nb : Nat) (wS : Hid (NSt w LO rb wx (.slice (some ⟨g8, 0, none⟩) 0 0) (.slice a1 ms.length c1) (.slice (some ⟨g12, 0, none⟩) 0 0) (.slice (some ⟨g15, 0, none⟩) 7 7) (.slice (some ⟨nb, 0, none⟩) 0 0) ms (List.replicate 7 0))), F 1 #[true, true, true, true, true, true, true, true, true, true, true, false] ⟨#[.int .i64 id, .slice a ms.length c, undef, undef, .pointer (some ⟨rb, 0, none⟩), .pointer (some ⟨nb, 0, none⟩), undef, .int .i64 id, .slice (some ⟨g8, 0, none⟩) 0 0, .slice (some ⟨g9, 0, none⟩) 0 0, .slice a ms.length c, .slice a1 ms.length c1, .slice (some ⟨g12, 0, none⟩) 0 0, .int .i64 id, .int .i64 (5 + id), .slice (some ⟨g15, 0, none⟩) 7 7, .agg #[.int .i64 id, .int .i64 0, .int .i64 (-1), .slice (some ⟨g8, 0, none⟩) 0 0, .slice a1 ms.length c1, .int .i64 0, .slice (some ⟨g12, 0, none⟩) 0 0, .slice none 0 0, .slice (some ⟨g15, 0, none⟩) 7 7, .int .i64 0, .int .i64 0, .int .i64 (5 + id), .bool true], undef, undef, undef, undef, undef, undef, undef, undef, undef, undef], []⟩ wx) := by
    clear K0 R0
    refine hide ?_
    intro wx g8 g9 a1 c1 g12 g15 nb wS
    rw [unhide HF]
    obtain ⟨wK_, wR_, wP_, wO8_, wO11_, wO12_, wO15_, wN_⟩ := unhide wS
    have wK := hide wK_
    have wR := hide wR_
    have wP := hide wP_
    have wO8 := hide wO8_
    have wO11 := hide wO11_
    have wO12 := hide wO12_
    have wO15 := hide wO15_
    have wN := hide (wN_ nb rfl)
    clear wS wK_ wR_ wP_ wO8_ wO11_ wO12_ wO15_ wN_
    refine wpAnyH_ready (rs := [11]) (by kernel_rfl) (by simp) ?_
    refine AllReadyH.cons (o := _) rfl (fun K hK => ?_) AllReadyH.nil
    have z0 := (unhide wN).cell 0 rfl
    have y0 := (unhide wN).fro 0
    have z1 := (unhide wN).cell 1 rfl
    have y1 := (unhide wN).fro 1
    have z2 := (unhide wN).cell 2 rfl
    have y2 := (unhide wN).fro 2
    have z3 := (unhide wN).cell 3 rfl
    have y3 := (unhide wN).fro 3
    have z4 := (unhide wN).cell 4 rfl
    have y4 := (unhide wN).fro 4
    have z5 := (unhide wN).cell 5 rfl
    have y5 := (unhide wN).fro 5
    have z6 := (unhide wN).cell 6 rfl
    have y6 := (unhide wN).fro 6
    have z7 := (unhide wN).cell 7 rfl
    have y7 := (unhide wN).fro 7
    have z8 := (unhide wN).cell 8 rfl
    have y8 := (unhide wN).fro 8
    have z9 := (unhide wN).cell 9 rfl
    have y9 := (unhide wN).fro 9
    have z10 := (unhide wN).cell 10 rfl
    have y10 := (unhide wN).fro 10
    have z11 := (unhide wN).cell 11 rfl
    have y11 := (unhide wN).fro 11
    have z12 := (unhide wN).cell 12 rfl
    have y12 := (unhide wN).fro 12
    go_simp
    clear z0 y0 z1 y1 z2 y2 z3 y3 z4 y4 z5 y5 z6 y6 z7 y7 z8 y8 z9 y9 z10 y10 z11 y11 z12 y12
    obtain ⟨hrbe, hLO⟩ := unhide HE
    have hnl := (unhide wP).lt 4 _ rfl nb rfl
    have hR0 := (unhide wR).1
    have N2 := ((((((((((((((unhide wN).set 0 (.int .i64 id) (by simp [zeroNd])).set 1 (.int .i64 0) (by simp [zeroNd])).set 2 (.int .i64 (-1)) (by simp [zeroNd])).set 3 (.slice (some ⟨g8, 0, none⟩) 0 0) (by simp [zeroNd])).set 4 (.slice a1 ms.length c1) (by simp [zeroNd])).set 5 (.int .i64 0) (by simp [zeroNd])).set 6 (.slice (some ⟨g12, 0, none⟩) 0 0) (by simp [zeroNd])).set 7 (.slice none 0 0) (by simp [zeroNd])).set 8 (.slice (some ⟨g15, 0, none⟩) 7 7) (by simp [zeroNd])).set 9 (.int .i64 0) (by simp [zeroNd])).set 10 (.int .i64 0) (by simp [zeroNd])).set 11 (.int .i64 (5 + id)) (by simp [zeroNd])).set 12 (.bool true) (by simp [zeroNd]))
    simp only [zeroNd, List.set_cons_succ, List.set_cons_zero] at N2
    have T2 := ((((((((((((((Touch.refl (fun q => q = nb) wx).setCell ⟨nb, 0, none⟩ (.int .i64 id) (fun _ => rfl)).setCell ⟨nb, 1, none⟩ (.int .i64 0) (fun _ => rfl)).setCell ⟨nb, 2, none⟩ (.int .i64 (-1)) (fun _ => rfl)).setCell ⟨nb, 3, none⟩ (.slice (some ⟨g8, 0, none⟩) 0 0) (fun _ => rfl)).setCell ⟨nb, 4, none⟩ (.slice a1 ms.length c1) (fun _ => rfl)).setCell ⟨nb, 5, none⟩ (.int .i64 0) (fun _ => rfl)).setCell ⟨nb, 6, none⟩ (.slice (some ⟨g12, 0, none⟩) 0 0) (fun _ => rfl)).setCell ⟨nb, 7, none⟩ (.slice none 0 0) (fun _ => rfl)).setCell ⟨nb, 8, none⟩ (.slice (some ⟨g15, 0, none⟩) 7 7) (fun _ => rfl)).setCell ⟨nb, 9, none⟩ (.int .i64 0) (fun _ => rfl)).setCell ⟨nb, 10, none⟩ (.int .i64 0) (fun _ => rfl)).setCell ⟨nb, 11, none⟩ (.int .i64 (5 + id)) (fun _ => rfl)).setCell ⟨nb, 12, none⟩ (.bool true) (fun _ => rfl))
    have K2 := hide ((((((((((((((unhide wK).setCell (p := ⟨nb, 0, none⟩) (by simp; omega) (.int .i64 id)).setCell (p := ⟨nb, 1, none⟩) (by simp; omega) (.int .i64 0)).setCell (p := ⟨nb, 2, none⟩) (by simp; omega) (.int .i64 (-1))).setCell (p := ⟨nb, 3, none⟩) (by simp; omega) (.slice (some ⟨g8, 0, none⟩) 0 0)).setCell (p := ⟨nb, 4, none⟩) (by simp; omega) (.slice a1 ms.length c1)).setCell (p := ⟨nb, 5, none⟩) (by simp; omega) (.int .i64 0)).setCell (p := ⟨nb, 6, none⟩) (by simp; omega) (.slice (some ⟨g12, 0, none⟩) 0 0)).setCell (p := ⟨nb, 7, none⟩) (by simp; omega) (.slice none 0 0)).setCell (p := ⟨nb, 8, none⟩) (by simp; omega) (.slice (some ⟨g15, 0, none⟩) 7 7)).setCell (p := ⟨nb, 9, none⟩) (by simp; omega) (.int .i64 0)).setCell (p := ⟨nb, 10, none⟩) (by simp; omega) (.int .i64 0)).setCell (p := ⟨nb, 11, none⟩) (by simp; omega) (.int .i64 (5 + id))).setCell (p := ⟨nb, 12, none⟩) (by simp; omega) (.bool true))
    have R2 := hide ((unhide wR).kept T2 (fun e => by omega))
    have P8 := hide ((unhide wO8).kept T2 (fun k hk e => (unhide wP).ap 0 4 _ _ (by omega) rfl rfl k hk (by rw [e]; rfl)))
    have P11 := hide ((unhide wO11).kept T2 (fun k hk e => (unhide wP).ap 1 4 _ _ (by omega) rfl rfl k hk (by rw [e]; rfl)))
    have P12 := hide ((unhide wO12).kept T2 (fun k hk e => (unhide wP).ap 2 4 _ _ (by omega) rfl rfl k hk (by rw [e]; rfl)))
    have P15 := hide ((unhide wO15).kept T2 (fun k hk e => (unhide wP).ap 3 4 _ _ (by omega) rfl rfl k hk (by rw [e]; rfl)))
    have PP := hide ((unhide wP).app (.slice none 0 0) (by simp [Value.ownBlock]) T2.size)
    have HN2 := hide N2
    clear N2 T2 hnl hR0 hrbe hLO wK wR wP wO8 wO11 wO12 wO15 wN
    refine hK.out _ _ trivial (fun hHeld => ?_)
    clear hK K
    generalize (((((((((((((wx.setCell ⟨nb, 0, none⟩ (.int .i64 id)).setCell ⟨nb, 1, none⟩ (.int .i64 0)).setCell ⟨nb, 2, none⟩ (.int .i64 (-1))).setCell ⟨nb, 3, none⟩ (.slice (some ⟨g8, 0, none⟩) 0 0)).setCell ⟨nb, 4, none⟩ (.slice a1 ms.length c1)).setCell ⟨nb, 5, none⟩ (.int .i64 0)).setCell ⟨nb, 6, none⟩ (.slice (some ⟨g12, 0, none⟩) 0 0)).setCell ⟨nb, 7, none⟩ (.slice none 0 0)).setCell ⟨nb, 8, none⟩ (.slice (some ⟨g15, 0, none⟩) 7 7)).setCell ⟨nb, 9, none⟩ (.int .i64 0)).setCell ⟨nb, 10, none⟩ (.int .i64 0)).setCell ⟨nb, 11, none⟩ (.int .i64 (5 + id))).setCell ⟨nb, 12, none⟩ (.bool true)) = wz at *
    (try simp only [Act.put, List.getElem_toArray, List.getElem_cons_succ, List.getElem_cons_zero, List.setIfInBounds_toArray, List.set_cons_zero, List.set_cons_succ])
    refine wpAnyH_done (by kernel_rfl) (NoPanic.normal ?_) _
    clear hHeld HF
    go_wp2_with fail
    go_loopw [6] (fun i wr => ∃ (k : Nat) (v : Value), k ≤ 7 ∧ i = .int .i64 k ∧ OwnI LO wr v (List.replicate k 1) ∧ Blk wr nb [.int .i64 id, .int .i64 0, .int .i64 (-1), .slice (some ⟨g8, 0, none⟩) 0 0, .slice a1 ms.length c1, .int .i64 0, .slice (some ⟨g12, 0, none⟩) 0 0, v, .slice (some ⟨g15, 0, none⟩) 7 7, .int .i64 0, .int .i64 0, .int .i64 (5 + id), .bool true] ∧ Blks LO wr [.slice (some ⟨g8, 0, none⟩) 0 0, .slice a1 ms.length c1, .slice (some ⟨g12, 0, none⟩) 0 0, .slice (some ⟨g15, 0, none⟩) 7 7, .slice (some ⟨nb, 0, none⟩) 0 0, v] ∧ OwnE LO wr (.slice (some ⟨g8, 0, none⟩) 0 0) [] ∧ OwnI LO wr (.slice a1 ms.length c1) ms ∧ OwnI LO wr (.slice (some ⟨g12, 0, none⟩) 0 0) [] ∧ OwnI LO wr (.slice (some ⟨g15, 0, none⟩) 7 7) (List.replicate 7 0) ∧ Blk wr rb zeroNd ∧ Below w.heap.size w wr) (fun i _ => 7 - (intOf i).toNat)
    case atStart => exact ⟨0, .slice none 0 0, Nat.zero_le _, rfl, ⟨rfl, .inl ⟨rfl, rfl⟩⟩, unhide HN2, unhide PP, unhide P8, unhide P11, unhide P12, unhide P15, unhide R2, unhide K2⟩
    case round =>
      obtain ⟨k, v, hk, rfl, hO, hN, hP, h8, h11, h12, h15, hR, hB⟩ := hrel
      clear HN2 PP P8 P11 P12 P15 R2 K2
      have hlo : LO ≤ wr.heap.size := by have := hR.1; have := unhide HE; omega
      by_cases hlt : k < 7
      · have n7 := hN.cell 7 rfl
        have OB := (Touch.refl (fun _ => False) wr).alloc (.cells #[.int .i64 1] 3)
        have hO1 := hide (hO.kept OB (fun _ _ e => e))
        have HR1 := hide (one_rw wr)
        have hsh := hO.shape
        have HH := hide (And.intro hN (And.intro hP (And.intro h8 (And.intro h11 (And.intro h12 (And.intro h15 (And.intro hR hB)))))))
        have HO := hide hO
        clear hN hP h8 h11 h12 h15 hR hB hO OB
        have hsh2 : ∃ av cv, v = .slice av k cv := by
          rcases hsh with ⟨rfl, h0⟩ | ⟨g, cap, rfl⟩
          · have : k = 0 := by have := congrArg List.length h0; simpa using this
            subst this; exact ⟨none, 0, rfl⟩
          · exact ⟨some ⟨g, 0, none⟩, cap, by rw [List.length_replicate]⟩
        obtain ⟨av, cv, rfl⟩ := hsh2
        clear hsh
        have hO2 : Hid ((wr.alloc (.cells #[.int .i64 1] 3)).ownsRow LO 3 1 (.slice av k cv) k ((List.replicate k (1 : Int)).map (Value.int .i64))) := hide (by have := unhide hO1; simpa [OwnI] using this)
        clear hO1
        go_wp2_with (at_builtin; refine wpList_append_row _ rfl _ _ _ rfl LO 3 i0 _ 1 8 Try.underlying34 hi hz0 hz1 hz2 rfl (by omega) (.slice av k cv) k ((List.replicate k (1 : Int)).map (Value.int .i64)) rfl (unhide hO2) (.slice (some ⟨wr.heap.size, 0, none⟩) 1 1) 1 [.int .i64 1] rfl (unhide HR1) (by simp) (by intro u hu; simp at hu; subst hu; rfl) (by unfold maxLen; omega) (by omega) (by simp; omega) ?_; intro ax cx w1 hown1 hgrow1 hat1; obtain ⟨hN, hP, h8, h11, h12, h15, hR, hB⟩ := unhide HH; have TT := ((Touch.refl (fun q => (Value.slice av k cv).ownBlock = some q) wr).alloc (.cells #[.int .i64 1] 3)).grown hgrow1 (fun q e _ => e); have N1 := hN.kept TT (fun e => hP.ap 5 4 _ _ (by omega) rfl rfl nb e rfl); have m7 := N1.cell 7 rfl; have f7 := N1.fro 7; have HX := hide (And.intro hown1 (And.intro hat1 (And.intro TT (And.intro N1 hgrow1)))); clear hown1 hgrow1 hat1 TT N1 hN hP h8 h11 h12 h15 hR hB)
        obtain ⟨hN, hP, h8, h11, h12, h15, hR, hB⟩ := unhide HH
        obtain ⟨hown1, hat1, TT, N1, hgrow1⟩ := unhide HX
        obtain ⟨hrbe, hLO⟩ := unhide HE
        have ltv := (unhide HO).lt
        have hnb := hN.1
        have hOn : OwnI LO w1 (.slice ax (k + 1) cx) (List.replicate (k + 1) 1) := by
          have e : (List.replicate (k + 1) (1 : Int)).map (Value.int .i64) = (List.replicate k (1 : Int)).map (Value.int .i64) ++ [Value.int .i64 1] := by rw [List.replicate_succ']; simp
          unfold OwnI
          rw [e, List.length_replicate]
          exact hown1
        have ltn := hOn.lt
        have hnn : ∀ q, (Value.slice ax (k + 1) cx).ownBlock = some q → q ≠ nb := fun q hq e => by
          rcases hat1 with h | h
          · exact hP.ap 5 4 _ _ (by omega) rfl rfl q (by rw [← h]; exact hq) (by rw [e]; rfl)
          · rw [hq] at h; simp at h; omega
        have T2 := (Touch.refl (fun q => q = nb) w1).setCell ⟨nb, 7, none⟩ (.slice ax (k + 1) cx) (fun _ => rfl)
        have ap : ∀ (i : Nat) (u : Value), i < 5 → [.slice (some ⟨g8, 0, none⟩) 0 0, .slice a1 ms.length c1, .slice (some ⟨g12, 0, none⟩) 0 0, .slice (some ⟨g15, 0, none⟩) 7 7, .slice (some ⟨nb, 0, none⟩) 0 0, Value.slice av k cv][i]? = some u → ∀ q, u.ownBlock = some q → ¬ (Value.slice av k cv).ownBlock = some q := fun i u hi5 hu q h1 h2 => hP.ap i 5 u _ (by omega) hu rfl q h1 h2
        have an_ : ∀ (i : Nat) (u : Value), i < 4 → [.slice (some ⟨g8, 0, none⟩) 0 0, .slice a1 ms.length c1, .slice (some ⟨g12, 0, none⟩) 0 0, .slice (some ⟨g15, 0, none⟩) 7 7, .slice (some ⟨nb, 0, none⟩) 0 0, Value.slice av k cv][i]? = some u → ∀ q, u.ownBlock = some q → ¬ q = nb := fun i u hi5 hu q h1 h2 => hP.ap i 4 u _ (by omega) hu rfl q h1 (by rw [h2]; rfl)
        have N2 := N1.set 7 (.slice ax (k + 1) cx) (by simp)
        simp only [List.set_cons_succ, List.set_cons_zero] at N2
        have P2 := hP.put (w' := w1.setCell ⟨nb, 7, none⟩ (.slice ax (k + 1) cx)) 5 (.slice ax (k + 1) cx) (by simpa using TT.size) hlo (fun q hq => by
          refine ⟨?_, by simpa using (ltn q hq).2⟩
          rcases hat1 with h | h
          · exact .inr ⟨_, rfl, by rw [← h]; exact hq⟩
          · rw [hq] at h; simp at h; exact .inl (by omega))
        simp only [List.set_cons_succ, List.set_cons_zero] at P2
        have hbz := hB.size
        have hlN := (hP.lt 4 _ rfl nb rfl).1
        have RR := hide (And.intro (hOn.kept T2 (fun q hq e => hnn q hq e)) (And.intro N2 (And.intro P2 (And.intro (OwnE.kept (OwnE.kept h8 TT (ap 0 _ (by omega) rfl)) T2 (an_ 0 _ (by omega) rfl)) (And.intro ((h11.kept TT (ap 1 _ (by omega) rfl)).kept T2 (an_ 1 _ (by omega) rfl)) (And.intro ((h12.kept TT (ap 2 _ (by omega) rfl)).kept T2 (an_ 2 _ (by omega) rfl)) (And.intro ((h15.kept TT (ap 3 _ (by omega) rfl)).kept T2 (an_ 3 _ (by omega) rfl)) (And.intro ((hR.kept TT (fun e => by have := (ltv rb e).1; omega)).kept T2 (fun e => by omega)) (((hB.alloc hB.size (.cells #[.int .i64 1] 3)).grown hgrow1 (by simp; omega) (fun q e => by have := (ltv q e).1; omega)).setCell (p := ⟨nb, 7, none⟩) (by simp; omega) (.slice ax (k + 1) cx))))))))))
        clear hN hP h8 h11 h12 h15 hR hB hown1 hat1 TT N1 hgrow1 ltv hnb hOn ltn hnn T2 ap an_ N2 P2 m7 f7 n7 hbz hlN
        obtain ⟨r1, r2, r3, r4, r5, r6, r7, r8, r9⟩ := unhide RR
        refine ⟨⟨k + 1, _, by omega, by go_num, r1, r2, r3, r4, r5, r6, r7, r8, r9⟩, ?_⟩
        simp [intOf]; omega
      · obtain rfl : k = 7 := by omega
        have hsh2 : ∃ an cn, v = .slice an 7 cn := by
          rcases hO.shape with ⟨rfl, h0⟩ | ⟨g, cap, rfl⟩
          · simp at h0
          · exact ⟨some ⟨g, 0, none⟩, cap, rfl⟩
        obtain ⟨an, cn, rfl⟩ := hsh2
        have hlR := (hP.lt 4 _ rfl nb rfl).1
        obtain ⟨hrbe, hLO⟩ := unhide HE
        have x0 := hN.cell 0 rfl
        have r0_ := hR.cell 0 rfl
        have fr0 := hR.fro 0
        have x1 := hN.cell 1 rfl
        have r1_ := hR.cell 1 rfl
        have fr1 := hR.fro 1
        have x2 := hN.cell 2 rfl
        have r2_ := hR.cell 2 rfl
        have fr2 := hR.fro 2
        have x3 := hN.cell 3 rfl
        have r3_ := hR.cell 3 rfl
        have fr3 := hR.fro 3
        have x4 := hN.cell 4 rfl
        have r4_ := hR.cell 4 rfl
        have fr4 := hR.fro 4
        have x5 := hN.cell 5 rfl
        have r5_ := hR.cell 5 rfl
        have fr5 := hR.fro 5
        have x6 := hN.cell 6 rfl
        have r6_ := hR.cell 6 rfl
        have fr6 := hR.fro 6
        have x7 := hN.cell 7 rfl
        have r7_ := hR.cell 7 rfl
        have fr7 := hR.fro 7
        have x8 := hN.cell 8 rfl
        have r8_ := hR.cell 8 rfl
        have fr8 := hR.fro 8
        have x9 := hN.cell 9 rfl
        have r9_ := hR.cell 9 rfl
        have fr9 := hR.fro 9
        have x10 := hN.cell 10 rfl
        have r10_ := hR.cell 10 rfl
        have fr10 := hR.fro 10
        have x11 := hN.cell 11 rfl
        have r11_ := hR.cell 11 rfl
        have fr11 := hR.fro 11
        have x12 := hN.cell 12 rfl
        have r12_ := hR.cell 12 rfl
        have fr12 := hR.fro 12
        have R9 := (((((((((((((hR.set 0 (.int .i64 id) (by simp [zeroNd])).set 1 (.int .i64 0) (by simp [zeroNd])).set 2 (.int .i64 (-1)) (by simp [zeroNd])).set 3 (.slice (some ⟨g8, 0, none⟩) 0 0) (by simp [zeroNd])).set 4 (.slice a1 ms.length c1) (by simp [zeroNd])).set 5 (.int .i64 0) (by simp [zeroNd])).set 6 (.slice (some ⟨g12, 0, none⟩) 0 0) (by simp [zeroNd])).set 7 (.slice an 7 cn) (by simp [zeroNd])).set 8 (.slice (some ⟨g15, 0, none⟩) 7 7) (by simp [zeroNd])).set 9 (.int .i64 0) (by simp [zeroNd])).set 10 (.int .i64 0) (by simp [zeroNd])).set 11 (.int .i64 (5 + id)) (by simp [zeroNd])).set 12 (.bool true) (by simp [zeroNd]))
        have B9 := hide (((((((((((((hB.setCell (p := ⟨rb, 0, none⟩) (by simp; omega) (.int .i64 id)).setCell (p := ⟨rb, 1, none⟩) (by simp; omega) (.int .i64 0)).setCell (p := ⟨rb, 2, none⟩) (by simp; omega) (.int .i64 (-1))).setCell (p := ⟨rb, 3, none⟩) (by simp; omega) (.slice (some ⟨g8, 0, none⟩) 0 0)).setCell (p := ⟨rb, 4, none⟩) (by simp; omega) (.slice a1 ms.length c1)).setCell (p := ⟨rb, 5, none⟩) (by simp; omega) (.int .i64 0)).setCell (p := ⟨rb, 6, none⟩) (by simp; omega) (.slice (some ⟨g12, 0, none⟩) 0 0)).setCell (p := ⟨rb, 7, none⟩) (by simp; omega) (.slice an 7 cn)).setCell (p := ⟨rb, 8, none⟩) (by simp; omega) (.slice (some ⟨g15, 0, none⟩) 7 7)).setCell (p := ⟨rb, 9, none⟩) (by simp; omega) (.int .i64 0)).setCell (p := ⟨rb, 10, none⟩) (by simp; omega) (.int .i64 0)).setCell (p := ⟨rb, 11, none⟩) (by simp; omega) (.int .i64 (5 + id))).setCell (p := ⟨rb, 12, none⟩) (by simp; omega) (.bool true))
        have T9 := ((((((((((((((Touch.refl (fun q => q = rb) wr).setCell ⟨rb, 0, none⟩ (.int .i64 id) (fun _ => rfl)).setCell ⟨rb, 1, none⟩ (.int .i64 0) (fun _ => rfl)).setCell ⟨rb, 2, none⟩ (.int .i64 (-1)) (fun _ => rfl)).setCell ⟨rb, 3, none⟩ (.slice (some ⟨g8, 0, none⟩) 0 0) (fun _ => rfl)).setCell ⟨rb, 4, none⟩ (.slice a1 ms.length c1) (fun _ => rfl)).setCell ⟨rb, 5, none⟩ (.int .i64 0) (fun _ => rfl)).setCell ⟨rb, 6, none⟩ (.slice (some ⟨g12, 0, none⟩) 0 0) (fun _ => rfl)).setCell ⟨rb, 7, none⟩ (.slice an 7 cn) (fun _ => rfl)).setCell ⟨rb, 8, none⟩ (.slice (some ⟨g15, 0, none⟩) 7 7) (fun _ => rfl)).setCell ⟨rb, 9, none⟩ (.int .i64 0) (fun _ => rfl)).setCell ⟨rb, 10, none⟩ (.int .i64 0) (fun _ => rfl)).setCell ⟨rb, 11, none⟩ (.int .i64 (5 + id)) (fun _ => rfl)).setCell ⟨rb, 12, none⟩ (.bool true) (fun _ => rfl))
        have z0 := R9.cell 0 rfl
        have z1 := R9.cell 1 rfl
        have z2 := R9.cell 2 rfl
        have z3 := R9.cell 3 rfl
        have z4 := R9.cell 4 rfl
        have z5 := R9.cell 5 rfl
        have z6 := R9.cell 6 rfl
        have z7 := R9.cell 7 rfl
        have z8 := R9.cell 8 rfl
        have z9 := R9.cell 9 rfl
        have z10 := R9.cell 10 rfl
        have z11 := R9.cell 11 rfl
        have z12 := R9.cell 12 rfl
        have lo : ∀ (u : Value) (i : Nat), [.slice (some ⟨g8, 0, none⟩) 0 0, .slice a1 ms.length c1, .slice (some ⟨g12, 0, none⟩) 0 0, .slice (some ⟨g15, 0, none⟩) 7 7, .slice (some ⟨nb, 0, none⟩) 0 0, Value.slice an 7 cn][i]? = some u → ∀ q, u.ownBlock = some q → ¬ q = rb := fun u i hu q hq e => by have := (hP.lt i u hu q hq).1; omega
        have hwl : w.heap.size ≤ LO := by omega
        have FF := hide (show NoO w.heap.size _ (.slice (some ⟨g8, 0, none⟩) 0 0) (.slice a1 ms.length c1) (.slice (some ⟨g12, 0, none⟩) 0 0) (.slice an 7 cn) (.slice (some ⟨g15, 0, none⟩) 7 7) [] ms [] (List.replicate 7 1) (List.replicate 7 0) from
          ⟨World.ownsRow_monoE (OwnE.kept h8 T9 (lo _ 0 rfl)) hwl, (h11.kept T9 (lo _ 1 rfl)).mono hwl, (h12.kept T9 (lo _ 2 rfl)).mono hwl, (hO.kept T9 (lo _ 5 rfl)).mono hwl, (h15.kept T9 (lo _ 3 rfl)).mono hwl, by
            simp only [List.pairwise_cons, List.mem_cons, List.not_mem_nil, or_false, forall_eq_or_imp, forall_eq, List.Pairwise.nil, and_true, false_implies, implies_true]
            exact ⟨⟨hP.ap 0 1 _ _ (by omega) rfl rfl, hP.ap 0 2 _ _ (by omega) rfl rfl, hP.ap 0 5 _ _ (by omega) rfl rfl, hP.ap 0 3 _ _ (by omega) rfl rfl⟩, ⟨hP.ap 1 2 _ _ (by omega) rfl rfl, hP.ap 1 5 _ _ (by omega) rfl rfl, hP.ap 1 3 _ _ (by omega) rfl rfl⟩, ⟨hP.ap 2 5 _ _ (by omega) rfl rfl, hP.ap 2 3 _ _ (by omega) rfl rfl⟩, hP.ap 5 3 _ _ (by omega) rfl rfl⟩⟩)
        clear R9 T9 hN hP h8 h11 h12 h15 hR hB hO lo hlR hwl hrbe hLO
        go_wp2_with fail
        refine bodyPost_ret (v := .agg #[.int .i64 id, .int .i64 0, .int .i64 (-1), .slice (some ⟨g8, 0, none⟩) 0 0, .slice a1 ms.length c1, .int .i64 0, .slice (some ⟨g12, 0, none⟩) 0 0, .slice an 7 cn, .slice (some ⟨g15, 0, none⟩) 7 7, .int .i64 0, .int .i64 0, .int .i64 (5 + id), .bool true]) (by simp [results, Try.results79, go_sem, z0, z1, z2, z3, z4, z5, z6, z7, z8, z9, z10, z11, z12]) rfl ?_
        exact ⟨g8, a1, c1, g12, g15, an, cn, rfl, unhide FF, unhide B9⟩
  have st02111 : Hid (∀ (wx : World) (g9 : Nat) (a1 : Option Addr) (c1 : Nat) (g12 : Nat) (g15 : Nat) (nb : Nat) (wS : Hid (NSt w LO rb wx (.slice none 0 0) (.slice a1 ms.length c1) (.slice (some ⟨g12, 0, none⟩) 0 0) (.slice (some ⟨g15, 0, none⟩) 7 7) (.slice (some ⟨nb, 0, none⟩) 0 0) ms (List.replicate 7 0))), F 3 #[true, false, true, true, true, true, true, true, true, false, true, false] ⟨#[.int .i64 id, .slice a ms.length c, undef, undef, .pointer (some ⟨rb, 0, none⟩), .pointer (some ⟨nb, 0, none⟩), undef, .int .i64 id, undef, .slice (some ⟨g9, 0, none⟩) 0 0, .slice a ms.length c, .slice a1 ms.length c1, .slice (some ⟨g12, 0, none⟩) 0 0, .int .i64 id, .int .i64 (5 + id), .slice (some ⟨g15, 0, none⟩) 7 7, undef, undef, undef, undef, undef, undef, undef, undef, undef, undef, undef], []⟩ wx) := by
    clear K0 R0
    refine hide ?_
    intro wx g9 a1 c1 g12 g15 nb wS
    rw [unhide HF]
    refine wpAnyH_ready (rs := [1]) (by kernel_rfl) (by simp) ?_
    refine AllReadyH.cons (o := _) rfl (fun K hK => ?_) AllReadyH.nil
    · have s2 := (unhide wS).a8 (unhide HE).1 (unhide HE).2
      clear wS
      go_simp
      refine hK.out _ _ trivial (fun hHeld => ?_)
      clear hK K
      (try simp only [Act.put, List.getElem_toArray, List.getElem_cons_succ, List.getElem_cons_zero, List.setIfInBounds_toArray, List.set_cons_zero, List.set_cons_succ])
      generalize wx.alloc (.cells #[] 102) = wy at *
      generalize wx.heap.size = g8 at *
      refine wpAnyH_take (i := 9) (oi := _) (v := ?_) rfl (by kernel_rfl) (by kernel_rfl) (by kernel_rfl) (fun _ _ _ h => h) (Or.inl ⟨by rfl, ?_⟩) trivial ?_
      rotate_left 1
      · (intro wq hSw; (try simp only [List.getElem_toArray, List.getElem_cons_succ, List.getElem_cons_zero]); go_simp; try with_reducible rfl)
      (try simp only [Act.put, List.getElem_toArray, List.getElem_cons_succ, List.getElem_cons_zero, List.setIfInBounds_toArray, List.set_cons_zero, List.set_cons_succ])
      have fin := unhide st12111 _ g8 g9 a1 c1 g12 g15 nb (hide s2)
      rw [unhide HF] at fin
      exact fin
  have st11111 : Hid (∀ (wx : World) (g8 : Nat) (g9 : Nat) (g12 : Nat) (g15 : Nat) (nb : Nat) (wS : Hid (NSt w LO rb wx (.slice (some ⟨g8, 0, none⟩) 0 0) (.slice (some ⟨g9, 0, none⟩) 0 0) (.slice (some ⟨g12, 0, none⟩) 0 0) (.slice (some ⟨g15, 0, none⟩) 7 7) (.slice (some ⟨nb, 0, none⟩) 0 0) [] (List.replicate 7 0))), F 3 #[true, true, true, true, false, true, true, true, true, false, true, false] ⟨#[.int .i64 id, .slice a ms.length c, undef, undef, .pointer (some ⟨rb, 0, none⟩), .pointer (some ⟨nb, 0, none⟩), undef, .int .i64 id, .slice (some ⟨g8, 0, none⟩) 0 0, .slice (some ⟨g9, 0, none⟩) 0 0, .slice a ms.length c, undef, .slice (some ⟨g12, 0, none⟩) 0 0, .int .i64 id, .int .i64 (5 + id), .slice (some ⟨g15, 0, none⟩) 7 7, undef, undef, undef, undef, undef, undef, undef, undef, undef, undef, undef], []⟩ wx) := by
    clear st02111
    clear K0 R0
    refine hide ?_
    intro wx g8 g9 g12 g15 nb wS
    rw [unhide HF]
    refine wpAnyH_ready (rs := [4]) (by kernel_rfl) (by simp) ?_
    refine AllReadyH.cons (o := _) rfl (fun K hK => ?_) AllReadyH.nil
    · have hR := ((unhide HMS).below (unhide wS).K).rw
      refine step_append_row rfl _ _ _ rfl LO 3 i0 _ 1 8 Try.underlying34 hi hz0 hz1 hz2 rfl (by omega) (.slice (some ⟨g9, 0, none⟩) 0 0) 0 [] rfl (unhide wS).O11 (.slice a ms.length c) ms.length (ms.map (Value.int .i64)) rfl hR (by simp) (by intro u hu; simp only [List.mem_map] at hu; obtain ⟨s, _, rfl⟩ := hu; rfl) (by unfold maxLen; omega) (by omega) ((unhide wS).lo (unhide HE).1 (unhide HE).2) ?_
      intro a1 c1 wy hown1 hgrow1 hat1
      rw [Nat.zero_add] at hown1 hat1 ⊢
      have s2 := (unhide wS).app (unhide HE).1 (unhide HE).2 hown1 hgrow1 hat1
      clear hown1 hgrow1 hat1 hR wS
      refine hK.out _ _ trivial (fun hHeld => ?_)
      clear hK K
      (try simp only [Act.put, List.getElem_toArray, List.getElem_cons_succ, List.getElem_cons_zero, List.setIfInBounds_toArray, List.set_cons_zero, List.set_cons_succ])
      refine wpAnyH_take (i := 9) (oi := _) (v := ?_) rfl (by kernel_rfl) (by kernel_rfl) (by kernel_rfl) (fun _ _ _ h => h) (Or.inl ⟨by rfl, ?_⟩) trivial ?_
      rotate_left 1
      · (intro wq hSw; (try simp only [List.getElem_toArray, List.getElem_cons_succ, List.getElem_cons_zero]); go_simp; try with_reducible rfl)
      (try simp only [Act.put, List.getElem_toArray, List.getElem_cons_succ, List.getElem_cons_zero, List.setIfInBounds_toArray, List.set_cons_zero, List.set_cons_succ])
      have fin := unhide st12111 _ g8 g9 a1 c1 g12 g15 nb (hide s2)
      rw [unhide HF] at fin
      exact fin
  have st12011 : Hid (∀ (wx : World) (g8 : Nat) (g9 : Nat) (a1 : Option Addr) (c1 : Nat) (g15 : Nat) (nb : Nat) (wS : Hid (NSt w LO rb wx (.slice (some ⟨g8, 0, none⟩) 0 0) (.slice a1 ms.length c1) (.slice none 0 0) (.slice (some ⟨g15, 0, none⟩) 7 7) (.slice (some ⟨nb, 0, none⟩) 0 0) ms (List.replicate 7 0))), F 3 #[true, true, true, true, true, false, true, true, true, false, true, false] ⟨#[.int .i64 id, .slice a ms.length c, undef, undef, .pointer (some ⟨rb, 0, none⟩), .pointer (some ⟨nb, 0, none⟩), undef, .int .i64 id, .slice (some ⟨g8, 0, none⟩) 0 0, .slice (some ⟨g9, 0, none⟩) 0 0, .slice a ms.length c, .slice a1 ms.length c1, undef, .int .i64 id, .int .i64 (5 + id), .slice (some ⟨g15, 0, none⟩) 7 7, undef, undef, undef, undef, undef, undef, undef, undef, undef, undef, undef], []⟩ wx) := by
    clear st02111 st11111
    clear K0 R0
    refine hide ?_
    intro wx g8 g9 a1 c1 g15 nb wS
    rw [unhide HF]
    refine wpAnyH_ready (rs := [5]) (by kernel_rfl) (by simp) ?_
    refine AllReadyH.cons (o := _) rfl (fun K hK => ?_) AllReadyH.nil
    · have s2 := (unhide wS).a12 (unhide HE).1 (unhide HE).2
      clear wS
      go_simp
      refine hK.out _ _ trivial (fun hHeld => ?_)
      clear hK K
      (try simp only [Act.put, List.getElem_toArray, List.getElem_cons_succ, List.getElem_cons_zero, List.setIfInBounds_toArray, List.set_cons_zero, List.set_cons_succ])
      generalize wx.alloc (.cells #[] 3) = wy at *
      generalize wx.heap.size = g12 at *
      refine wpAnyH_take (i := 9) (oi := _) (v := ?_) rfl (by kernel_rfl) (by kernel_rfl) (by kernel_rfl) (fun _ _ _ h => h) (Or.inl ⟨by rfl, ?_⟩) trivial ?_
      rotate_left 1
      · (intro wq hSw; (try simp only [List.getElem_toArray, List.getElem_cons_succ, List.getElem_cons_zero]); go_simp; try with_reducible rfl)
      (try simp only [Act.put, List.getElem_toArray, List.getElem_cons_succ, List.getElem_cons_zero, List.setIfInBounds_toArray, List.set_cons_zero, List.set_cons_succ])
      have fin := unhide st12111 _ g8 g9 a1 c1 g12 g15 nb (hide s2)
      rw [unhide HF] at fin
      exact fin
  have st12101 : Hid (∀ (wx : World) (g8 : Nat) (g9 : Nat) (a1 : Option Addr) (c1 : Nat) (g12 : Nat) (nb : Nat) (wS : Hid (NSt w LO rb wx (.slice (some ⟨g8, 0, none⟩) 0 0) (.slice a1 ms.length c1) (.slice (some ⟨g12, 0, none⟩) 0 0) (.slice none 0 0) (.slice (some ⟨nb, 0, none⟩) 0 0) ms [])), F 3 #[true, true, true, true, true, true, true, true, false, false, true, false] ⟨#[.int .i64 id, .slice a ms.length c, undef, undef, .pointer (some ⟨rb, 0, none⟩), .pointer (some ⟨nb, 0, none⟩), undef, .int .i64 id, .slice (some ⟨g8, 0, none⟩) 0 0, .slice (some ⟨g9, 0, none⟩) 0 0, .slice a ms.length c, .slice a1 ms.length c1, .slice (some ⟨g12, 0, none⟩) 0 0, .int .i64 id, .int .i64 (5 + id), undef, undef, undef, undef, undef, undef, undef, undef, undef, undef, undef, undef], []⟩ wx) := by
    clear st02111 st11111 st12011
    clear K0 R0
    refine hide ?_
    intro wx g8 g9 a1 c1 g12 nb wS
    rw [unhide HF]
    refine wpAnyH_ready (rs := [8]) (by kernel_rfl) (by simp) ?_
    refine AllReadyH.cons (o := _) rfl (fun K hK => ?_) AllReadyH.nil
    · have s2 := (unhide wS).a15 (unhide HE).1 (unhide HE).2
      clear wS
      go_simp
      refine hK.out _ _ trivial (fun hHeld => ?_)
      clear hK K
      (try simp only [Act.put, List.getElem_toArray, List.getElem_cons_succ, List.getElem_cons_zero, List.setIfInBounds_toArray, List.set_cons_zero, List.set_cons_succ])
      generalize wx.alloc (.cells #[.int .i64 0, .int .i64 0, .int .i64 0, .int .i64 0, .int .i64 0, .int .i64 0, .int .i64 0] 3) = wy at *
      generalize wx.heap.size = g15 at *
      refine wpAnyH_take (i := 9) (oi := _) (v := ?_) rfl (by kernel_rfl) (by kernel_rfl) (by kernel_rfl) (fun _ _ _ h => h) (Or.inl ⟨by rfl, ?_⟩) trivial ?_
      rotate_left 1
      · (intro wq hSw; (try simp only [List.getElem_toArray, List.getElem_cons_succ, List.getElem_cons_zero]); go_simp; try with_reducible rfl)
      (try simp only [Act.put, List.getElem_toArray, List.getElem_cons_succ, List.getElem_cons_zero, List.setIfInBounds_toArray, List.set_cons_zero, List.set_cons_succ])
      have fin := unhide st12111 _ g8 g9 a1 c1 g12 g15 nb (hide s2)
      rw [unhide HF] at fin
      exact fin
  have st12110 : Hid (∀ (wx : World) (g8 : Nat) (g9 : Nat) (a1 : Option Addr) (c1 : Nat) (g12 : Nat) (g15 : Nat) (wS : Hid (NSt w LO rb wx (.slice (some ⟨g8, 0, none⟩) 0 0) (.slice a1 ms.length c1) (.slice (some ⟨g12, 0, none⟩) 0 0) (.slice (some ⟨g15, 0, none⟩) 7 7) (.slice none 0 0) ms (List.replicate 7 0))), F 2 #[true, true, true, true, true, true, true, true, true, true, false, false] ⟨#[.int .i64 id, .slice a ms.length c, undef, undef, .pointer (some ⟨rb, 0, none⟩), undef, undef, .int .i64 id, .slice (some ⟨g8, 0, none⟩) 0 0, .slice (some ⟨g9, 0, none⟩) 0 0, .slice a ms.length c, .slice a1 ms.length c1, .slice (some ⟨g12, 0, none⟩) 0 0, .int .i64 id, .int .i64 (5 + id), .slice (some ⟨g15, 0, none⟩) 7 7, .agg #[.int .i64 id, .int .i64 0, .int .i64 (-1), .slice (some ⟨g8, 0, none⟩) 0 0, .slice a1 ms.length c1, .int .i64 0, .slice (some ⟨g12, 0, none⟩) 0 0, .slice none 0 0, .slice (some ⟨g15, 0, none⟩) 7 7, .int .i64 0, .int .i64 0, .int .i64 (5 + id), .bool true], undef, undef, undef, undef, undef, undef, undef, undef, undef, undef], []⟩ wx) := by
    clear st02111 st11111 st12011 st12101
    clear K0 R0
    refine hide ?_
    intro wx g8 g9 a1 c1 g12 g15 wS
    rw [unhide HF]
    refine wpAnyH_ready (rs := [10]) (by kernel_rfl) (by simp) ?_
    refine AllReadyH.cons (o := _) rfl (fun K hK => ?_) AllReadyH.nil
    · have s2 := (unhide wS).aal (unhide HE).1 (unhide HE).2
      clear wS
      go_simp
      refine hK.out _ _ trivial (fun hHeld => ?_)
      clear hK K
      (try simp only [Act.put, List.getElem_toArray, List.getElem_cons_succ, List.getElem_cons_zero, List.setIfInBounds_toArray, List.set_cons_zero, List.set_cons_succ])
      generalize wx.alloc (.cells #[.int .i64 0, .int .i64 0, .int .i64 0, .slice none 0 0, .slice none 0 0, .int .i64 0, .slice none 0 0, .slice none 0 0, .slice none 0 0, .int .i64 0, .int .i64 0, .int .i64 0, .bool false] 42) = wy at *
      generalize wx.heap.size = nb at *
      have fin := unhide st12111 _ g8 g9 a1 c1 g12 g15 nb (hide s2)
      rw [unhide HF] at fin
      exact fin
  have st01111 : Hid (∀ (wx : World) (g9 : Nat) (g12 : Nat) (g15 : Nat) (nb : Nat) (wS : Hid (NSt w LO rb wx (.slice none 0 0) (.slice (some ⟨g9, 0, none⟩) 0 0) (.slice (some ⟨g12, 0, none⟩) 0 0) (.slice (some ⟨g15, 0, none⟩) 7 7) (.slice (some ⟨nb, 0, none⟩) 0 0) [] (List.replicate 7 0))), F 4 #[true, false, true, true, false, true, true, true, true, false, true, false] ⟨#[.int .i64 id, .slice a ms.length c, undef, undef, .pointer (some ⟨rb, 0, none⟩), .pointer (some ⟨nb, 0, none⟩), undef, .int .i64 id, undef, .slice (some ⟨g9, 0, none⟩) 0 0, .slice a ms.length c, undef, .slice (some ⟨g12, 0, none⟩) 0 0, .int .i64 id, .int .i64 (5 + id), .slice (some ⟨g15, 0, none⟩) 7 7, undef, undef, undef, undef, undef, undef, undef, undef, undef, undef, undef], []⟩ wx) := by
    clear st12111 st12011 st12101 st12110
    clear K0 R0
    refine hide ?_
    intro wx g9 g12 g15 nb wS
    rw [unhide HF]
    refine wpAnyH_ready (rs := [1, 4]) (by kernel_rfl) (by simp) ?_
    refine AllReadyH.cons (o := _) rfl (fun K hK => ?_) (AllReadyH.cons (o := _) rfl (fun K hK => ?_) AllReadyH.nil)
    · have s2 := (unhide wS).a8 (unhide HE).1 (unhide HE).2
      clear wS
      go_simp
      refine hK.out _ _ trivial (fun hHeld => ?_)
      clear hK K
      (try simp only [Act.put, List.getElem_toArray, List.getElem_cons_succ, List.getElem_cons_zero, List.setIfInBounds_toArray, List.set_cons_zero, List.set_cons_succ])
      generalize wx.alloc (.cells #[] 102) = wy at *
      generalize wx.heap.size = g8 at *
      have fin := unhide st11111 _ g8 g9 g12 g15 nb (hide s2)
      rw [unhide HF] at fin
      exact fin
    · have hR := ((unhide HMS).below (unhide wS).K).rw
      refine step_append_row rfl _ _ _ rfl LO 3 i0 _ 1 8 Try.underlying34 hi hz0 hz1 hz2 rfl (by omega) (.slice (some ⟨g9, 0, none⟩) 0 0) 0 [] rfl (unhide wS).O11 (.slice a ms.length c) ms.length (ms.map (Value.int .i64)) rfl hR (by simp) (by intro u hu; simp only [List.mem_map] at hu; obtain ⟨s, _, rfl⟩ := hu; rfl) (by unfold maxLen; omega) (by omega) ((unhide wS).lo (unhide HE).1 (unhide HE).2) ?_
      intro a1 c1 wy hown1 hgrow1 hat1
      rw [Nat.zero_add] at hown1 hat1 ⊢
      have s2 := (unhide wS).app (unhide HE).1 (unhide HE).2 hown1 hgrow1 hat1
      clear hown1 hgrow1 hat1 hR wS
      refine hK.out _ _ trivial (fun hHeld => ?_)
      clear hK K
      (try simp only [Act.put, List.getElem_toArray, List.getElem_cons_succ, List.getElem_cons_zero, List.setIfInBounds_toArray, List.set_cons_zero, List.set_cons_succ])
      have fin := unhide st02111 _ g9 a1 c1 g12 g15 nb (hide s2)
      rw [unhide HF] at fin
      exact fin
  have st02011 : Hid (∀ (wx : World) (g9 : Nat) (a1 : Option Addr) (c1 : Nat) (g15 : Nat) (nb : Nat) (wS : Hid (NSt w LO rb wx (.slice none 0 0) (.slice a1 ms.length c1) (.slice none 0 0) (.slice (some ⟨g15, 0, none⟩) 7 7) (.slice (some ⟨nb, 0, none⟩) 0 0) ms (List.replicate 7 0))), F 4 #[true, false, true, true, true, false, true, true, true, false, true, false] ⟨#[.int .i64 id, .slice a ms.length c, undef, undef, .pointer (some ⟨rb, 0, none⟩), .pointer (some ⟨nb, 0, none⟩), undef, .int .i64 id, undef, .slice (some ⟨g9, 0, none⟩) 0 0, .slice a ms.length c, .slice a1 ms.length c1, undef, .int .i64 id, .int .i64 (5 + id), .slice (some ⟨g15, 0, none⟩) 7 7, undef, undef, undef, undef, undef, undef, undef, undef, undef, undef, undef], []⟩ wx) := by
    clear st12111 st11111 st12101 st12110 st01111
    clear K0 R0
    refine hide ?_
    intro wx g9 a1 c1 g15 nb wS
    rw [unhide HF]
    refine wpAnyH_ready (rs := [1, 5]) (by kernel_rfl) (by simp) ?_
    refine AllReadyH.cons (o := _) rfl (fun K hK => ?_) (AllReadyH.cons (o := _) rfl (fun K hK => ?_) AllReadyH.nil)
    · have s2 := (unhide wS).a8 (unhide HE).1 (unhide HE).2
      clear wS
      go_simp
      refine hK.out _ _ trivial (fun hHeld => ?_)
      clear hK K
      (try simp only [Act.put, List.getElem_toArray, List.getElem_cons_succ, List.getElem_cons_zero, List.setIfInBounds_toArray, List.set_cons_zero, List.set_cons_succ])
      generalize wx.alloc (.cells #[] 102) = wy at *
      generalize wx.heap.size = g8 at *
      have fin := unhide st12011 _ g8 g9 a1 c1 g15 nb (hide s2)
      rw [unhide HF] at fin
      exact fin
    · have s2 := (unhide wS).a12 (unhide HE).1 (unhide HE).2
      clear wS
      go_simp
      refine hK.out _ _ trivial (fun hHeld => ?_)
      clear hK K
      (try simp only [Act.put, List.getElem_toArray, List.getElem_cons_succ, List.getElem_cons_zero, List.setIfInBounds_toArray, List.set_cons_zero, List.set_cons_succ])
      generalize wx.alloc (.cells #[] 3) = wy at *
      generalize wx.heap.size = g12 at *
      have fin := unhide st02111 _ g9 a1 c1 g12 g15 nb (hide s2)
      rw [unhide HF] at fin
      exact fin
  have st02101 : Hid (∀ (wx : World) (g9 : Nat) (a1 : Option Addr) (c1 : Nat) (g12 : Nat) (nb : Nat) (wS : Hid (NSt w LO rb wx (.slice none 0 0) (.slice a1 ms.length c1) (.slice (some ⟨g12, 0, none⟩) 0 0) (.slice none 0 0) (.slice (some ⟨nb, 0, none⟩) 0 0) ms [])), F 4 #[true, false, true, true, true, true, true, true, false, false, true, false] ⟨#[.int .i64 id, .slice a ms.length c, undef, undef, .pointer (some ⟨rb, 0, none⟩), .pointer (some ⟨nb, 0, none⟩), undef, .int .i64 id, undef, .slice (some ⟨g9, 0, none⟩) 0 0, .slice a ms.length c, .slice a1 ms.length c1, .slice (some ⟨g12, 0, none⟩) 0 0, .int .i64 id, .int .i64 (5 + id), undef, undef, undef, undef, undef, undef, undef, undef, undef, undef, undef, undef], []⟩ wx) := by
    clear st12111 st11111 st12011 st12110 st01111 st02011
    clear K0 R0
    refine hide ?_
    intro wx g9 a1 c1 g12 nb wS
    rw [unhide HF]
    refine wpAnyH_ready (rs := [1, 8]) (by kernel_rfl) (by simp) ?_
    refine AllReadyH.cons (o := _) rfl (fun K hK => ?_) (AllReadyH.cons (o := _) rfl (fun K hK => ?_) AllReadyH.nil)
    · have s2 := (unhide wS).a8 (unhide HE).1 (unhide HE).2
      clear wS
      go_simp
      refine hK.out _ _ trivial (fun hHeld => ?_)
      clear hK K
      (try simp only [Act.put, List.getElem_toArray, List.getElem_cons_succ, List.getElem_cons_zero, List.setIfInBounds_toArray, List.set_cons_zero, List.set_cons_succ])
      generalize wx.alloc (.cells #[] 102) = wy at *
      generalize wx.heap.size = g8 at *
      have fin := unhide st12101 _ g8 g9 a1 c1 g12 nb (hide s2)
      rw [unhide HF] at fin
      exact fin
    · have s2 := (unhide wS).a15 (unhide HE).1 (unhide HE).2
      clear wS
      go_simp
      refine hK.out _ _ trivial (fun hHeld => ?_)
      clear hK K
      (try simp only [Act.put, List.getElem_toArray, List.getElem_cons_succ, List.getElem_cons_zero, List.setIfInBounds_toArray, List.set_cons_zero, List.set_cons_succ])
      generalize wx.alloc (.cells #[.int .i64 0, .int .i64 0, .int .i64 0, .int .i64 0, .int .i64 0, .int .i64 0, .int .i64 0] 3) = wy at *
      generalize wx.heap.size = g15 at *
      have fin := unhide st02111 _ g9 a1 c1 g12 g15 nb (hide s2)
      rw [unhide HF] at fin
      exact fin
  have st02110 : Hid (∀ (wx : World) (g9 : Nat) (a1 : Option Addr) (c1 : Nat) (g12 : Nat) (g15 : Nat) (wS : Hid (NSt w LO rb wx (.slice none 0 0) (.slice a1 ms.length c1) (.slice (some ⟨g12, 0, none⟩) 0 0) (.slice (some ⟨g15, 0, none⟩) 7 7) (.slice none 0 0) ms (List.replicate 7 0))), F 4 #[true, false, true, true, true, true, true, true, true, false, false, false] ⟨#[.int .i64 id, .slice a ms.length c, undef, undef, .pointer (some ⟨rb, 0, none⟩), undef, undef, .int .i64 id, undef, .slice (some ⟨g9, 0, none⟩) 0 0, .slice a ms.length c, .slice a1 ms.length c1, .slice (some ⟨g12, 0, none⟩) 0 0, .int .i64 id, .int .i64 (5 + id), .slice (some ⟨g15, 0, none⟩) 7 7, undef, undef, undef, undef, undef, undef, undef, undef, undef, undef, undef], []⟩ wx) := by
    clear st12111 st11111 st12011 st12101 st01111 st02011 st02101
    clear K0 R0
    refine hide ?_
    intro wx g9 a1 c1 g12 g15 wS
    rw [unhide HF]
    refine wpAnyH_ready (rs := [1, 10]) (by kernel_rfl) (by simp) ?_
    refine AllReadyH.cons (o := _) rfl (fun K hK => ?_) (AllReadyH.cons (o := _) rfl (fun K hK => ?_) AllReadyH.nil)
    · have s2 := (unhide wS).a8 (unhide HE).1 (unhide HE).2
      clear wS
      go_simp
      refine hK.out _ _ trivial (fun hHeld => ?_)
      clear hK K
      (try simp only [Act.put, List.getElem_toArray, List.getElem_cons_succ, List.getElem_cons_zero, List.setIfInBounds_toArray, List.set_cons_zero, List.set_cons_succ])
      generalize wx.alloc (.cells #[] 102) = wy at *
      generalize wx.heap.size = g8 at *
      refine wpAnyH_take (i := 9) (oi := _) (v := ?_) rfl (by kernel_rfl) (by kernel_rfl) (by kernel_rfl) (fun _ _ _ h => h) (Or.inl ⟨by rfl, ?_⟩) trivial ?_
      rotate_left 1
      · (intro wq hSw; (try simp only [List.getElem_toArray, List.getElem_cons_succ, List.getElem_cons_zero]); go_simp; try with_reducible rfl)
      (try simp only [Act.put, List.getElem_toArray, List.getElem_cons_succ, List.getElem_cons_zero, List.setIfInBounds_toArray, List.set_cons_zero, List.set_cons_succ])
      have fin := unhide st12110 _ g8 g9 a1 c1 g12 g15 (hide s2)
      rw [unhide HF] at fin
      exact fin
    · have s2 := (unhide wS).aal (unhide HE).1 (unhide HE).2
      clear wS
      go_simp
      refine hK.out _ _ trivial (fun hHeld => ?_)
      clear hK K
      (try simp only [Act.put, List.getElem_toArray, List.getElem_cons_succ, List.getElem_cons_zero, List.setIfInBounds_toArray, List.set_cons_zero, List.set_cons_succ])
      generalize wx.alloc (.cells #[.int .i64 0, .int .i64 0, .int .i64 0, .slice none 0 0, .slice none 0 0, .int .i64 0, .slice none 0 0, .slice none 0 0, .slice none 0 0, .int .i64 0, .int .i64 0, .int .i64 0, .bool false] 42) = wy at *
      generalize wx.heap.size = nb at *
      have fin := unhide st02111 _ g9 a1 c1 g12 g15 nb (hide s2)
      rw [unhide HF] at fin
      exact fin
  have st10111 : Hid (∀ (wx : World) (g8 : Nat) (g12 : Nat) (g15 : Nat) (nb : Nat) (wS : Hid (NSt w LO rb wx (.slice (some ⟨g8, 0, none⟩) 0 0) (.slice none 0 0) (.slice (some ⟨g12, 0, none⟩) 0 0) (.slice (some ⟨g15, 0, none⟩) 7 7) (.slice (some ⟨nb, 0, none⟩) 0 0) [] (List.replicate 7 0))), F 4 #[true, true, false, true, false, true, true, true, true, false, true, false] ⟨#[.int .i64 id, .slice a ms.length c, undef, undef, .pointer (some ⟨rb, 0, none⟩), .pointer (some ⟨nb, 0, none⟩), undef, .int .i64 id, .slice (some ⟨g8, 0, none⟩) 0 0, undef, .slice a ms.length c, undef, .slice (some ⟨g12, 0, none⟩) 0 0, .int .i64 id, .int .i64 (5 + id), .slice (some ⟨g15, 0, none⟩) 7 7, undef, undef, undef, undef, undef, undef, undef, undef, undef, undef, undef], []⟩ wx) := by
    clear st12111 st02111 st12011 st12101 st12110 st01111 st02011 st02101 st02110
    clear K0 R0
    refine hide ?_
    intro wx g8 g12 g15 nb wS
    rw [unhide HF]
    refine wpAnyH_ready (rs := [2]) (by kernel_rfl) (by simp) ?_
    refine AllReadyH.cons (o := _) rfl (fun K hK => ?_) AllReadyH.nil
    · have s2 := (unhide wS).a9 (unhide HE).1 (unhide HE).2
      clear wS
      go_simp
      refine hK.out _ _ trivial (fun hHeld => ?_)
      clear hK K
      (try simp only [Act.put, List.getElem_toArray, List.getElem_cons_succ, List.getElem_cons_zero, List.setIfInBounds_toArray, List.set_cons_zero, List.set_cons_succ])
      generalize wx.alloc (.cells #[] 3) = wy at *
      generalize wx.heap.size = g9 at *
      have fin := unhide st11111 _ g8 g9 g12 g15 nb (hide s2)
      rw [unhide HF] at fin
      exact fin
  have st11011 : Hid (∀ (wx : World) (g8 : Nat) (g9 : Nat) (g15 : Nat) (nb : Nat) (wS : Hid (NSt w LO rb wx (.slice (some ⟨g8, 0, none⟩) 0 0) (.slice (some ⟨g9, 0, none⟩) 0 0) (.slice none 0 0) (.slice (some ⟨g15, 0, none⟩) 7 7) (.slice (some ⟨nb, 0, none⟩) 0 0) [] (List.replicate 7 0))), F 4 #[true, true, true, true, false, false, true, true, true, false, true, false] ⟨#[.int .i64 id, .slice a ms.length c, undef, undef, .pointer (some ⟨rb, 0, none⟩), .pointer (some ⟨nb, 0, none⟩), undef, .int .i64 id, .slice (some ⟨g8, 0, none⟩) 0 0, .slice (some ⟨g9, 0, none⟩) 0 0, .slice a ms.length c, undef, undef, .int .i64 id, .int .i64 (5 + id), .slice (some ⟨g15, 0, none⟩) 7 7, undef, undef, undef, undef, undef, undef, undef, undef, undef, undef, undef], []⟩ wx) := by
    clear st12111 st02111 st12101 st12110 st01111 st02011 st02101 st02110 st10111
    clear K0 R0
    refine hide ?_
    intro wx g8 g9 g15 nb wS
    rw [unhide HF]
    refine wpAnyH_ready (rs := [4, 5]) (by kernel_rfl) (by simp) ?_
    refine AllReadyH.cons (o := _) rfl (fun K hK => ?_) (AllReadyH.cons (o := _) rfl (fun K hK => ?_) AllReadyH.nil)
    · have hR := ((unhide HMS).below (unhide wS).K).rw
      refine step_append_row rfl _ _ _ rfl LO 3 i0 _ 1 8 Try.underlying34 hi hz0 hz1 hz2 rfl (by omega) (.slice (some ⟨g9, 0, none⟩) 0 0) 0 [] rfl (unhide wS).O11 (.slice a ms.length c) ms.length (ms.map (Value.int .i64)) rfl hR (by simp) (by intro u hu; simp only [List.mem_map] at hu; obtain ⟨s, _, rfl⟩ := hu; rfl) (by unfold maxLen; omega) (by omega) ((unhide wS).lo (unhide HE).1 (unhide HE).2) ?_
      intro a1 c1 wy hown1 hgrow1 hat1
      rw [Nat.zero_add] at hown1 hat1 ⊢
      have s2 := (unhide wS).app (unhide HE).1 (unhide HE).2 hown1 hgrow1 hat1
      clear hown1 hgrow1 hat1 hR wS
      refine hK.out _ _ trivial (fun hHeld => ?_)
      clear hK K
      (try simp only [Act.put, List.getElem_toArray, List.getElem_cons_succ, List.getElem_cons_zero, List.setIfInBounds_toArray, List.set_cons_zero, List.set_cons_succ])
      have fin := unhide st12011 _ g8 g9 a1 c1 g15 nb (hide s2)
      rw [unhide HF] at fin
      exact fin
    · have s2 := (unhide wS).a12 (unhide HE).1 (unhide HE).2
      clear wS
      go_simp
      refine hK.out _ _ trivial (fun hHeld => ?_)
      clear hK K
      (try simp only [Act.put, List.getElem_toArray, List.getElem_cons_succ, List.getElem_cons_zero, List.setIfInBounds_toArray, List.set_cons_zero, List.set_cons_succ])
      generalize wx.alloc (.cells #[] 3) = wy at *
      generalize wx.heap.size = g12 at *
      have fin := unhide st11111 _ g8 g9 g12 g15 nb (hide s2)
      rw [unhide HF] at fin
      exact fin
  have st11101 : Hid (∀ (wx : World) (g8 : Nat) (g9 : Nat) (g12 : Nat) (nb : Nat) (wS : Hid (NSt w LO rb wx (.slice (some ⟨g8, 0, none⟩) 0 0) (.slice (some ⟨g9, 0, none⟩) 0 0) (.slice (some ⟨g12, 0, none⟩) 0 0) (.slice none 0 0) (.slice (some ⟨nb, 0, none⟩) 0 0) [] [])), F 4 #[true, true, true, true, false, true, true, true, false, false, true, false] ⟨#[.int .i64 id, .slice a ms.length c, undef, undef, .pointer (some ⟨rb, 0, none⟩), .pointer (some ⟨nb, 0, none⟩), undef, .int .i64 id, .slice (some ⟨g8, 0, none⟩) 0 0, .slice (some ⟨g9, 0, none⟩) 0 0, .slice a ms.length c, undef, .slice (some ⟨g12, 0, none⟩) 0 0, .int .i64 id, .int .i64 (5 + id), undef, undef, undef, undef, undef, undef, undef, undef, undef, undef, undef, undef], []⟩ wx) := by
    clear st12111 st02111 st12011 st12110 st01111 st02011 st02101 st02110 st10111 st11011
    clear K0 R0
    refine hide ?_
    intro wx g8 g9 g12 nb wS
    rw [unhide HF]
    refine wpAnyH_ready (rs := [4, 8]) (by kernel_rfl) (by simp) ?_
    refine AllReadyH.cons (o := _) rfl (fun K hK => ?_) (AllReadyH.cons (o := _) rfl (fun K hK => ?_) AllReadyH.nil)
    · have hR := ((unhide HMS).below (unhide wS).K).rw
      refine step_append_row rfl _ _ _ rfl LO 3 i0 _ 1 8 Try.underlying34 hi hz0 hz1 hz2 rfl (by omega) (.slice (some ⟨g9, 0, none⟩) 0 0) 0 [] rfl (unhide wS).O11 (.slice a ms.length c) ms.length (ms.map (Value.int .i64)) rfl hR (by simp) (by intro u hu; simp only [List.mem_map] at hu; obtain ⟨s, _, rfl⟩ := hu; rfl) (by unfold maxLen; omega) (by omega) ((unhide wS).lo (unhide HE).1 (unhide HE).2) ?_
      intro a1 c1 wy hown1 hgrow1 hat1
      rw [Nat.zero_add] at hown1 hat1 ⊢
      have s2 := (unhide wS).app (unhide HE).1 (unhide HE).2 hown1 hgrow1 hat1
      clear hown1 hgrow1 hat1 hR wS
      refine hK.out _ _ trivial (fun hHeld => ?_)
      clear hK K
      (try simp only [Act.put, List.getElem_toArray, List.getElem_cons_succ, List.getElem_cons_zero, List.setIfInBounds_toArray, List.set_cons_zero, List.set_cons_succ])
      have fin := unhide st12101 _ g8 g9 a1 c1 g12 nb (hide s2)
      rw [unhide HF] at fin
      exact fin
    · have s2 := (unhide wS).a15 (unhide HE).1 (unhide HE).2
      clear wS
      go_simp
      refine hK.out _ _ trivial (fun hHeld => ?_)
      clear hK K
      (try simp only [Act.put, List.getElem_toArray, List.getElem_cons_succ, List.getElem_cons_zero, List.setIfInBounds_toArray, List.set_cons_zero, List.set_cons_succ])
      generalize wx.alloc (.cells #[.int .i64 0, .int .i64 0, .int .i64 0, .int .i64 0, .int .i64 0, .int .i64 0, .int .i64 0] 3) = wy at *
      generalize wx.heap.size = g15 at *
      have fin := unhide st11111 _ g8 g9 g12 g15 nb (hide s2)
      rw [unhide HF] at fin
      exact fin
  have st11110 : Hid (∀ (wx : World) (g8 : Nat) (g9 : Nat) (g12 : Nat) (g15 : Nat) (wS : Hid (NSt w LO rb wx (.slice (some ⟨g8, 0, none⟩) 0 0) (.slice (some ⟨g9, 0, none⟩) 0 0) (.slice (some ⟨g12, 0, none⟩) 0 0) (.slice (some ⟨g15, 0, none⟩) 7 7) (.slice none 0 0) [] (List.replicate 7 0))), F 4 #[true, true, true, true, false, true, true, true, true, false, false, false] ⟨#[.int .i64 id, .slice a ms.length c, undef, undef, .pointer (some ⟨rb, 0, none⟩), undef, undef, .int .i64 id, .slice (some ⟨g8, 0, none⟩) 0 0, .slice (some ⟨g9, 0, none⟩) 0 0, .slice a ms.length c, undef, .slice (some ⟨g12, 0, none⟩) 0 0, .int .i64 id, .int .i64 (5 + id), .slice (some ⟨g15, 0, none⟩) 7 7, undef, undef, undef, undef, undef, undef, undef, undef, undef, undef, undef], []⟩ wx) := by
    clear st12111 st02111 st12011 st12101 st01111 st02011 st02101 st02110 st10111 st11011 st11101
    clear K0 R0
    refine hide ?_
    intro wx g8 g9 g12 g15 wS
    rw [unhide HF]
    refine wpAnyH_ready (rs := [4, 10]) (by kernel_rfl) (by simp) ?_
    refine AllReadyH.cons (o := _) rfl (fun K hK => ?_) (AllReadyH.cons (o := _) rfl (fun K hK => ?_) AllReadyH.nil)
    · have hR := ((unhide HMS).below (unhide wS).K).rw
      refine step_append_row rfl _ _ _ rfl LO 3 i0 _ 1 8 Try.underlying34 hi hz0 hz1 hz2 rfl (by omega) (.slice (some ⟨g9, 0, none⟩) 0 0) 0 [] rfl (unhide wS).O11 (.slice a ms.length c) ms.length (ms.map (Value.int .i64)) rfl hR (by simp) (by intro u hu; simp only [List.mem_map] at hu; obtain ⟨s, _, rfl⟩ := hu; rfl) (by unfold maxLen; omega) (by omega) ((unhide wS).lo (unhide HE).1 (unhide HE).2) ?_
      intro a1 c1 wy hown1 hgrow1 hat1
      rw [Nat.zero_add] at hown1 hat1 ⊢
      have s2 := (unhide wS).app (unhide HE).1 (unhide HE).2 hown1 hgrow1 hat1
      clear hown1 hgrow1 hat1 hR wS
      refine hK.out _ _ trivial (fun hHeld => ?_)
      clear hK K
      (try simp only [Act.put, List.getElem_toArray, List.getElem_cons_succ, List.getElem_cons_zero, List.setIfInBounds_toArray, List.set_cons_zero, List.set_cons_succ])
      refine wpAnyH_take (i := 9) (oi := _) (v := ?_) rfl (by kernel_rfl) (by kernel_rfl) (by kernel_rfl) (fun _ _ _ h => h) (Or.inl ⟨by rfl, ?_⟩) trivial ?_
      rotate_left 1
      · (intro wq hSw; (try simp only [List.getElem_toArray, List.getElem_cons_succ, List.getElem_cons_zero]); go_simp; try with_reducible rfl)
      (try simp only [Act.put, List.getElem_toArray, List.getElem_cons_succ, List.getElem_cons_zero, List.setIfInBounds_toArray, List.set_cons_zero, List.set_cons_succ])
      have fin := unhide st12110 _ g8 g9 a1 c1 g12 g15 (hide s2)
      rw [unhide HF] at fin
      exact fin
    · have s2 := (unhide wS).aal (unhide HE).1 (unhide HE).2
      clear wS
      go_simp
      refine hK.out _ _ trivial (fun hHeld => ?_)
      clear hK K
      (try simp only [Act.put, List.getElem_toArray, List.getElem_cons_succ, List.getElem_cons_zero, List.setIfInBounds_toArray, List.set_cons_zero, List.set_cons_succ])
      generalize wx.alloc (.cells #[.int .i64 0, .int .i64 0, .int .i64 0, .slice none 0 0, .slice none 0 0, .int .i64 0, .slice none 0 0, .slice none 0 0, .slice none 0 0, .int .i64 0, .int .i64 0, .int .i64 0, .bool false] 42) = wy at *
      generalize wx.heap.size = nb at *
      have fin := unhide st11111 _ g8 g9 g12 g15 nb (hide s2)
      rw [unhide HF] at fin
      exact fin
  have st12001 : Hid (∀ (wx : World) (g8 : Nat) (g9 : Nat) (a1 : Option Addr) (c1 : Nat) (nb : Nat) (wS : Hid (NSt w LO rb wx (.slice (some ⟨g8, 0, none⟩) 0 0) (.slice a1 ms.length c1) (.slice none 0 0) (.slice none 0 0) (.slice (some ⟨nb, 0, none⟩) 0 0) ms [])), F 4 #[true, true, true, true, true, false, true, true, false, false, true, false] ⟨#[.int .i64 id, .slice a ms.length c, undef, undef, .pointer (some ⟨rb, 0, none⟩), .pointer (some ⟨nb, 0, none⟩), undef, .int .i64 id, .slice (some ⟨g8, 0, none⟩) 0 0, .slice (some ⟨g9, 0, none⟩) 0 0, .slice a ms.length c, .slice a1 ms.length c1, undef, .int .i64 id, .int .i64 (5 + id), undef, undef, undef, undef, undef, undef, undef, undef, undef, undef, undef, undef], []⟩ wx) := by
    clear st12111 st02111 st11111 st12110 st01111 st02011 st02101 st02110 st10111 st11011 st11101 st11110
    clear K0 R0
    refine hide ?_
    intro wx g8 g9 a1 c1 nb wS
    rw [unhide HF]
    refine wpAnyH_ready (rs := [5, 8]) (by kernel_rfl) (by simp) ?_
    refine AllReadyH.cons (o := _) rfl (fun K hK => ?_) (AllReadyH.cons (o := _) rfl (fun K hK => ?_) AllReadyH.nil)
    · have s2 := (unhide wS).a12 (unhide HE).1 (unhide HE).2
      clear wS
      go_simp
      refine hK.out _ _ trivial (fun hHeld => ?_)
      clear hK K
      (try simp only [Act.put, List.getElem_toArray, List.getElem_cons_succ, List.getElem_cons_zero, List.setIfInBounds_toArray, List.set_cons_zero, List.set_cons_succ])
      generalize wx.alloc (.cells #[] 3) = wy at *
      generalize wx.heap.size = g12 at *
      have fin := unhide st12101 _ g8 g9 a1 c1 g12 nb (hide s2)
      rw [unhide HF] at fin
      exact fin
    · have s2 := (unhide wS).a15 (unhide HE).1 (unhide HE).2
      clear wS
      go_simp
      refine hK.out _ _ trivial (fun hHeld => ?_)
      clear hK K
      (try simp only [Act.put, List.getElem_toArray, List.getElem_cons_succ, List.getElem_cons_zero, List.setIfInBounds_toArray, List.set_cons_zero, List.set_cons_succ])
      generalize wx.alloc (.cells #[.int .i64 0, .int .i64 0, .int .i64 0, .int .i64 0, .int .i64 0, .int .i64 0, .int .i64 0] 3) = wy at *
      generalize wx.heap.size = g15 at *
      have fin := unhide st12011 _ g8 g9 a1 c1 g15 nb (hide s2)
      rw [unhide HF] at fin
      exact fin
  have st12010 : Hid (∀ (wx : World) (g8 : Nat) (g9 : Nat) (a1 : Option Addr) (c1 : Nat) (g15 : Nat) (wS : Hid (NSt w LO rb wx (.slice (some ⟨g8, 0, none⟩) 0 0) (.slice a1 ms.length c1) (.slice none 0 0) (.slice (some ⟨g15, 0, none⟩) 7 7) (.slice none 0 0) ms (List.replicate 7 0))), F 4 #[true, true, true, true, true, false, true, true, true, false, false, false] ⟨#[.int .i64 id, .slice a ms.length c, undef, undef, .pointer (some ⟨rb, 0, none⟩), undef, undef, .int .i64 id, .slice (some ⟨g8, 0, none⟩) 0 0, .slice (some ⟨g9, 0, none⟩) 0 0, .slice a ms.length c, .slice a1 ms.length c1, undef, .int .i64 id, .int .i64 (5 + id), .slice (some ⟨g15, 0, none⟩) 7 7, undef, undef, undef, undef, undef, undef, undef, undef, undef, undef, undef], []⟩ wx) := by
    clear st12111 st02111 st11111 st12101 st01111 st02011 st02101 st02110 st10111 st11011 st11101 st11110 st12001
    clear K0 R0
    refine hide ?_
    intro wx g8 g9 a1 c1 g15 wS
    rw [unhide HF]
    refine wpAnyH_ready (rs := [5, 10]) (by kernel_rfl) (by simp) ?_
    refine AllReadyH.cons (o := _) rfl (fun K hK => ?_) (AllReadyH.cons (o := _) rfl (fun K hK => ?_) AllReadyH.nil)
    · have s2 := (unhide wS).a12 (unhide HE).1 (unhide HE).2
      clear wS
      go_simp
      refine hK.out _ _ trivial (fun hHeld => ?_)
      clear hK K
      (try simp only [Act.put, List.getElem_toArray, List.getElem_cons_succ, List.getElem_cons_zero, List.setIfInBounds_toArray, List.set_cons_zero, List.set_cons_succ])
      generalize wx.alloc (.cells #[] 3) = wy at *
      generalize wx.heap.size = g12 at *
      refine wpAnyH_take (i := 9) (oi := _) (v := ?_) rfl (by kernel_rfl) (by kernel_rfl) (by kernel_rfl) (fun _ _ _ h => h) (Or.inl ⟨by rfl, ?_⟩) trivial ?_
      rotate_left 1
      · (intro wq hSw; (try simp only [List.getElem_toArray, List.getElem_cons_succ, List.getElem_cons_zero]); go_simp; try with_reducible rfl)
      (try simp only [Act.put, List.getElem_toArray, List.getElem_cons_succ, List.getElem_cons_zero, List.setIfInBounds_toArray, List.set_cons_zero, List.set_cons_succ])
      have fin := unhide st12110 _ g8 g9 a1 c1 g12 g15 (hide s2)
      rw [unhide HF] at fin
      exact fin
    · have s2 := (unhide wS).aal (unhide HE).1 (unhide HE).2
      clear wS
      go_simp
      refine hK.out _ _ trivial (fun hHeld => ?_)
      clear hK K
      (try simp only [Act.put, List.getElem_toArray, List.getElem_cons_succ, List.getElem_cons_zero, List.setIfInBounds_toArray, List.set_cons_zero, List.set_cons_succ])
      generalize wx.alloc (.cells #[.int .i64 0, .int .i64 0, .int .i64 0, .slice none 0 0, .slice none 0 0, .int .i64 0, .slice none 0 0, .slice none 0 0, .slice none 0 0, .int .i64 0, .int .i64 0, .int .i64 0, .bool false] 42) = wy at *
      generalize wx.heap.size = nb at *
      have fin := unhide st12011 _ g8 g9 a1 c1 g15 nb (hide s2)
      rw [unhide HF] at fin
      exact fin
  have st12100 : Hid (∀ (wx : World) (g8 : Nat) (g9 : Nat) (a1 : Option Addr) (c1 : Nat) (g12 : Nat) (wS : Hid (NSt w LO rb wx (.slice (some ⟨g8, 0, none⟩) 0 0) (.slice a1 ms.length c1) (.slice (some ⟨g12, 0, none⟩) 0 0) (.slice none 0 0) (.slice none 0 0) ms [])), F 4 #[true, true, true, true, true, true, true, true, false, false, false, false] ⟨#[.int .i64 id, .slice a ms.length c, undef, undef, .pointer (some ⟨rb, 0, none⟩), undef, undef, .int .i64 id, .slice (some ⟨g8, 0, none⟩) 0 0, .slice (some ⟨g9, 0, none⟩) 0 0, .slice a ms.length c, .slice a1 ms.length c1, .slice (some ⟨g12, 0, none⟩) 0 0, .int .i64 id, .int .i64 (5 + id), undef, undef, undef, undef, undef, undef, undef, undef, undef, undef, undef, undef], []⟩ wx) := by
    clear st12111 st02111 st11111 st12011 st01111 st02011 st02101 st02110 st10111 st11011 st11101 st11110 st12001 st12010
    clear K0 R0
    refine hide ?_
    intro wx g8 g9 a1 c1 g12 wS
    rw [unhide HF]
    refine wpAnyH_ready (rs := [8, 10]) (by kernel_rfl) (by simp) ?_
    refine AllReadyH.cons (o := _) rfl (fun K hK => ?_) (AllReadyH.cons (o := _) rfl (fun K hK => ?_) AllReadyH.nil)
    · have s2 := (unhide wS).a15 (unhide HE).1 (unhide HE).2
      clear wS
      go_simp
      refine hK.out _ _ trivial (fun hHeld => ?_)
      clear hK K
      (try simp only [Act.put, List.getElem_toArray, List.getElem_cons_succ, List.getElem_cons_zero, List.setIfInBounds_toArray, List.set_cons_zero, List.set_cons_succ])
      generalize wx.alloc (.cells #[.int .i64 0, .int .i64 0, .int .i64 0, .int .i64 0, .int .i64 0, .int .i64 0, .int .i64 0] 3) = wy at *
      generalize wx.heap.size = g15 at *
      refine wpAnyH_take (i := 9) (oi := _) (v := ?_) rfl (by kernel_rfl) (by kernel_rfl) (by kernel_rfl) (fun _ _ _ h => h) (Or.inl ⟨by rfl, ?_⟩) trivial ?_
      rotate_left 1
      · (intro wq hSw; (try simp only [List.getElem_toArray, List.getElem_cons_succ, List.getElem_cons_zero]); go_simp; try with_reducible rfl)
      (try simp only [Act.put, List.getElem_toArray, List.getElem_cons_succ, List.getElem_cons_zero, List.setIfInBounds_toArray, List.set_cons_zero, List.set_cons_succ])
      have fin := unhide st12110 _ g8 g9 a1 c1 g12 g15 (hide s2)
      rw [unhide HF] at fin
      exact fin
    · have s2 := (unhide wS).aal (unhide HE).1 (unhide HE).2
      clear wS
      go_simp
      refine hK.out _ _ trivial (fun hHeld => ?_)
      clear hK K
      (try simp only [Act.put, List.getElem_toArray, List.getElem_cons_succ, List.getElem_cons_zero, List.setIfInBounds_toArray, List.set_cons_zero, List.set_cons_succ])
      generalize wx.alloc (.cells #[.int .i64 0, .int .i64 0, .int .i64 0, .slice none 0 0, .slice none 0 0, .int .i64 0, .slice none 0 0, .slice none 0 0, .slice none 0 0, .int .i64 0, .int .i64 0, .int .i64 0, .bool false] 42) = wy at *
      generalize wx.heap.size = nb at *
      have fin := unhide st12101 _ g8 g9 a1 c1 g12 nb (hide s2)
      rw [unhide HF] at fin
      exact fin
  have st00111 : Hid (∀ (wx : World) (g12 : Nat) (g15 : Nat) (nb : Nat) (wS : Hid (NSt w LO rb wx (.slice none 0 0) (.slice none 0 0) (.slice (some ⟨g12, 0, none⟩) 0 0) (.slice (some ⟨g15, 0, none⟩) 7 7) (.slice (some ⟨nb, 0, none⟩) 0 0) [] (List.replicate 7 0))), F 5 #[true, false, false, true, false, true, true, true, true, false, true, false] ⟨#[.int .i64 id, .slice a ms.length c, undef, undef, .pointer (some ⟨rb, 0, none⟩), .pointer (some ⟨nb, 0, none⟩), undef, .int .i64 id, undef, undef, .slice a ms.length c, undef, .slice (some ⟨g12, 0, none⟩) 0 0, .int .i64 id, .int .i64 (5 + id), .slice (some ⟨g15, 0, none⟩) 7 7, undef, undef, undef, undef, undef, undef, undef, undef, undef, undef, undef], []⟩ wx) := by
    clear st12111 st02111 st11111 st12011 st12101 st12110 st02011 st02101 st02110 st11011 st11101 st11110 st12001 st12010 st12100
    clear K0 R0
    refine hide ?_
    intro wx g12 g15 nb wS
    rw [unhide HF]
    refine wpAnyH_ready (rs := [1, 2]) (by kernel_rfl) (by simp) ?_
    refine AllReadyH.cons (o := _) rfl (fun K hK => ?_) (AllReadyH.cons (o := _) rfl (fun K hK => ?_) AllReadyH.nil)
    · have s2 := (unhide wS).a8 (unhide HE).1 (unhide HE).2
      clear wS
      go_simp
      refine hK.out _ _ trivial (fun hHeld => ?_)
      clear hK K
      (try simp only [Act.put, List.getElem_toArray, List.getElem_cons_succ, List.getElem_cons_zero, List.setIfInBounds_toArray, List.set_cons_zero, List.set_cons_succ])
      generalize wx.alloc (.cells #[] 102) = wy at *
      generalize wx.heap.size = g8 at *
      have fin := unhide st10111 _ g8 g12 g15 nb (hide s2)
      rw [unhide HF] at fin
      exact fin
    · have s2 := (unhide wS).a9 (unhide HE).1 (unhide HE).2
      clear wS
      go_simp
      refine hK.out _ _ trivial (fun hHeld => ?_)
      clear hK K
      (try simp only [Act.put, List.getElem_toArray, List.getElem_cons_succ, List.getElem_cons_zero, List.setIfInBounds_toArray, List.set_cons_zero, List.set_cons_succ])
      generalize wx.alloc (.cells #[] 3) = wy at *
      generalize wx.heap.size = g9 at *
      have fin := unhide st01111 _ g9 g12 g15 nb (hide s2)
      rw [unhide HF] at fin
      exact fin
  have st01011 : Hid (∀ (wx : World) (g9 : Nat) (g15 : Nat) (nb : Nat) (wS : Hid (NSt w LO rb wx (.slice none 0 0) (.slice (some ⟨g9, 0, none⟩) 0 0) (.slice none 0 0) (.slice (some ⟨g15, 0, none⟩) 7 7) (.slice (some ⟨nb, 0, none⟩) 0 0) [] (List.replicate 7 0))), F 5 #[true, false, true, true, false, false, true, true, true, false, true, false] ⟨#[.int .i64 id, .slice a ms.length c, undef, undef, .pointer (some ⟨rb, 0, none⟩), .pointer (some ⟨nb, 0, none⟩), undef, .int .i64 id, undef, .slice (some ⟨g9, 0, none⟩) 0 0, .slice a ms.length c, undef, undef, .int .i64 id, .int .i64 (5 + id), .slice (some ⟨g15, 0, none⟩) 7 7, undef, undef, undef, undef, undef, undef, undef, undef, undef, undef, undef], []⟩ wx) := by
    clear st12111 st02111 st11111 st12011 st12101 st12110 st02101 st02110 st10111 st11101 st11110 st12001 st12010 st12100 st00111
    clear K0 R0
    refine hide ?_
    intro wx g9 g15 nb wS
    rw [unhide HF]
    refine wpAnyH_ready (rs := [1, 4, 5]) (by kernel_rfl) (by simp) ?_
    refine AllReadyH.cons (o := _) rfl (fun K hK => ?_) (AllReadyH.cons (o := _) rfl (fun K hK => ?_) (AllReadyH.cons (o := _) rfl (fun K hK => ?_) AllReadyH.nil))
    · have s2 := (unhide wS).a8 (unhide HE).1 (unhide HE).2
      clear wS
      go_simp
      refine hK.out _ _ trivial (fun hHeld => ?_)
      clear hK K
      (try simp only [Act.put, List.getElem_toArray, List.getElem_cons_succ, List.getElem_cons_zero, List.setIfInBounds_toArray, List.set_cons_zero, List.set_cons_succ])
      generalize wx.alloc (.cells #[] 102) = wy at *
      generalize wx.heap.size = g8 at *
      have fin := unhide st11011 _ g8 g9 g15 nb (hide s2)
      rw [unhide HF] at fin
      exact fin
    · have hR := ((unhide HMS).below (unhide wS).K).rw
      refine step_append_row rfl _ _ _ rfl LO 3 i0 _ 1 8 Try.underlying34 hi hz0 hz1 hz2 rfl (by omega) (.slice (some ⟨g9, 0, none⟩) 0 0) 0 [] rfl (unhide wS).O11 (.slice a ms.length c) ms.length (ms.map (Value.int .i64)) rfl hR (by simp) (by intro u hu; simp only [List.mem_map] at hu; obtain ⟨s, _, rfl⟩ := hu; rfl) (by unfold maxLen; omega) (by omega) ((unhide wS).lo (unhide HE).1 (unhide HE).2) ?_
      intro a1 c1 wy hown1 hgrow1 hat1
      rw [Nat.zero_add] at hown1 hat1 ⊢
      have s2 := (unhide wS).app (unhide HE).1 (unhide HE).2 hown1 hgrow1 hat1
      clear hown1 hgrow1 hat1 hR wS
      refine hK.out _ _ trivial (fun hHeld => ?_)
      clear hK K
      (try simp only [Act.put, List.getElem_toArray, List.getElem_cons_succ, List.getElem_cons_zero, List.setIfInBounds_toArray, List.set_cons_zero, List.set_cons_succ])
      have fin := unhide st02011 _ g9 a1 c1 g15 nb (hide s2)
      rw [unhide HF] at fin
      exact fin
    · have s2 := (unhide wS).a12 (unhide HE).1 (unhide HE).2
      clear wS
      go_simp
      refine hK.out _ _ trivial (fun hHeld => ?_)
      clear hK K
      (try simp only [Act.put, List.getElem_toArray, List.getElem_cons_succ, List.getElem_cons_zero, List.setIfInBounds_toArray, List.set_cons_zero, List.set_cons_succ])
      generalize wx.alloc (.cells #[] 3) = wy at *
      generalize wx.heap.size = g12 at *
      have fin := unhide st01111 _ g9 g12 g15 nb (hide s2)
      rw [unhide HF] at fin
      exact fin
  have st01101 : Hid (∀ (wx : World) (g9 : Nat) (g12 : Nat) (nb : Nat) (wS : Hid (NSt w LO rb wx (.slice none 0 0) (.slice (some ⟨g9, 0, none⟩) 0 0) (.slice (some ⟨g12, 0, none⟩) 0 0) (.slice none 0 0) (.slice (some ⟨nb, 0, none⟩) 0 0) [] [])), F 5 #[true, false, true, true, false, true, true, true, false, false, true, false] ⟨#[.int .i64 id, .slice a ms.length c, undef, undef, .pointer (some ⟨rb, 0, none⟩), .pointer (some ⟨nb, 0, none⟩), undef, .int .i64 id, undef, .slice (some ⟨g9, 0, none⟩) 0 0, .slice a ms.length c, undef, .slice (some ⟨g12, 0, none⟩) 0 0, .int .i64 id, .int .i64 (5 + id), undef, undef, undef, undef, undef, undef, undef, undef, undef, undef, undef, undef], []⟩ wx) := by
    clear st12111 st02111 st11111 st12011 st12101 st12110 st02011 st02110 st10111 st11011 st11110 st12001 st12010 st12100 st00111 st01011
    clear K0 R0
    refine hide ?_
    intro wx g9 g12 nb wS
    rw [unhide HF]
    refine wpAnyH_ready (rs := [1, 4, 8]) (by kernel_rfl) (by simp) ?_
    refine AllReadyH.cons (o := _) rfl (fun K hK => ?_) (AllReadyH.cons (o := _) rfl (fun K hK => ?_) (AllReadyH.cons (o := _) rfl (fun K hK => ?_) AllReadyH.nil))
    · have s2 := (unhide wS).a8 (unhide HE).1 (unhide HE).2
      clear wS
      go_simp
      refine hK.out _ _ trivial (fun hHeld => ?_)
      clear hK K
      (try simp only [Act.put, List.getElem_toArray, List.getElem_cons_succ, List.getElem_cons_zero, List.setIfInBounds_toArray, List.set_cons_zero, List.set_cons_succ])
      generalize wx.alloc (.cells #[] 102) = wy at *
      generalize wx.heap.size = g8 at *
      have fin := unhide st11101 _ g8 g9 g12 nb (hide s2)
      rw [unhide HF] at fin
      exact fin
    · have hR := ((unhide HMS).below (unhide wS).K).rw
      refine step_append_row rfl _ _ _ rfl LO 3 i0 _ 1 8 Try.underlying34 hi hz0 hz1 hz2 rfl (by omega) (.slice (some ⟨g9, 0, none⟩) 0 0) 0 [] rfl (unhide wS).O11 (.slice a ms.length c) ms.length (ms.map (Value.int .i64)) rfl hR (by simp) (by intro u hu; simp only [List.mem_map] at hu; obtain ⟨s, _, rfl⟩ := hu; rfl) (by unfold maxLen; omega) (by omega) ((unhide wS).lo (unhide HE).1 (unhide HE).2) ?_
      intro a1 c1 wy hown1 hgrow1 hat1
      rw [Nat.zero_add] at hown1 hat1 ⊢
      have s2 := (unhide wS).app (unhide HE).1 (unhide HE).2 hown1 hgrow1 hat1
      clear hown1 hgrow1 hat1 hR wS
      refine hK.out _ _ trivial (fun hHeld => ?_)
      clear hK K
      (try simp only [Act.put, List.getElem_toArray, List.getElem_cons_succ, List.getElem_cons_zero, List.setIfInBounds_toArray, List.set_cons_zero, List.set_cons_succ])
      have fin := unhide st02101 _ g9 a1 c1 g12 nb (hide s2)
      rw [unhide HF] at fin
      exact fin
    · have s2 := (unhide wS).a15 (unhide HE).1 (unhide HE).2
      clear wS
      go_simp
      refine hK.out _ _ trivial (fun hHeld => ?_)
      clear hK K
      (try simp only [Act.put, List.getElem_toArray, List.getElem_cons_succ, List.getElem_cons_zero, List.setIfInBounds_toArray, List.set_cons_zero, List.set_cons_succ])
      generalize wx.alloc (.cells #[.int .i64 0, .int .i64 0, .int .i64 0, .int .i64 0, .int .i64 0, .int .i64 0, .int .i64 0] 3) = wy at *
      generalize wx.heap.size = g15 at *
      have fin := unhide st01111 _ g9 g12 g15 nb (hide s2)
      rw [unhide HF] at fin
      exact fin
  have st01110 : Hid (∀ (wx : World) (g9 : Nat) (g12 : Nat) (g15 : Nat) (wS : Hid (NSt w LO rb wx (.slice none 0 0) (.slice (some ⟨g9, 0, none⟩) 0 0) (.slice (some ⟨g12, 0, none⟩) 0 0) (.slice (some ⟨g15, 0, none⟩) 7 7) (.slice none 0 0) [] (List.replicate 7 0))), F 5 #[true, false, true, true, false, true, true, true, true, false, false, false] ⟨#[.int .i64 id, .slice a ms.length c, undef, undef, .pointer (some ⟨rb, 0, none⟩), undef, undef, .int .i64 id, undef, .slice (some ⟨g9, 0, none⟩) 0 0, .slice a ms.length c, undef, .slice (some ⟨g12, 0, none⟩) 0 0, .int .i64 id, .int .i64 (5 + id), .slice (some ⟨g15, 0, none⟩) 7 7, undef, undef, undef, undef, undef, undef, undef, undef, undef, undef, undef], []⟩ wx) := by
    clear st12111 st02111 st11111 st12011 st12101 st12110 st02011 st02101 st10111 st11011 st11101 st12001 st12010 st12100 st00111 st01011 st01101
    clear K0 R0
    refine hide ?_
    intro wx g9 g12 g15 wS
    rw [unhide HF]
    refine wpAnyH_ready (rs := [1, 4, 10]) (by kernel_rfl) (by simp) ?_
    refine AllReadyH.cons (o := _) rfl (fun K hK => ?_) (AllReadyH.cons (o := _) rfl (fun K hK => ?_) (AllReadyH.cons (o := _) rfl (fun K hK => ?_) AllReadyH.nil))
    · have s2 := (unhide wS).a8 (unhide HE).1 (unhide HE).2
      clear wS
      go_simp
      refine hK.out _ _ trivial (fun hHeld => ?_)
      clear hK K
      (try simp only [Act.put, List.getElem_toArray, List.getElem_cons_succ, List.getElem_cons_zero, List.setIfInBounds_toArray, List.set_cons_zero, List.set_cons_succ])
      generalize wx.alloc (.cells #[] 102) = wy at *
      generalize wx.heap.size = g8 at *
      have fin := unhide st11110 _ g8 g9 g12 g15 (hide s2)
      rw [unhide HF] at fin
      exact fin
    · have hR := ((unhide HMS).below (unhide wS).K).rw
      refine step_append_row rfl _ _ _ rfl LO 3 i0 _ 1 8 Try.underlying34 hi hz0 hz1 hz2 rfl (by omega) (.slice (some ⟨g9, 0, none⟩) 0 0) 0 [] rfl (unhide wS).O11 (.slice a ms.length c) ms.length (ms.map (Value.int .i64)) rfl hR (by simp) (by intro u hu; simp only [List.mem_map] at hu; obtain ⟨s, _, rfl⟩ := hu; rfl) (by unfold maxLen; omega) (by omega) ((unhide wS).lo (unhide HE).1 (unhide HE).2) ?_
      intro a1 c1 wy hown1 hgrow1 hat1
      rw [Nat.zero_add] at hown1 hat1 ⊢
      have s2 := (unhide wS).app (unhide HE).1 (unhide HE).2 hown1 hgrow1 hat1
      clear hown1 hgrow1 hat1 hR wS
      refine hK.out _ _ trivial (fun hHeld => ?_)
      clear hK K
      (try simp only [Act.put, List.getElem_toArray, List.getElem_cons_succ, List.getElem_cons_zero, List.setIfInBounds_toArray, List.set_cons_zero, List.set_cons_succ])
      have fin := unhide st02110 _ g9 a1 c1 g12 g15 (hide s2)
      rw [unhide HF] at fin
      exact fin
    · have s2 := (unhide wS).aal (unhide HE).1 (unhide HE).2
      clear wS
      go_simp
      refine hK.out _ _ trivial (fun hHeld => ?_)
      clear hK K
      (try simp only [Act.put, List.getElem_toArray, List.getElem_cons_succ, List.getElem_cons_zero, List.setIfInBounds_toArray, List.set_cons_zero, List.set_cons_succ])
      generalize wx.alloc (.cells #[.int .i64 0, .int .i64 0, .int .i64 0, .slice none 0 0, .slice none 0 0, .int .i64 0, .slice none 0 0, .slice none 0 0, .slice none 0 0, .int .i64 0, .int .i64 0, .int .i64 0, .bool false] 42) = wy at *
      generalize wx.heap.size = nb at *
      have fin := unhide st01111 _ g9 g12 g15 nb (hide s2)
      rw [unhide HF] at fin
      exact fin
  have st02001 : Hid (∀ (wx : World) (g9 : Nat) (a1 : Option Addr) (c1 : Nat) (nb : Nat) (wS : Hid (NSt w LO rb wx (.slice none 0 0) (.slice a1 ms.length c1) (.slice none 0 0) (.slice none 0 0) (.slice (some ⟨nb, 0, none⟩) 0 0) ms [])), F 5 #[true, false, true, true, true, false, true, true, false, false, true, false] ⟨#[.int .i64 id, .slice a ms.length c, undef, undef, .pointer (some ⟨rb, 0, none⟩), .pointer (some ⟨nb, 0, none⟩), undef, .int .i64 id, undef, .slice (some ⟨g9, 0, none⟩) 0 0, .slice a ms.length c, .slice a1 ms.length c1, undef, .int .i64 id, .int .i64 (5 + id), undef, undef, undef, undef, undef, undef, undef, undef, undef, undef, undef, undef], []⟩ wx) := by
    clear st12111 st02111 st11111 st12011 st12101 st12110 st01111 st02110 st10111 st11011 st11101 st11110 st12010 st12100 st00111 st01011 st01101 st01110
    clear K0 R0
    refine hide ?_
    intro wx g9 a1 c1 nb wS
    rw [unhide HF]
    refine wpAnyH_ready (rs := [1, 5, 8]) (by kernel_rfl) (by simp) ?_
    refine AllReadyH.cons (o := _) rfl (fun K hK => ?_) (AllReadyH.cons (o := _) rfl (fun K hK => ?_) (AllReadyH.cons (o := _) rfl (fun K hK => ?_) AllReadyH.nil))
    · have s2 := (unhide wS).a8 (unhide HE).1 (unhide HE).2
      clear wS
      go_simp
      refine hK.out _ _ trivial (fun hHeld => ?_)
      clear hK K
      (try simp only [Act.put, List.getElem_toArray, List.getElem_cons_succ, List.getElem_cons_zero, List.setIfInBounds_toArray, List.set_cons_zero, List.set_cons_succ])
      generalize wx.alloc (.cells #[] 102) = wy at *
      generalize wx.heap.size = g8 at *
      have fin := unhide st12001 _ g8 g9 a1 c1 nb (hide s2)
      rw [unhide HF] at fin
      exact fin
    · have s2 := (unhide wS).a12 (unhide HE).1 (unhide HE).2
      clear wS
      go_simp
      refine hK.out _ _ trivial (fun hHeld => ?_)
      clear hK K
      (try simp only [Act.put, List.getElem_toArray, List.getElem_cons_succ, List.getElem_cons_zero, List.setIfInBounds_toArray, List.set_cons_zero, List.set_cons_succ])
      generalize wx.alloc (.cells #[] 3) = wy at *
      generalize wx.heap.size = g12 at *
      have fin := unhide st02101 _ g9 a1 c1 g12 nb (hide s2)
      rw [unhide HF] at fin
      exact fin
    · have s2 := (unhide wS).a15 (unhide HE).1 (unhide HE).2
      clear wS
      go_simp
      refine hK.out _ _ trivial (fun hHeld => ?_)
      clear hK K
      (try simp only [Act.put, List.getElem_toArray, List.getElem_cons_succ, List.getElem_cons_zero, List.setIfInBounds_toArray, List.set_cons_zero, List.set_cons_succ])
      generalize wx.alloc (.cells #[.int .i64 0, .int .i64 0, .int .i64 0, .int .i64 0, .int .i64 0, .int .i64 0, .int .i64 0] 3) = wy at *
      generalize wx.heap.size = g15 at *
      have fin := unhide st02011 _ g9 a1 c1 g15 nb (hide s2)
      rw [unhide HF] at fin
      exact fin
  have st02010 : Hid (∀ (wx : World) (g9 : Nat) (a1 : Option Addr) (c1 : Nat) (g15 : Nat) (wS : Hid (NSt w LO rb wx (.slice none 0 0) (.slice a1 ms.length c1) (.slice none 0 0) (.slice (some ⟨g15, 0, none⟩) 7 7) (.slice none 0 0) ms (List.replicate 7 0))), F 5 #[true, false, true, true, true, false, true, true, true, false, false, false] ⟨#[.int .i64 id, .slice a ms.length c, undef, undef, .pointer (some ⟨rb, 0, none⟩), undef, undef, .int .i64 id, undef, .slice (some ⟨g9, 0, none⟩) 0 0, .slice a ms.length c, .slice a1 ms.length c1, undef, .int .i64 id, .int .i64 (5 + id), .slice (some ⟨g15, 0, none⟩) 7 7, undef, undef, undef, undef, undef, undef, undef, undef, undef, undef, undef], []⟩ wx) := by
    clear st12111 st02111 st11111 st12011 st12101 st12110 st01111 st02101 st10111 st11011 st11101 st11110 st12001 st12100 st00111 st01011 st01101 st01110 st02001
    clear K0 R0
    refine hide ?_
    intro wx g9 a1 c1 g15 wS
    rw [unhide HF]
    refine wpAnyH_ready (rs := [1, 5, 10]) (by kernel_rfl) (by simp) ?_
    refine AllReadyH.cons (o := _) rfl (fun K hK => ?_) (AllReadyH.cons (o := _) rfl (fun K hK => ?_) (AllReadyH.cons (o := _) rfl (fun K hK => ?_) AllReadyH.nil))
    · have s2 := (unhide wS).a8 (unhide HE).1 (unhide HE).2
      clear wS
      go_simp
      refine hK.out _ _ trivial (fun hHeld => ?_)
      clear hK K
      (try simp only [Act.put, List.getElem_toArray, List.getElem_cons_succ, List.getElem_cons_zero, List.setIfInBounds_toArray, List.set_cons_zero, List.set_cons_succ])
      generalize wx.alloc (.cells #[] 102) = wy at *
      generalize wx.heap.size = g8 at *
      have fin := unhide st12010 _ g8 g9 a1 c1 g15 (hide s2)
      rw [unhide HF] at fin
      exact fin
    · have s2 := (unhide wS).a12 (unhide HE).1 (unhide HE).2
      clear wS
      go_simp
      refine hK.out _ _ trivial (fun hHeld => ?_)
      clear hK K
      (try simp only [Act.put, List.getElem_toArray, List.getElem_cons_succ, List.getElem_cons_zero, List.setIfInBounds_toArray, List.set_cons_zero, List.set_cons_succ])
      generalize wx.alloc (.cells #[] 3) = wy at *
      generalize wx.heap.size = g12 at *
      have fin := unhide st02110 _ g9 a1 c1 g12 g15 (hide s2)
      rw [unhide HF] at fin
      exact fin
    · have s2 := (unhide wS).aal (unhide HE).1 (unhide HE).2
      clear wS
      go_simp
      refine hK.out _ _ trivial (fun hHeld => ?_)
      clear hK K
      (try simp only [Act.put, List.getElem_toArray, List.getElem_cons_succ, List.getElem_cons_zero, List.setIfInBounds_toArray, List.set_cons_zero, List.set_cons_succ])
      generalize wx.alloc (.cells #[.int .i64 0, .int .i64 0, .int .i64 0, .slice none 0 0, .slice none 0 0, .int .i64 0, .slice none 0 0, .slice none 0 0, .slice none 0 0, .int .i64 0, .int .i64 0, .int .i64 0, .bool false] 42) = wy at *
      generalize wx.heap.size = nb at *
      have fin := unhide st02011 _ g9 a1 c1 g15 nb (hide s2)
      rw [unhide HF] at fin
      exact fin
  have st02100 : Hid (∀ (wx : World) (g9 : Nat) (a1 : Option Addr) (c1 : Nat) (g12 : Nat) (wS : Hid (NSt w LO rb wx (.slice none 0 0) (.slice a1 ms.length c1) (.slice (some ⟨g12, 0, none⟩) 0 0) (.slice none 0 0) (.slice none 0 0) ms [])), F 5 #[true, false, true, true, true, true, true, true, false, false, false, false] ⟨#[.int .i64 id, .slice a ms.length c, undef, undef, .pointer (some ⟨rb, 0, none⟩), undef, undef, .int .i64 id, undef, .slice (some ⟨g9, 0, none⟩) 0 0, .slice a ms.length c, .slice a1 ms.length c1, .slice (some ⟨g12, 0, none⟩) 0 0, .int .i64 id, .int .i64 (5 + id), undef, undef, undef, undef, undef, undef, undef, undef, undef, undef, undef, undef], []⟩ wx) := by
    clear st12111 st02111 st11111 st12011 st12101 st12110 st01111 st02011 st10111 st11011 st11101 st11110 st12001 st12010 st00111 st01011 st01101 st01110 st02001 st02010
    clear K0 R0
    refine hide ?_
    intro wx g9 a1 c1 g12 wS
    rw [unhide HF]
    refine wpAnyH_ready (rs := [1, 8, 10]) (by kernel_rfl) (by simp) ?_
    refine AllReadyH.cons (o := _) rfl (fun K hK => ?_) (AllReadyH.cons (o := _) rfl (fun K hK => ?_) (AllReadyH.cons (o := _) rfl (fun K hK => ?_) AllReadyH.nil))
    · have s2 := (unhide wS).a8 (unhide HE).1 (unhide HE).2
      clear wS
      go_simp
      refine hK.out _ _ trivial (fun hHeld => ?_)
      clear hK K
      (try simp only [Act.put, List.getElem_toArray, List.getElem_cons_succ, List.getElem_cons_zero, List.setIfInBounds_toArray, List.set_cons_zero, List.set_cons_succ])
      generalize wx.alloc (.cells #[] 102) = wy at *
      generalize wx.heap.size = g8 at *
      have fin := unhide st12100 _ g8 g9 a1 c1 g12 (hide s2)
      rw [unhide HF] at fin
      exact fin
    · have s2 := (unhide wS).a15 (unhide HE).1 (unhide HE).2
      clear wS
      go_simp
      refine hK.out _ _ trivial (fun hHeld => ?_)
      clear hK K
      (try simp only [Act.put, List.getElem_toArray, List.getElem_cons_succ, List.getElem_cons_zero, List.setIfInBounds_toArray, List.set_cons_zero, List.set_cons_succ])
      generalize wx.alloc (.cells #[.int .i64 0, .int .i64 0, .int .i64 0, .int .i64 0, .int .i64 0, .int .i64 0, .int .i64 0] 3) = wy at *
      generalize wx.heap.size = g15 at *
      have fin := unhide st02110 _ g9 a1 c1 g12 g15 (hide s2)
      rw [unhide HF] at fin
      exact fin
    · have s2 := (unhide wS).aal (unhide HE).1 (unhide HE).2
      clear wS
      go_simp
      refine hK.out _ _ trivial (fun hHeld => ?_)
      clear hK K
      (try simp only [Act.put, List.getElem_toArray, List.getElem_cons_succ, List.getElem_cons_zero, List.setIfInBounds_toArray, List.set_cons_zero, List.set_cons_succ])
      generalize wx.alloc (.cells #[.int .i64 0, .int .i64 0, .int .i64 0, .slice none 0 0, .slice none 0 0, .int .i64 0, .slice none 0 0, .slice none 0 0, .slice none 0 0, .int .i64 0, .int .i64 0, .int .i64 0, .bool false] 42) = wy at *
      generalize wx.heap.size = nb at *
      have fin := unhide st02101 _ g9 a1 c1 g12 nb (hide s2)
      rw [unhide HF] at fin
      exact fin
  have st10011 : Hid (∀ (wx : World) (g8 : Nat) (g15 : Nat) (nb : Nat) (wS : Hid (NSt w LO rb wx (.slice (some ⟨g8, 0, none⟩) 0 0) (.slice none 0 0) (.slice none 0 0) (.slice (some ⟨g15, 0, none⟩) 7 7) (.slice (some ⟨nb, 0, none⟩) 0 0) [] (List.replicate 7 0))), F 5 #[true, true, false, true, false, false, true, true, true, false, true, false] ⟨#[.int .i64 id, .slice a ms.length c, undef, undef, .pointer (some ⟨rb, 0, none⟩), .pointer (some ⟨nb, 0, none⟩), undef, .int .i64 id, .slice (some ⟨g8, 0, none⟩) 0 0, undef, .slice a ms.length c, undef, undef, .int .i64 id, .int .i64 (5 + id), .slice (some ⟨g15, 0, none⟩) 7 7, undef, undef, undef, undef, undef, undef, undef, undef, undef, undef, undef], []⟩ wx) := by
    clear st12111 st02111 st11111 st12011 st12101 st12110 st01111 st02011 st02101 st02110 st11101 st11110 st12001 st12010 st12100 st00111 st01011 st01101 st01110 st02001 st02010 st02100
    clear K0 R0
    refine hide ?_
    intro wx g8 g15 nb wS
    rw [unhide HF]
    refine wpAnyH_ready (rs := [2, 5]) (by kernel_rfl) (by simp) ?_
    refine AllReadyH.cons (o := _) rfl (fun K hK => ?_) (AllReadyH.cons (o := _) rfl (fun K hK => ?_) AllReadyH.nil)
    · have s2 := (unhide wS).a9 (unhide HE).1 (unhide HE).2
      clear wS
      go_simp
      refine hK.out _ _ trivial (fun hHeld => ?_)
      clear hK K
      (try simp only [Act.put, List.getElem_toArray, List.getElem_cons_succ, List.getElem_cons_zero, List.setIfInBounds_toArray, List.set_cons_zero, List.set_cons_succ])
      generalize wx.alloc (.cells #[] 3) = wy at *
      generalize wx.heap.size = g9 at *
      have fin := unhide st11011 _ g8 g9 g15 nb (hide s2)
      rw [unhide HF] at fin
      exact fin
    · have s2 := (unhide wS).a12 (unhide HE).1 (unhide HE).2
      clear wS
      go_simp
      refine hK.out _ _ trivial (fun hHeld => ?_)
      clear hK K
      (try simp only [Act.put, List.getElem_toArray, List.getElem_cons_succ, List.getElem_cons_zero, List.setIfInBounds_toArray, List.set_cons_zero, List.set_cons_succ])
      generalize wx.alloc (.cells #[] 3) = wy at *
      generalize wx.heap.size = g12 at *
      have fin := unhide st10111 _ g8 g12 g15 nb (hide s2)
      rw [unhide HF] at fin
      exact fin
  have st10101 : Hid (∀ (wx : World) (g8 : Nat) (g12 : Nat) (nb : Nat) (wS : Hid (NSt w LO rb wx (.slice (some ⟨g8, 0, none⟩) 0 0) (.slice none 0 0) (.slice (some ⟨g12, 0, none⟩) 0 0) (.slice none 0 0) (.slice (some ⟨nb, 0, none⟩) 0 0) [] [])), F 5 #[true, true, false, true, false, true, true, true, false, false, true, false] ⟨#[.int .i64 id, .slice a ms.length c, undef, undef, .pointer (some ⟨rb, 0, none⟩), .pointer (some ⟨nb, 0, none⟩), undef, .int .i64 id, .slice (some ⟨g8, 0, none⟩) 0 0, undef, .slice a ms.length c, undef, .slice (some ⟨g12, 0, none⟩) 0 0, .int .i64 id, .int .i64 (5 + id), undef, undef, undef, undef, undef, undef, undef, undef, undef, undef, undef, undef], []⟩ wx) := by
    clear st12111 st02111 st11111 st12011 st12101 st12110 st01111 st02011 st02101 st02110 st11011 st11110 st12001 st12010 st12100 st00111 st01011 st01101 st01110 st02001 st02010 st02100 st10011
    clear K0 R0
    refine hide ?_
    intro wx g8 g12 nb wS
    rw [unhide HF]
    refine wpAnyH_ready (rs := [2, 8]) (by kernel_rfl) (by simp) ?_
    refine AllReadyH.cons (o := _) rfl (fun K hK => ?_) (AllReadyH.cons (o := _) rfl (fun K hK => ?_) AllReadyH.nil)
    · have s2 := (unhide wS).a9 (unhide HE).1 (unhide HE).2
      clear wS
      go_simp
      refine hK.out _ _ trivial (fun hHeld => ?_)
      clear hK K
      (try simp only [Act.put, List.getElem_toArray, List.getElem_cons_succ, List.getElem_cons_zero, List.setIfInBounds_toArray, List.set_cons_zero, List.set_cons_succ])
      generalize wx.alloc (.cells #[] 3) = wy at *
      generalize wx.heap.size = g9 at *
      have fin := unhide st11101 _ g8 g9 g12 nb (hide s2)
      rw [unhide HF] at fin
      exact fin
    · have s2 := (unhide wS).a15 (unhide HE).1 (unhide HE).2
      clear wS
      go_simp
      refine hK.out _ _ trivial (fun hHeld => ?_)
      clear hK K
      (try simp only [Act.put, List.getElem_toArray, List.getElem_cons_succ, List.getElem_cons_zero, List.setIfInBounds_toArray, List.set_cons_zero, List.set_cons_succ])
      generalize wx.alloc (.cells #[.int .i64 0, .int .i64 0, .int .i64 0, .int .i64 0, .int .i64 0, .int .i64 0, .int .i64 0] 3) = wy at *
      generalize wx.heap.size = g15 at *
      have fin := unhide st10111 _ g8 g12 g15 nb (hide s2)
      rw [unhide HF] at fin
      exact fin
  have st10110 : Hid (∀ (wx : World) (g8 : Nat) (g12 : Nat) (g15 : Nat) (wS : Hid (NSt w LO rb wx (.slice (some ⟨g8, 0, none⟩) 0 0) (.slice none 0 0) (.slice (some ⟨g12, 0, none⟩) 0 0) (.slice (some ⟨g15, 0, none⟩) 7 7) (.slice none 0 0) [] (List.replicate 7 0))), F 5 #[true, true, false, true, false, true, true, true, true, false, false, false] ⟨#[.int .i64 id, .slice a ms.length c, undef, undef, .pointer (some ⟨rb, 0, none⟩), undef, undef, .int .i64 id, .slice (some ⟨g8, 0, none⟩) 0 0, undef, .slice a ms.length c, undef, .slice (some ⟨g12, 0, none⟩) 0 0, .int .i64 id, .int .i64 (5 + id), .slice (some ⟨g15, 0, none⟩) 7 7, undef, undef, undef, undef, undef, undef, undef, undef, undef, undef, undef], []⟩ wx) := by
    clear st12111 st02111 st11111 st12011 st12101 st12110 st01111 st02011 st02101 st02110 st11011 st11101 st12001 st12010 st12100 st00111 st01011 st01101 st01110 st02001 st02010 st02100 st10011 st10101
    clear K0 R0
    refine hide ?_
    intro wx g8 g12 g15 wS
    rw [unhide HF]
    refine wpAnyH_ready (rs := [2, 10]) (by kernel_rfl) (by simp) ?_
    refine AllReadyH.cons (o := _) rfl (fun K hK => ?_) (AllReadyH.cons (o := _) rfl (fun K hK => ?_) AllReadyH.nil)
    · have s2 := (unhide wS).a9 (unhide HE).1 (unhide HE).2
      clear wS
      go_simp
      refine hK.out _ _ trivial (fun hHeld => ?_)
      clear hK K
      (try simp only [Act.put, List.getElem_toArray, List.getElem_cons_succ, List.getElem_cons_zero, List.setIfInBounds_toArray, List.set_cons_zero, List.set_cons_succ])
      generalize wx.alloc (.cells #[] 3) = wy at *
      generalize wx.heap.size = g9 at *
      have fin := unhide st11110 _ g8 g9 g12 g15 (hide s2)
      rw [unhide HF] at fin
      exact fin
    · have s2 := (unhide wS).aal (unhide HE).1 (unhide HE).2
      clear wS
      go_simp
      refine hK.out _ _ trivial (fun hHeld => ?_)
      clear hK K
      (try simp only [Act.put, List.getElem_toArray, List.getElem_cons_succ, List.getElem_cons_zero, List.setIfInBounds_toArray, List.set_cons_zero, List.set_cons_succ])
      generalize wx.alloc (.cells #[.int .i64 0, .int .i64 0, .int .i64 0, .slice none 0 0, .slice none 0 0, .int .i64 0, .slice none 0 0, .slice none 0 0, .slice none 0 0, .int .i64 0, .int .i64 0, .int .i64 0, .bool false] 42) = wy at *
      generalize wx.heap.size = nb at *
      have fin := unhide st10111 _ g8 g12 g15 nb (hide s2)
      rw [unhide HF] at fin
      exact fin
  have st11001 : Hid (∀ (wx : World) (g8 : Nat) (g9 : Nat) (nb : Nat) (wS : Hid (NSt w LO rb wx (.slice (some ⟨g8, 0, none⟩) 0 0) (.slice (some ⟨g9, 0, none⟩) 0 0) (.slice none 0 0) (.slice none 0 0) (.slice (some ⟨nb, 0, none⟩) 0 0) [] [])), F 5 #[true, true, true, true, false, false, true, true, false, false, true, false] ⟨#[.int .i64 id, .slice a ms.length c, undef, undef, .pointer (some ⟨rb, 0, none⟩), .pointer (some ⟨nb, 0, none⟩), undef, .int .i64 id, .slice (some ⟨g8, 0, none⟩) 0 0, .slice (some ⟨g9, 0, none⟩) 0 0, .slice a ms.length c, undef, undef, .int .i64 id, .int .i64 (5 + id), undef, undef, undef, undef, undef, undef, undef, undef, undef, undef, undef, undef], []⟩ wx) := by
    clear st12111 st02111 st11111 st12011 st12101 st12110 st01111 st02011 st02101 st02110 st10111 st11110 st12010 st12100 st00111 st01011 st01101 st01110 st02001 st02010 st02100 st10011 st10101 st10110
    clear K0 R0
    refine hide ?_
    intro wx g8 g9 nb wS
    rw [unhide HF]
    refine wpAnyH_ready (rs := [4, 5, 8]) (by kernel_rfl) (by simp) ?_
    refine AllReadyH.cons (o := _) rfl (fun K hK => ?_) (AllReadyH.cons (o := _) rfl (fun K hK => ?_) (AllReadyH.cons (o := _) rfl (fun K hK => ?_) AllReadyH.nil))
    · have hR := ((unhide HMS).below (unhide wS).K).rw
      refine step_append_row rfl _ _ _ rfl LO 3 i0 _ 1 8 Try.underlying34 hi hz0 hz1 hz2 rfl (by omega) (.slice (some ⟨g9, 0, none⟩) 0 0) 0 [] rfl (unhide wS).O11 (.slice a ms.length c) ms.length (ms.map (Value.int .i64)) rfl hR (by simp) (by intro u hu; simp only [List.mem_map] at hu; obtain ⟨s, _, rfl⟩ := hu; rfl) (by unfold maxLen; omega) (by omega) ((unhide wS).lo (unhide HE).1 (unhide HE).2) ?_
      intro a1 c1 wy hown1 hgrow1 hat1
      rw [Nat.zero_add] at hown1 hat1 ⊢
      have s2 := (unhide wS).app (unhide HE).1 (unhide HE).2 hown1 hgrow1 hat1
      clear hown1 hgrow1 hat1 hR wS
      refine hK.out _ _ trivial (fun hHeld => ?_)
      clear hK K
      (try simp only [Act.put, List.getElem_toArray, List.getElem_cons_succ, List.getElem_cons_zero, List.setIfInBounds_toArray, List.set_cons_zero, List.set_cons_succ])
      have fin := unhide st12001 _ g8 g9 a1 c1 nb (hide s2)
      rw [unhide HF] at fin
      exact fin
    · have s2 := (unhide wS).a12 (unhide HE).1 (unhide HE).2
      clear wS
      go_simp
      refine hK.out _ _ trivial (fun hHeld => ?_)
      clear hK K
      (try simp only [Act.put, List.getElem_toArray, List.getElem_cons_succ, List.getElem_cons_zero, List.setIfInBounds_toArray, List.set_cons_zero, List.set_cons_succ])
      generalize wx.alloc (.cells #[] 3) = wy at *
      generalize wx.heap.size = g12 at *
      have fin := unhide st11101 _ g8 g9 g12 nb (hide s2)
      rw [unhide HF] at fin
      exact fin
    · have s2 := (unhide wS).a15 (unhide HE).1 (unhide HE).2
      clear wS
      go_simp
      refine hK.out _ _ trivial (fun hHeld => ?_)
      clear hK K
      (try simp only [Act.put, List.getElem_toArray, List.getElem_cons_succ, List.getElem_cons_zero, List.setIfInBounds_toArray, List.set_cons_zero, List.set_cons_succ])
      generalize wx.alloc (.cells #[.int .i64 0, .int .i64 0, .int .i64 0, .int .i64 0, .int .i64 0, .int .i64 0, .int .i64 0] 3) = wy at *
      generalize wx.heap.size = g15 at *
      have fin := unhide st11011 _ g8 g9 g15 nb (hide s2)
      rw [unhide HF] at fin
      exact fin
  have st11010 : Hid (∀ (wx : World) (g8 : Nat) (g9 : Nat) (g15 : Nat) (wS : Hid (NSt w LO rb wx (.slice (some ⟨g8, 0, none⟩) 0 0) (.slice (some ⟨g9, 0, none⟩) 0 0) (.slice none 0 0) (.slice (some ⟨g15, 0, none⟩) 7 7) (.slice none 0 0) [] (List.replicate 7 0))), F 5 #[true, true, true, true, false, false, true, true, true, false, false, false] ⟨#[.int .i64 id, .slice a ms.length c, undef, undef, .pointer (some ⟨rb, 0, none⟩), undef, undef, .int .i64 id, .slice (some ⟨g8, 0, none⟩) 0 0, .slice (some ⟨g9, 0, none⟩) 0 0, .slice a ms.length c, undef, undef, .int .i64 id, .int .i64 (5 + id), .slice (some ⟨g15, 0, none⟩) 7 7, undef, undef, undef, undef, undef, undef, undef, undef, undef, undef, undef], []⟩ wx) := by
    clear st12111 st02111 st11111 st12011 st12101 st12110 st01111 st02011 st02101 st02110 st10111 st11101 st12001 st12100 st00111 st01011 st01101 st01110 st02001 st02010 st02100 st10011 st10101 st10110 st11001
    clear K0 R0
    refine hide ?_
    intro wx g8 g9 g15 wS
    rw [unhide HF]
    refine wpAnyH_ready (rs := [4, 5, 10]) (by kernel_rfl) (by simp) ?_
    refine AllReadyH.cons (o := _) rfl (fun K hK => ?_) (AllReadyH.cons (o := _) rfl (fun K hK => ?_) (AllReadyH.cons (o := _) rfl (fun K hK => ?_) AllReadyH.nil))
    · have hR := ((unhide HMS).below (unhide wS).K).rw
      refine step_append_row rfl _ _ _ rfl LO 3 i0 _ 1 8 Try.underlying34 hi hz0 hz1 hz2 rfl (by omega) (.slice (some ⟨g9, 0, none⟩) 0 0) 0 [] rfl (unhide wS).O11 (.slice a ms.length c) ms.length (ms.map (Value.int .i64)) rfl hR (by simp) (by intro u hu; simp only [List.mem_map] at hu; obtain ⟨s, _, rfl⟩ := hu; rfl) (by unfold maxLen; omega) (by omega) ((unhide wS).lo (unhide HE).1 (unhide HE).2) ?_
      intro a1 c1 wy hown1 hgrow1 hat1
      rw [Nat.zero_add] at hown1 hat1 ⊢
      have s2 := (unhide wS).app (unhide HE).1 (unhide HE).2 hown1 hgrow1 hat1
      clear hown1 hgrow1 hat1 hR wS
      refine hK.out _ _ trivial (fun hHeld => ?_)
      clear hK K
      (try simp only [Act.put, List.getElem_toArray, List.getElem_cons_succ, List.getElem_cons_zero, List.setIfInBounds_toArray, List.set_cons_zero, List.set_cons_succ])
      have fin := unhide st12010 _ g8 g9 a1 c1 g15 (hide s2)
      rw [unhide HF] at fin
      exact fin
    · have s2 := (unhide wS).a12 (unhide HE).1 (unhide HE).2
      clear wS
      go_simp
      refine hK.out _ _ trivial (fun hHeld => ?_)
      clear hK K
      (try simp only [Act.put, List.getElem_toArray, List.getElem_cons_succ, List.getElem_cons_zero, List.setIfInBounds_toArray, List.set_cons_zero, List.set_cons_succ])
      generalize wx.alloc (.cells #[] 3) = wy at *
      generalize wx.heap.size = g12 at *
      have fin := unhide st11110 _ g8 g9 g12 g15 (hide s2)
      rw [unhide HF] at fin
      exact fin
    · have s2 := (unhide wS).aal (unhide HE).1 (unhide HE).2
      clear wS
      go_simp
      refine hK.out _ _ trivial (fun hHeld => ?_)
      clear hK K
      (try simp only [Act.put, List.getElem_toArray, List.getElem_cons_succ, List.getElem_cons_zero, List.setIfInBounds_toArray, List.set_cons_zero, List.set_cons_succ])
      generalize wx.alloc (.cells #[.int .i64 0, .int .i64 0, .int .i64 0, .slice none 0 0, .slice none 0 0, .int .i64 0, .slice none 0 0, .slice none 0 0, .slice none 0 0, .int .i64 0, .int .i64 0, .int .i64 0, .bool false] 42) = wy at *
      generalize wx.heap.size = nb at *
      have fin := unhide st11011 _ g8 g9 g15 nb (hide s2)
      rw [unhide HF] at fin
      exact fin
  have st11100 : Hid (∀ (wx : World) (g8 : Nat) (g9 : Nat) (g12 : Nat) (wS : Hid (NSt w LO rb wx (.slice (some ⟨g8, 0, none⟩) 0 0) (.slice (some ⟨g9, 0, none⟩) 0 0) (.slice (some ⟨g12, 0, none⟩) 0 0) (.slice none 0 0) (.slice none 0 0) [] [])), F 5 #[true, true, true, true, false, true, true, true, false, false, false, false] ⟨#[.int .i64 id, .slice a ms.length c, undef, undef, .pointer (some ⟨rb, 0, none⟩), undef, undef, .int .i64 id, .slice (some ⟨g8, 0, none⟩) 0 0, .slice (some ⟨g9, 0, none⟩) 0 0, .slice a ms.length c, undef, .slice (some ⟨g12, 0, none⟩) 0 0, .int .i64 id, .int .i64 (5 + id), undef, undef, undef, undef, undef, undef, undef, undef, undef, undef, undef, undef], []⟩ wx) := by
    clear st12111 st02111 st11111 st12011 st12101 st12110 st01111 st02011 st02101 st02110 st10111 st11011 st12001 st12010 st00111 st01011 st01101 st01110 st02001 st02010 st02100 st10011 st10101 st10110 st11001 st11010
    clear K0 R0
    refine hide ?_
    intro wx g8 g9 g12 wS
    rw [unhide HF]
    refine wpAnyH_ready (rs := [4, 8, 10]) (by kernel_rfl) (by simp) ?_
    refine AllReadyH.cons (o := _) rfl (fun K hK => ?_) (AllReadyH.cons (o := _) rfl (fun K hK => ?_) (AllReadyH.cons (o := _) rfl (fun K hK => ?_) AllReadyH.nil))
    · have hR := ((unhide HMS).below (unhide wS).K).rw
      refine step_append_row rfl _ _ _ rfl LO 3 i0 _ 1 8 Try.underlying34 hi hz0 hz1 hz2 rfl (by omega) (.slice (some ⟨g9, 0, none⟩) 0 0) 0 [] rfl (unhide wS).O11 (.slice a ms.length c) ms.length (ms.map (Value.int .i64)) rfl hR (by simp) (by intro u hu; simp only [List.mem_map] at hu; obtain ⟨s, _, rfl⟩ := hu; rfl) (by unfold maxLen; omega) (by omega) ((unhide wS).lo (unhide HE).1 (unhide HE).2) ?_
      intro a1 c1 wy hown1 hgrow1 hat1
      rw [Nat.zero_add] at hown1 hat1 ⊢
      have s2 := (unhide wS).app (unhide HE).1 (unhide HE).2 hown1 hgrow1 hat1
      clear hown1 hgrow1 hat1 hR wS
      refine hK.out _ _ trivial (fun hHeld => ?_)
      clear hK K
      (try simp only [Act.put, List.getElem_toArray, List.getElem_cons_succ, List.getElem_cons_zero, List.setIfInBounds_toArray, List.set_cons_zero, List.set_cons_succ])
      have fin := unhide st12100 _ g8 g9 a1 c1 g12 (hide s2)
      rw [unhide HF] at fin
      exact fin
    · have s2 := (unhide wS).a15 (unhide HE).1 (unhide HE).2
      clear wS
      go_simp
      refine hK.out _ _ trivial (fun hHeld => ?_)
      clear hK K
      (try simp only [Act.put, List.getElem_toArray, List.getElem_cons_succ, List.getElem_cons_zero, List.setIfInBounds_toArray, List.set_cons_zero, List.set_cons_succ])
      generalize wx.alloc (.cells #[.int .i64 0, .int .i64 0, .int .i64 0, .int .i64 0, .int .i64 0, .int .i64 0, .int .i64 0] 3) = wy at *
      generalize wx.heap.size = g15 at *
      have fin := unhide st11110 _ g8 g9 g12 g15 (hide s2)
      rw [unhide HF] at fin
      exact fin
    · have s2 := (unhide wS).aal (unhide HE).1 (unhide HE).2
      clear wS
      go_simp
      refine hK.out _ _ trivial (fun hHeld => ?_)
      clear hK K
      (try simp only [Act.put, List.getElem_toArray, List.getElem_cons_succ, List.getElem_cons_zero, List.setIfInBounds_toArray, List.set_cons_zero, List.set_cons_succ])
      generalize wx.alloc (.cells #[.int .i64 0, .int .i64 0, .int .i64 0, .slice none 0 0, .slice none 0 0, .int .i64 0, .slice none 0 0, .slice none 0 0, .slice none 0 0, .int .i64 0, .int .i64 0, .int .i64 0, .bool false] 42) = wy at *
      generalize wx.heap.size = nb at *
      have fin := unhide st11101 _ g8 g9 g12 nb (hide s2)
      rw [unhide HF] at fin
      exact fin
  have st12000 : Hid (∀ (wx : World) (g8 : Nat) (g9 : Nat) (a1 : Option Addr) (c1 : Nat) (wS : Hid (NSt w LO rb wx (.slice (some ⟨g8, 0, none⟩) 0 0) (.slice a1 ms.length c1) (.slice none 0 0) (.slice none 0 0) (.slice none 0 0) ms [])), F 5 #[true, true, true, true, true, false, true, true, false, false, false, false] ⟨#[.int .i64 id, .slice a ms.length c, undef, undef, .pointer (some ⟨rb, 0, none⟩), undef, undef, .int .i64 id, .slice (some ⟨g8, 0, none⟩) 0 0, .slice (some ⟨g9, 0, none⟩) 0 0, .slice a ms.length c, .slice a1 ms.length c1, undef, .int .i64 id, .int .i64 (5 + id), undef, undef, undef, undef, undef, undef, undef, undef, undef, undef, undef, undef], []⟩ wx) := by
    clear st12111 st02111 st11111 st12011 st12101 st12110 st01111 st02011 st02101 st02110 st10111 st11011 st11101 st11110 st00111 st01011 st01101 st01110 st02001 st02010 st02100 st10011 st10101 st10110 st11001 st11010 st11100
    clear K0 R0
    refine hide ?_
    intro wx g8 g9 a1 c1 wS
    rw [unhide HF]
    refine wpAnyH_ready (rs := [5, 8, 10]) (by kernel_rfl) (by simp) ?_
    refine AllReadyH.cons (o := _) rfl (fun K hK => ?_) (AllReadyH.cons (o := _) rfl (fun K hK => ?_) (AllReadyH.cons (o := _) rfl (fun K hK => ?_) AllReadyH.nil))
    · have s2 := (unhide wS).a12 (unhide HE).1 (unhide HE).2
      clear wS
      go_simp
      refine hK.out _ _ trivial (fun hHeld => ?_)
      clear hK K
      (try simp only [Act.put, List.getElem_toArray, List.getElem_cons_succ, List.getElem_cons_zero, List.setIfInBounds_toArray, List.set_cons_zero, List.set_cons_succ])
      generalize wx.alloc (.cells #[] 3) = wy at *
      generalize wx.heap.size = g12 at *
      have fin := unhide st12100 _ g8 g9 a1 c1 g12 (hide s2)
      rw [unhide HF] at fin
      exact fin
    · have s2 := (unhide wS).a15 (unhide HE).1 (unhide HE).2
      clear wS
      go_simp
      refine hK.out _ _ trivial (fun hHeld => ?_)
      clear hK K
      (try simp only [Act.put, List.getElem_toArray, List.getElem_cons_succ, List.getElem_cons_zero, List.setIfInBounds_toArray, List.set_cons_zero, List.set_cons_succ])
      generalize wx.alloc (.cells #[.int .i64 0, .int .i64 0, .int .i64 0, .int .i64 0, .int .i64 0, .int .i64 0, .int .i64 0] 3) = wy at *
      generalize wx.heap.size = g15 at *
      have fin := unhide st12010 _ g8 g9 a1 c1 g15 (hide s2)
      rw [unhide HF] at fin
      exact fin
    · have s2 := (unhide wS).aal (unhide HE).1 (unhide HE).2
      clear wS
      go_simp
      refine hK.out _ _ trivial (fun hHeld => ?_)
      clear hK K
      (try simp only [Act.put, List.getElem_toArray, List.getElem_cons_succ, List.getElem_cons_zero, List.setIfInBounds_toArray, List.set_cons_zero, List.set_cons_succ])
      generalize wx.alloc (.cells #[.int .i64 0, .int .i64 0, .int .i64 0, .slice none 0 0, .slice none 0 0, .int .i64 0, .slice none 0 0, .slice none 0 0, .slice none 0 0, .int .i64 0, .int .i64 0, .int .i64 0, .bool false] 42) = wy at *
      generalize wx.heap.size = nb at *
      have fin := unhide st12001 _ g8 g9 a1 c1 nb (hide s2)
      rw [unhide HF] at fin
      exact fin
  have st00011 : Hid (∀ (wx : World) (g15 : Nat) (nb : Nat) (wS : Hid (NSt w LO rb wx (.slice none 0 0) (.slice none 0 0) (.slice none 0 0) (.slice (some ⟨g15, 0, none⟩) 7 7) (.slice (some ⟨nb, 0, none⟩) 0 0) [] (List.replicate 7 0))), F 6 #[true, false, false, true, false, false, true, true, true, false, true, false] ⟨#[.int .i64 id, .slice a ms.length c, undef, undef, .pointer (some ⟨rb, 0, none⟩), .pointer (some ⟨nb, 0, none⟩), undef, .int .i64 id, undef, undef, .slice a ms.length c, undef, undef, .int .i64 id, .int .i64 (5 + id), .slice (some ⟨g15, 0, none⟩) 7 7, undef, undef, undef, undef, undef, undef, undef, undef, undef, undef, undef], []⟩ wx) := by
    clear st12111 st02111 st11111 st12011 st12101 st12110 st01111 st02011 st02101 st02110 st10111 st11011 st11101 st11110 st12001 st12010 st12100 st01101 st01110 st02001 st02010 st02100 st10101 st10110 st11001 st11010 st11100 st12000
    clear K0 R0
    refine hide ?_
    intro wx g15 nb wS
    rw [unhide HF]
    refine wpAnyH_ready (rs := [1, 2, 5]) (by kernel_rfl) (by simp) ?_
    refine AllReadyH.cons (o := _) rfl (fun K hK => ?_) (AllReadyH.cons (o := _) rfl (fun K hK => ?_) (AllReadyH.cons (o := _) rfl (fun K hK => ?_) AllReadyH.nil))
    · have s2 := (unhide wS).a8 (unhide HE).1 (unhide HE).2
      clear wS
      go_simp
      refine hK.out _ _ trivial (fun hHeld => ?_)
      clear hK K
      (try simp only [Act.put, List.getElem_toArray, List.getElem_cons_succ, List.getElem_cons_zero, List.setIfInBounds_toArray, List.set_cons_zero, List.set_cons_succ])
      generalize wx.alloc (.cells #[] 102) = wy at *
      generalize wx.heap.size = g8 at *
      have fin := unhide st10011 _ g8 g15 nb (hide s2)
      rw [unhide HF] at fin
      exact fin
    · have s2 := (unhide wS).a9 (unhide HE).1 (unhide HE).2
      clear wS
      go_simp
      refine hK.out _ _ trivial (fun hHeld => ?_)
      clear hK K
      (try simp only [Act.put, List.getElem_toArray, List.getElem_cons_succ, List.getElem_cons_zero, List.setIfInBounds_toArray, List.set_cons_zero, List.set_cons_succ])
      generalize wx.alloc (.cells #[] 3) = wy at *
      generalize wx.heap.size = g9 at *
      have fin := unhide st01011 _ g9 g15 nb (hide s2)
      rw [unhide HF] at fin
      exact fin
    · have s2 := (unhide wS).a12 (unhide HE).1 (unhide HE).2
      clear wS
      go_simp
      refine hK.out _ _ trivial (fun hHeld => ?_)
      clear hK K
      (try simp only [Act.put, List.getElem_toArray, List.getElem_cons_succ, List.getElem_cons_zero, List.setIfInBounds_toArray, List.set_cons_zero, List.set_cons_succ])
      generalize wx.alloc (.cells #[] 3) = wy at *
      generalize wx.heap.size = g12 at *
      have fin := unhide st00111 _ g12 g15 nb (hide s2)
      rw [unhide HF] at fin
      exact fin
  have st00101 : Hid (∀ (wx : World) (g12 : Nat) (nb : Nat) (wS : Hid (NSt w LO rb wx (.slice none 0 0) (.slice none 0 0) (.slice (some ⟨g12, 0, none⟩) 0 0) (.slice none 0 0) (.slice (some ⟨nb, 0, none⟩) 0 0) [] [])), F 6 #[true, false, false, true, false, true, true, true, false, false, true, false] ⟨#[.int .i64 id, .slice a ms.length c, undef, undef, .pointer (some ⟨rb, 0, none⟩), .pointer (some ⟨nb, 0, none⟩), undef, .int .i64 id, undef, undef, .slice a ms.length c, undef, .slice (some ⟨g12, 0, none⟩) 0 0, .int .i64 id, .int .i64 (5 + id), undef, undef, undef, undef, undef, undef, undef, undef, undef, undef, undef, undef], []⟩ wx) := by
    clear st12111 st02111 st11111 st12011 st12101 st12110 st01111 st02011 st02101 st02110 st10111 st11011 st11101 st11110 st12001 st12010 st12100 st01011 st01110 st02001 st02010 st02100 st10011 st10110 st11001 st11010 st11100 st12000 st00011
    clear K0 R0
    refine hide ?_
    intro wx g12 nb wS
    rw [unhide HF]
    refine wpAnyH_ready (rs := [1, 2, 8]) (by kernel_rfl) (by simp) ?_
    refine AllReadyH.cons (o := _) rfl (fun K hK => ?_) (AllReadyH.cons (o := _) rfl (fun K hK => ?_) (AllReadyH.cons (o := _) rfl (fun K hK => ?_) AllReadyH.nil))
    · have s2 := (unhide wS).a8 (unhide HE).1 (unhide HE).2
      clear wS
      go_simp
      refine hK.out _ _ trivial (fun hHeld => ?_)
      clear hK K
      (try simp only [Act.put, List.getElem_toArray, List.getElem_cons_succ, List.getElem_cons_zero, List.setIfInBounds_toArray, List.set_cons_zero, List.set_cons_succ])
      generalize wx.alloc (.cells #[] 102) = wy at *
      generalize wx.heap.size = g8 at *
      have fin := unhide st10101 _ g8 g12 nb (hide s2)
      rw [unhide HF] at fin
      exact fin
    · have s2 := (unhide wS).a9 (unhide HE).1 (unhide HE).2
      clear wS
      go_simp
      refine hK.out _ _ trivial (fun hHeld => ?_)
      clear hK K
      (try simp only [Act.put, List.getElem_toArray, List.getElem_cons_succ, List.getElem_cons_zero, List.setIfInBounds_toArray, List.set_cons_zero, List.set_cons_succ])
      generalize wx.alloc (.cells #[] 3) = wy at *
      generalize wx.heap.size = g9 at *
      have fin := unhide st01101 _ g9 g12 nb (hide s2)
      rw [unhide HF] at fin
      exact fin
    · have s2 := (unhide wS).a15 (unhide HE).1 (unhide HE).2
      clear wS
      go_simp
      refine hK.out _ _ trivial (fun hHeld => ?_)
      clear hK K
      (try simp only [Act.put, List.getElem_toArray, List.getElem_cons_succ, List.getElem_cons_zero, List.setIfInBounds_toArray, List.set_cons_zero, List.set_cons_succ])
      generalize wx.alloc (.cells #[.int .i64 0, .int .i64 0, .int .i64 0, .int .i64 0, .int .i64 0, .int .i64 0, .int .i64 0] 3) = wy at *
      generalize wx.heap.size = g15 at *
      have fin := unhide st00111 _ g12 g15 nb (hide s2)
      rw [unhide HF] at fin
      exact fin
  have st00110 : Hid (∀ (wx : World) (g12 : Nat) (g15 : Nat) (wS : Hid (NSt w LO rb wx (.slice none 0 0) (.slice none 0 0) (.slice (some ⟨g12, 0, none⟩) 0 0) (.slice (some ⟨g15, 0, none⟩) 7 7) (.slice none 0 0) [] (List.replicate 7 0))), F 6 #[true, false, false, true, false, true, true, true, true, false, false, false] ⟨#[.int .i64 id, .slice a ms.length c, undef, undef, .pointer (some ⟨rb, 0, none⟩), undef, undef, .int .i64 id, undef, undef, .slice a ms.length c, undef, .slice (some ⟨g12, 0, none⟩) 0 0, .int .i64 id, .int .i64 (5 + id), .slice (some ⟨g15, 0, none⟩) 7 7, undef, undef, undef, undef, undef, undef, undef, undef, undef, undef, undef], []⟩ wx) := by
    clear st12111 st02111 st11111 st12011 st12101 st12110 st01111 st02011 st02101 st02110 st10111 st11011 st11101 st11110 st12001 st12010 st12100 st01011 st01101 st02001 st02010 st02100 st10011 st10101 st11001 st11010 st11100 st12000 st00011 st00101
    clear K0 R0
    refine hide ?_
    intro wx g12 g15 wS
    rw [unhide HF]
    refine wpAnyH_ready (rs := [1, 2, 10]) (by kernel_rfl) (by simp) ?_
    refine AllReadyH.cons (o := _) rfl (fun K hK => ?_) (AllReadyH.cons (o := _) rfl (fun K hK => ?_) (AllReadyH.cons (o := _) rfl (fun K hK => ?_) AllReadyH.nil))
    · have s2 := (unhide wS).a8 (unhide HE).1 (unhide HE).2
      clear wS
      go_simp
      refine hK.out _ _ trivial (fun hHeld => ?_)
      clear hK K
      (try simp only [Act.put, List.getElem_toArray, List.getElem_cons_succ, List.getElem_cons_zero, List.setIfInBounds_toArray, List.set_cons_zero, List.set_cons_succ])
      generalize wx.alloc (.cells #[] 102) = wy at *
      generalize wx.heap.size = g8 at *
      have fin := unhide st10110 _ g8 g12 g15 (hide s2)
      rw [unhide HF] at fin
      exact fin
    · have s2 := (unhide wS).a9 (unhide HE).1 (unhide HE).2
      clear wS
      go_simp
      refine hK.out _ _ trivial (fun hHeld => ?_)
      clear hK K
      (try simp only [Act.put, List.getElem_toArray, List.getElem_cons_succ, List.getElem_cons_zero, List.setIfInBounds_toArray, List.set_cons_zero, List.set_cons_succ])
      generalize wx.alloc (.cells #[] 3) = wy at *
      generalize wx.heap.size = g9 at *
      have fin := unhide st01110 _ g9 g12 g15 (hide s2)
      rw [unhide HF] at fin
      exact fin
    · have s2 := (unhide wS).aal (unhide HE).1 (unhide HE).2
      clear wS
      go_simp
      refine hK.out _ _ trivial (fun hHeld => ?_)
      clear hK K
      (try simp only [Act.put, List.getElem_toArray, List.getElem_cons_succ, List.getElem_cons_zero, List.setIfInBounds_toArray, List.set_cons_zero, List.set_cons_succ])
      generalize wx.alloc (.cells #[.int .i64 0, .int .i64 0, .int .i64 0, .slice none 0 0, .slice none 0 0, .int .i64 0, .slice none 0 0, .slice none 0 0, .slice none 0 0, .int .i64 0, .int .i64 0, .int .i64 0, .bool false] 42) = wy at *
      generalize wx.heap.size = nb at *
      have fin := unhide st00111 _ g12 g15 nb (hide s2)
      rw [unhide HF] at fin
      exact fin
  have st01001 : Hid (∀ (wx : World) (g9 : Nat) (nb : Nat) (wS : Hid (NSt w LO rb wx (.slice none 0 0) (.slice (some ⟨g9, 0, none⟩) 0 0) (.slice none 0 0) (.slice none 0 0) (.slice (some ⟨nb, 0, none⟩) 0 0) [] [])), F 6 #[true, false, true, true, false, false, true, true, false, false, true, false] ⟨#[.int .i64 id, .slice a ms.length c, undef, undef, .pointer (some ⟨rb, 0, none⟩), .pointer (some ⟨nb, 0, none⟩), undef, .int .i64 id, undef, .slice (some ⟨g9, 0, none⟩) 0 0, .slice a ms.length c, undef, undef, .int .i64 id, .int .i64 (5 + id), undef, undef, undef, undef, undef, undef, undef, undef, undef, undef, undef, undef], []⟩ wx) := by
    clear st12111 st02111 st11111 st12011 st12101 st12110 st01111 st02011 st02101 st02110 st10111 st11011 st11101 st11110 st12001 st12010 st12100 st00111 st01110 st02010 st02100 st10011 st10101 st10110 st11010 st11100 st12000 st00011 st00101 st00110
    clear K0 R0
    refine hide ?_
    intro wx g9 nb wS
    rw [unhide HF]
    refine wpAnyH_ready (rs := [1, 4, 5, 8]) (by kernel_rfl) (by simp) ?_
    refine AllReadyH.cons (o := _) rfl (fun K hK => ?_) (AllReadyH.cons (o := _) rfl (fun K hK => ?_) (AllReadyH.cons (o := _) rfl (fun K hK => ?_) (AllReadyH.cons (o := _) rfl (fun K hK => ?_) AllReadyH.nil)))
    · have s2 := (unhide wS).a8 (unhide HE).1 (unhide HE).2
      clear wS
      go_simp
      refine hK.out _ _ trivial (fun hHeld => ?_)
      clear hK K
      (try simp only [Act.put, List.getElem_toArray, List.getElem_cons_succ, List.getElem_cons_zero, List.setIfInBounds_toArray, List.set_cons_zero, List.set_cons_succ])
      generalize wx.alloc (.cells #[] 102) = wy at *
      generalize wx.heap.size = g8 at *
      have fin := unhide st11001 _ g8 g9 nb (hide s2)
      rw [unhide HF] at fin
      exact fin
    · have hR := ((unhide HMS).below (unhide wS).K).rw
      refine step_append_row rfl _ _ _ rfl LO 3 i0 _ 1 8 Try.underlying34 hi hz0 hz1 hz2 rfl (by omega) (.slice (some ⟨g9, 0, none⟩) 0 0) 0 [] rfl (unhide wS).O11 (.slice a ms.length c) ms.length (ms.map (Value.int .i64)) rfl hR (by simp) (by intro u hu; simp only [List.mem_map] at hu; obtain ⟨s, _, rfl⟩ := hu; rfl) (by unfold maxLen; omega) (by omega) ((unhide wS).lo (unhide HE).1 (unhide HE).2) ?_
      intro a1 c1 wy hown1 hgrow1 hat1
      rw [Nat.zero_add] at hown1 hat1 ⊢
      have s2 := (unhide wS).app (unhide HE).1 (unhide HE).2 hown1 hgrow1 hat1
      clear hown1 hgrow1 hat1 hR wS
      refine hK.out _ _ trivial (fun hHeld => ?_)
      clear hK K
      (try simp only [Act.put, List.getElem_toArray, List.getElem_cons_succ, List.getElem_cons_zero, List.setIfInBounds_toArray, List.set_cons_zero, List.set_cons_succ])
      have fin := unhide st02001 _ g9 a1 c1 nb (hide s2)
      rw [unhide HF] at fin
      exact fin
    · have s2 := (unhide wS).a12 (unhide HE).1 (unhide HE).2
      clear wS
      go_simp
      refine hK.out _ _ trivial (fun hHeld => ?_)
      clear hK K
      (try simp only [Act.put, List.getElem_toArray, List.getElem_cons_succ, List.getElem_cons_zero, List.setIfInBounds_toArray, List.set_cons_zero, List.set_cons_succ])
      generalize wx.alloc (.cells #[] 3) = wy at *
      generalize wx.heap.size = g12 at *
      have fin := unhide st01101 _ g9 g12 nb (hide s2)
      rw [unhide HF] at fin
      exact fin
    · have s2 := (unhide wS).a15 (unhide HE).1 (unhide HE).2
      clear wS
      go_simp
      refine hK.out _ _ trivial (fun hHeld => ?_)
      clear hK K
      (try simp only [Act.put, List.getElem_toArray, List.getElem_cons_succ, List.getElem_cons_zero, List.setIfInBounds_toArray, List.set_cons_zero, List.set_cons_succ])
      generalize wx.alloc (.cells #[.int .i64 0, .int .i64 0, .int .i64 0, .int .i64 0, .int .i64 0, .int .i64 0, .int .i64 0] 3) = wy at *
      generalize wx.heap.size = g15 at *
      have fin := unhide st01011 _ g9 g15 nb (hide s2)
      rw [unhide HF] at fin
      exact fin
  have st01010 : Hid (∀ (wx : World) (g9 : Nat) (g15 : Nat) (wS : Hid (NSt w LO rb wx (.slice none 0 0) (.slice (some ⟨g9, 0, none⟩) 0 0) (.slice none 0 0) (.slice (some ⟨g15, 0, none⟩) 7 7) (.slice none 0 0) [] (List.replicate 7 0))), F 6 #[true, false, true, true, false, false, true, true, true, false, false, false] ⟨#[.int .i64 id, .slice a ms.length c, undef, undef, .pointer (some ⟨rb, 0, none⟩), undef, undef, .int .i64 id, undef, .slice (some ⟨g9, 0, none⟩) 0 0, .slice a ms.length c, undef, undef, .int .i64 id, .int .i64 (5 + id), .slice (some ⟨g15, 0, none⟩) 7 7, undef, undef, undef, undef, undef, undef, undef, undef, undef, undef, undef], []⟩ wx) := by
    clear st12111 st02111 st11111 st12011 st12101 st12110 st01111 st02011 st02101 st02110 st10111 st11011 st11101 st11110 st12001 st12010 st12100 st00111 st01101 st02001 st02100 st10011 st10101 st10110 st11001 st11100 st12000 st00011 st00101 st00110 st01001
    clear K0 R0
    refine hide ?_
    intro wx g9 g15 wS
    rw [unhide HF]
    refine wpAnyH_ready (rs := [1, 4, 5, 10]) (by kernel_rfl) (by simp) ?_
    refine AllReadyH.cons (o := _) rfl (fun K hK => ?_) (AllReadyH.cons (o := _) rfl (fun K hK => ?_) (AllReadyH.cons (o := _) rfl (fun K hK => ?_) (AllReadyH.cons (o := _) rfl (fun K hK => ?_) AllReadyH.nil)))
    · have s2 := (unhide wS).a8 (unhide HE).1 (unhide HE).2
      clear wS
      go_simp
      refine hK.out _ _ trivial (fun hHeld => ?_)
      clear hK K
      (try simp only [Act.put, List.getElem_toArray, List.getElem_cons_succ, List.getElem_cons_zero, List.setIfInBounds_toArray, List.set_cons_zero, List.set_cons_succ])
      generalize wx.alloc (.cells #[] 102) = wy at *
      generalize wx.heap.size = g8 at *
      have fin := unhide st11010 _ g8 g9 g15 (hide s2)
      rw [unhide HF] at fin
      exact fin
    · have hR := ((unhide HMS).below (unhide wS).K).rw
      refine step_append_row rfl _ _ _ rfl LO 3 i0 _ 1 8 Try.underlying34 hi hz0 hz1 hz2 rfl (by omega) (.slice (some ⟨g9, 0, none⟩) 0 0) 0 [] rfl (unhide wS).O11 (.slice a ms.length c) ms.length (ms.map (Value.int .i64)) rfl hR (by simp) (by intro u hu; simp only [List.mem_map] at hu; obtain ⟨s, _, rfl⟩ := hu; rfl) (by unfold maxLen; omega) (by omega) ((unhide wS).lo (unhide HE).1 (unhide HE).2) ?_
      intro a1 c1 wy hown1 hgrow1 hat1
      rw [Nat.zero_add] at hown1 hat1 ⊢
      have s2 := (unhide wS).app (unhide HE).1 (unhide HE).2 hown1 hgrow1 hat1
      clear hown1 hgrow1 hat1 hR wS
      refine hK.out _ _ trivial (fun hHeld => ?_)
      clear hK K
      (try simp only [Act.put, List.getElem_toArray, List.getElem_cons_succ, List.getElem_cons_zero, List.setIfInBounds_toArray, List.set_cons_zero, List.set_cons_succ])
      have fin := unhide st02010 _ g9 a1 c1 g15 (hide s2)
      rw [unhide HF] at fin
      exact fin
    · have s2 := (unhide wS).a12 (unhide HE).1 (unhide HE).2
      clear wS
      go_simp
      refine hK.out _ _ trivial (fun hHeld => ?_)
      clear hK K
      (try simp only [Act.put, List.getElem_toArray, List.getElem_cons_succ, List.getElem_cons_zero, List.setIfInBounds_toArray, List.set_cons_zero, List.set_cons_succ])
      generalize wx.alloc (.cells #[] 3) = wy at *
      generalize wx.heap.size = g12 at *
      have fin := unhide st01110 _ g9 g12 g15 (hide s2)
      rw [unhide HF] at fin
      exact fin
    · have s2 := (unhide wS).aal (unhide HE).1 (unhide HE).2
      clear wS
      go_simp
      refine hK.out _ _ trivial (fun hHeld => ?_)
      clear hK K
      (try simp only [Act.put, List.getElem_toArray, List.getElem_cons_succ, List.getElem_cons_zero, List.setIfInBounds_toArray, List.set_cons_zero, List.set_cons_succ])
      generalize wx.alloc (.cells #[.int .i64 0, .int .i64 0, .int .i64 0, .slice none 0 0, .slice none 0 0, .int .i64 0, .slice none 0 0, .slice none 0 0, .slice none 0 0, .int .i64 0, .int .i64 0, .int .i64 0, .bool false] 42) = wy at *
      generalize wx.heap.size = nb at *
      have fin := unhide st01011 _ g9 g15 nb (hide s2)
      rw [unhide HF] at fin
      exact fin
  have st01100 : Hid (∀ (wx : World) (g9 : Nat) (g12 : Nat) (wS : Hid (NSt w LO rb wx (.slice none 0 0) (.slice (some ⟨g9, 0, none⟩) 0 0) (.slice (some ⟨g12, 0, none⟩) 0 0) (.slice none 0 0) (.slice none 0 0) [] [])), F 6 #[true, false, true, true, false, true, true, true, false, false, false, false] ⟨#[.int .i64 id, .slice a ms.length c, undef, undef, .pointer (some ⟨rb, 0, none⟩), undef, undef, .int .i64 id, undef, .slice (some ⟨g9, 0, none⟩) 0 0, .slice a ms.length c, undef, .slice (some ⟨g12, 0, none⟩) 0 0, .int .i64 id, .int .i64 (5 + id), undef, undef, undef, undef, undef, undef, undef, undef, undef, undef, undef, undef], []⟩ wx) := by
    clear st12111 st02111 st11111 st12011 st12101 st12110 st01111 st02011 st02101 st02110 st10111 st11011 st11101 st11110 st12001 st12010 st12100 st00111 st01011 st02001 st02010 st10011 st10101 st10110 st11001 st11010 st12000 st00011 st00101 st00110 st01001 st01010
    clear K0 R0
    refine hide ?_
    intro wx g9 g12 wS
    rw [unhide HF]
    refine wpAnyH_ready (rs := [1, 4, 8, 10]) (by kernel_rfl) (by simp) ?_
    refine AllReadyH.cons (o := _) rfl (fun K hK => ?_) (AllReadyH.cons (o := _) rfl (fun K hK => ?_) (AllReadyH.cons (o := _) rfl (fun K hK => ?_) (AllReadyH.cons (o := _) rfl (fun K hK => ?_) AllReadyH.nil)))
    · have s2 := (unhide wS).a8 (unhide HE).1 (unhide HE).2
      clear wS
      go_simp
      refine hK.out _ _ trivial (fun hHeld => ?_)
      clear hK K
      (try simp only [Act.put, List.getElem_toArray, List.getElem_cons_succ, List.getElem_cons_zero, List.setIfInBounds_toArray, List.set_cons_zero, List.set_cons_succ])
      generalize wx.alloc (.cells #[] 102) = wy at *
      generalize wx.heap.size = g8 at *
      have fin := unhide st11100 _ g8 g9 g12 (hide s2)
      rw [unhide HF] at fin
      exact fin
    · have hR := ((unhide HMS).below (unhide wS).K).rw
      refine step_append_row rfl _ _ _ rfl LO 3 i0 _ 1 8 Try.underlying34 hi hz0 hz1 hz2 rfl (by omega) (.slice (some ⟨g9, 0, none⟩) 0 0) 0 [] rfl (unhide wS).O11 (.slice a ms.length c) ms.length (ms.map (Value.int .i64)) rfl hR (by simp) (by intro u hu; simp only [List.mem_map] at hu; obtain ⟨s, _, rfl⟩ := hu; rfl) (by unfold maxLen; omega) (by omega) ((unhide wS).lo (unhide HE).1 (unhide HE).2) ?_
      intro a1 c1 wy hown1 hgrow1 hat1
      rw [Nat.zero_add] at hown1 hat1 ⊢
      have s2 := (unhide wS).app (unhide HE).1 (unhide HE).2 hown1 hgrow1 hat1
      clear hown1 hgrow1 hat1 hR wS
      refine hK.out _ _ trivial (fun hHeld => ?_)
      clear hK K
      (try simp only [Act.put, List.getElem_toArray, List.getElem_cons_succ, List.getElem_cons_zero, List.setIfInBounds_toArray, List.set_cons_zero, List.set_cons_succ])
      have fin := unhide st02100 _ g9 a1 c1 g12 (hide s2)
      rw [unhide HF] at fin
      exact fin
    · have s2 := (unhide wS).a15 (unhide HE).1 (unhide HE).2
      clear wS
      go_simp
      refine hK.out _ _ trivial (fun hHeld => ?_)
      clear hK K
      (try simp only [Act.put, List.getElem_toArray, List.getElem_cons_succ, List.getElem_cons_zero, List.setIfInBounds_toArray, List.set_cons_zero, List.set_cons_succ])
      generalize wx.alloc (.cells #[.int .i64 0, .int .i64 0, .int .i64 0, .int .i64 0, .int .i64 0, .int .i64 0, .int .i64 0] 3) = wy at *
      generalize wx.heap.size = g15 at *
      have fin := unhide st01110 _ g9 g12 g15 (hide s2)
      rw [unhide HF] at fin
      exact fin
    · have s2 := (unhide wS).aal (unhide HE).1 (unhide HE).2
      clear wS
      go_simp
      refine hK.out _ _ trivial (fun hHeld => ?_)
      clear hK K
      (try simp only [Act.put, List.getElem_toArray, List.getElem_cons_succ, List.getElem_cons_zero, List.setIfInBounds_toArray, List.set_cons_zero, List.set_cons_succ])
      generalize wx.alloc (.cells #[.int .i64 0, .int .i64 0, .int .i64 0, .slice none 0 0, .slice none 0 0, .int .i64 0, .slice none 0 0, .slice none 0 0, .slice none 0 0, .int .i64 0, .int .i64 0, .int .i64 0, .bool false] 42) = wy at *
      generalize wx.heap.size = nb at *
      have fin := unhide st01101 _ g9 g12 nb (hide s2)
      rw [unhide HF] at fin
      exact fin
  have st02000 : Hid (∀ (wx : World) (g9 : Nat) (a1 : Option Addr) (c1 : Nat) (wS : Hid (NSt w LO rb wx (.slice none 0 0) (.slice a1 ms.length c1) (.slice none 0 0) (.slice none 0 0) (.slice none 0 0) ms [])), F 6 #[true, false, true, true, true, false, true, true, false, false, false, false] ⟨#[.int .i64 id, .slice a ms.length c, undef, undef, .pointer (some ⟨rb, 0, none⟩), undef, undef, .int .i64 id, undef, .slice (some ⟨g9, 0, none⟩) 0 0, .slice a ms.length c, .slice a1 ms.length c1, undef, .int .i64 id, .int .i64 (5 + id), undef, undef, undef, undef, undef, undef, undef, undef, undef, undef, undef, undef], []⟩ wx) := by
    clear st12111 st02111 st11111 st12011 st12101 st12110 st01111 st02011 st02101 st02110 st10111 st11011 st11101 st11110 st12001 st12010 st12100 st00111 st01011 st01101 st01110 st10011 st10101 st10110 st11001 st11010 st11100 st00011 st00101 st00110 st01001 st01010 st01100
    clear K0 R0
    refine hide ?_
    intro wx g9 a1 c1 wS
    rw [unhide HF]
    refine wpAnyH_ready (rs := [1, 5, 8, 10]) (by kernel_rfl) (by simp) ?_
    refine AllReadyH.cons (o := _) rfl (fun K hK => ?_) (AllReadyH.cons (o := _) rfl (fun K hK => ?_) (AllReadyH.cons (o := _) rfl (fun K hK => ?_) (AllReadyH.cons (o := _) rfl (fun K hK => ?_) AllReadyH.nil)))
    · have s2 := (unhide wS).a8 (unhide HE).1 (unhide HE).2
      clear wS
      go_simp
      refine hK.out _ _ trivial (fun hHeld => ?_)
      clear hK K
      (try simp only [Act.put, List.getElem_toArray, List.getElem_cons_succ, List.getElem_cons_zero, List.setIfInBounds_toArray, List.set_cons_zero, List.set_cons_succ])
      generalize wx.alloc (.cells #[] 102) = wy at *
      generalize wx.heap.size = g8 at *
      have fin := unhide st12000 _ g8 g9 a1 c1 (hide s2)
      rw [unhide HF] at fin
      exact fin
    · have s2 := (unhide wS).a12 (unhide HE).1 (unhide HE).2
      clear wS
      go_simp
      refine hK.out _ _ trivial (fun hHeld => ?_)
      clear hK K
      (try simp only [Act.put, List.getElem_toArray, List.getElem_cons_succ, List.getElem_cons_zero, List.setIfInBounds_toArray, List.set_cons_zero, List.set_cons_succ])
      generalize wx.alloc (.cells #[] 3) = wy at *
      generalize wx.heap.size = g12 at *
      have fin := unhide st02100 _ g9 a1 c1 g12 (hide s2)
      rw [unhide HF] at fin
      exact fin
    · have s2 := (unhide wS).a15 (unhide HE).1 (unhide HE).2
      clear wS
      go_simp
      refine hK.out _ _ trivial (fun hHeld => ?_)
      clear hK K
      (try simp only [Act.put, List.getElem_toArray, List.getElem_cons_succ, List.getElem_cons_zero, List.setIfInBounds_toArray, List.set_cons_zero, List.set_cons_succ])
      generalize wx.alloc (.cells #[.int .i64 0, .int .i64 0, .int .i64 0, .int .i64 0, .int .i64 0, .int .i64 0, .int .i64 0] 3) = wy at *
      generalize wx.heap.size = g15 at *
      have fin := unhide st02010 _ g9 a1 c1 g15 (hide s2)
      rw [unhide HF] at fin
      exact fin
    · have s2 := (unhide wS).aal (unhide HE).1 (unhide HE).2
      clear wS
      go_simp
      refine hK.out _ _ trivial (fun hHeld => ?_)
      clear hK K
      (try simp only [Act.put, List.getElem_toArray, List.getElem_cons_succ, List.getElem_cons_zero, List.setIfInBounds_toArray, List.set_cons_zero, List.set_cons_succ])
      generalize wx.alloc (.cells #[.int .i64 0, .int .i64 0, .int .i64 0, .slice none 0 0, .slice none 0 0, .int .i64 0, .slice none 0 0, .slice none 0 0, .slice none 0 0, .int .i64 0, .int .i64 0, .int .i64 0, .bool false] 42) = wy at *
      generalize wx.heap.size = nb at *
      have fin := unhide st02001 _ g9 a1 c1 nb (hide s2)
      rw [unhide HF] at fin
      exact fin
  have st10001 : Hid (∀ (wx : World) (g8 : Nat) (nb : Nat) (wS : Hid (NSt w LO rb wx (.slice (some ⟨g8, 0, none⟩) 0 0) (.slice none 0 0) (.slice none 0 0) (.slice none 0 0) (.slice (some ⟨nb, 0, none⟩) 0 0) [] [])), F 6 #[true, true, false, true, false, false, true, true, false, false, true, false] ⟨#[.int .i64 id, .slice a ms.length c, undef, undef, .pointer (some ⟨rb, 0, none⟩), .pointer (some ⟨nb, 0, none⟩), undef, .int .i64 id, .slice (some ⟨g8, 0, none⟩) 0 0, undef, .slice a ms.length c, undef, undef, .int .i64 id, .int .i64 (5 + id), undef, undef, undef, undef, undef, undef, undef, undef, undef, undef, undef, undef], []⟩ wx) := by
    clear st12111 st02111 st11111 st12011 st12101 st12110 st01111 st02011 st02101 st02110 st10111 st11011 st11101 st11110 st12001 st12010 st12100 st00111 st01011 st01101 st01110 st02001 st02010 st02100 st10110 st11010 st11100 st12000 st00011 st00101 st00110 st01001 st01010 st01100 st02000
    clear K0 R0
    refine hide ?_
    intro wx g8 nb wS
    rw [unhide HF]
    refine wpAnyH_ready (rs := [2, 5, 8]) (by kernel_rfl) (by simp) ?_
    refine AllReadyH.cons (o := _) rfl (fun K hK => ?_) (AllReadyH.cons (o := _) rfl (fun K hK => ?_) (AllReadyH.cons (o := _) rfl (fun K hK => ?_) AllReadyH.nil))
    · have s2 := (unhide wS).a9 (unhide HE).1 (unhide HE).2
      clear wS
      go_simp
      refine hK.out _ _ trivial (fun hHeld => ?_)
      clear hK K
      (try simp only [Act.put, List.getElem_toArray, List.getElem_cons_succ, List.getElem_cons_zero, List.setIfInBounds_toArray, List.set_cons_zero, List.set_cons_succ])
      generalize wx.alloc (.cells #[] 3) = wy at *
      generalize wx.heap.size = g9 at *
      have fin := unhide st11001 _ g8 g9 nb (hide s2)
      rw [unhide HF] at fin
      exact fin
    · have s2 := (unhide wS).a12 (unhide HE).1 (unhide HE).2
      clear wS
      go_simp
      refine hK.out _ _ trivial (fun hHeld => ?_)
      clear hK K
      (try simp only [Act.put, List.getElem_toArray, List.getElem_cons_succ, List.getElem_cons_zero, List.setIfInBounds_toArray, List.set_cons_zero, List.set_cons_succ])
      generalize wx.alloc (.cells #[] 3) = wy at *
      generalize wx.heap.size = g12 at *
      have fin := unhide st10101 _ g8 g12 nb (hide s2)
      rw [unhide HF] at fin
      exact fin
    · have s2 := (unhide wS).a15 (unhide HE).1 (unhide HE).2
      clear wS
      go_simp
      refine hK.out _ _ trivial (fun hHeld => ?_)
      clear hK K
      (try simp only [Act.put, List.getElem_toArray, List.getElem_cons_succ, List.getElem_cons_zero, List.setIfInBounds_toArray, List.set_cons_zero, List.set_cons_succ])
      generalize wx.alloc (.cells #[.int .i64 0, .int .i64 0, .int .i64 0, .int .i64 0, .int .i64 0, .int .i64 0, .int .i64 0] 3) = wy at *
      generalize wx.heap.size = g15 at *
      have fin := unhide st10011 _ g8 g15 nb (hide s2)
      rw [unhide HF] at fin
      exact fin
  have st10010 : Hid (∀ (wx : World) (g8 : Nat) (g15 : Nat) (wS : Hid (NSt w LO rb wx (.slice (some ⟨g8, 0, none⟩) 0 0) (.slice none 0 0) (.slice none 0 0) (.slice (some ⟨g15, 0, none⟩) 7 7) (.slice none 0 0) [] (List.replicate 7 0))), F 6 #[true, true, false, true, false, false, true, true, true, false, false, false] ⟨#[.int .i64 id, .slice a ms.length c, undef, undef, .pointer (some ⟨rb, 0, none⟩), undef, undef, .int .i64 id, .slice (some ⟨g8, 0, none⟩) 0 0, undef, .slice a ms.length c, undef, undef, .int .i64 id, .int .i64 (5 + id), .slice (some ⟨g15, 0, none⟩) 7 7, undef, undef, undef, undef, undef, undef, undef, undef, undef, undef, undef], []⟩ wx) := by
    clear st12111 st02111 st11111 st12011 st12101 st12110 st01111 st02011 st02101 st02110 st10111 st11011 st11101 st11110 st12001 st12010 st12100 st00111 st01011 st01101 st01110 st02001 st02010 st02100 st10101 st11001 st11100 st12000 st00011 st00101 st00110 st01001 st01010 st01100 st02000 st10001
    clear K0 R0
    refine hide ?_
    intro wx g8 g15 wS
    rw [unhide HF]
    refine wpAnyH_ready (rs := [2, 5, 10]) (by kernel_rfl) (by simp) ?_
    refine AllReadyH.cons (o := _) rfl (fun K hK => ?_) (AllReadyH.cons (o := _) rfl (fun K hK => ?_) (AllReadyH.cons (o := _) rfl (fun K hK => ?_) AllReadyH.nil))
    · have s2 := (unhide wS).a9 (unhide HE).1 (unhide HE).2
      clear wS
      go_simp
      refine hK.out _ _ trivial (fun hHeld => ?_)
      clear hK K
      (try simp only [Act.put, List.getElem_toArray, List.getElem_cons_succ, List.getElem_cons_zero, List.setIfInBounds_toArray, List.set_cons_zero, List.set_cons_succ])
      generalize wx.alloc (.cells #[] 3) = wy at *
      generalize wx.heap.size = g9 at *
      have fin := unhide st11010 _ g8 g9 g15 (hide s2)
      rw [unhide HF] at fin
      exact fin
    · have s2 := (unhide wS).a12 (unhide HE).1 (unhide HE).2
      clear wS
      go_simp
      refine hK.out _ _ trivial (fun hHeld => ?_)
      clear hK K
      (try simp only [Act.put, List.getElem_toArray, List.getElem_cons_succ, List.getElem_cons_zero, List.setIfInBounds_toArray, List.set_cons_zero, List.set_cons_succ])
      generalize wx.alloc (.cells #[] 3) = wy at *
      generalize wx.heap.size = g12 at *
      have fin := unhide st10110 _ g8 g12 g15 (hide s2)
      rw [unhide HF] at fin
      exact fin
    · have s2 := (unhide wS).aal (unhide HE).1 (unhide HE).2
      clear wS
      go_simp
      refine hK.out _ _ trivial (fun hHeld => ?_)
      clear hK K
      (try simp only [Act.put, List.getElem_toArray, List.getElem_cons_succ, List.getElem_cons_zero, List.setIfInBounds_toArray, List.set_cons_zero, List.set_cons_succ])
      generalize wx.alloc (.cells #[.int .i64 0, .int .i64 0, .int .i64 0, .slice none 0 0, .slice none 0 0, .int .i64 0, .slice none 0 0, .slice none 0 0, .slice none 0 0, .int .i64 0, .int .i64 0, .int .i64 0, .bool false] 42) = wy at *
      generalize wx.heap.size = nb at *
      have fin := unhide st10011 _ g8 g15 nb (hide s2)
      rw [unhide HF] at fin
      exact fin
  have st10100 : Hid (∀ (wx : World) (g8 : Nat) (g12 : Nat) (wS : Hid (NSt w LO rb wx (.slice (some ⟨g8, 0, none⟩) 0 0) (.slice none 0 0) (.slice (some ⟨g12, 0, none⟩) 0 0) (.slice none 0 0) (.slice none 0 0) [] [])), F 6 #[true, true, false, true, false, true, true, true, false, false, false, false] ⟨#[.int .i64 id, .slice a ms.length c, undef, undef, .pointer (some ⟨rb, 0, none⟩), undef, undef, .int .i64 id, .slice (some ⟨g8, 0, none⟩) 0 0, undef, .slice a ms.length c, undef, .slice (some ⟨g12, 0, none⟩) 0 0, .int .i64 id, .int .i64 (5 + id), undef, undef, undef, undef, undef, undef, undef, undef, undef, undef, undef, undef], []⟩ wx) := by
    clear st12111 st02111 st11111 st12011 st12101 st12110 st01111 st02011 st02101 st02110 st10111 st11011 st11101 st11110 st12001 st12010 st12100 st00111 st01011 st01101 st01110 st02001 st02010 st02100 st10011 st11001 st11010 st12000 st00011 st00101 st00110 st01001 st01010 st01100 st02000 st10001 st10010
    clear K0 R0
    refine hide ?_
    intro wx g8 g12 wS
    rw [unhide HF]
    refine wpAnyH_ready (rs := [2, 8, 10]) (by kernel_rfl) (by simp) ?_
    refine AllReadyH.cons (o := _) rfl (fun K hK => ?_) (AllReadyH.cons (o := _) rfl (fun K hK => ?_) (AllReadyH.cons (o := _) rfl (fun K hK => ?_) AllReadyH.nil))
    · have s2 := (unhide wS).a9 (unhide HE).1 (unhide HE).2
      clear wS
      go_simp
      refine hK.out _ _ trivial (fun hHeld => ?_)
      clear hK K
      (try simp only [Act.put, List.getElem_toArray, List.getElem_cons_succ, List.getElem_cons_zero, List.setIfInBounds_toArray, List.set_cons_zero, List.set_cons_succ])
      generalize wx.alloc (.cells #[] 3) = wy at *
      generalize wx.heap.size = g9 at *
      have fin := unhide st11100 _ g8 g9 g12 (hide s2)
      rw [unhide HF] at fin
      exact fin
    · have s2 := (unhide wS).a15 (unhide HE).1 (unhide HE).2
      clear wS
      go_simp
      refine hK.out _ _ trivial (fun hHeld => ?_)
      clear hK K
      (try simp only [Act.put, List.getElem_toArray, List.getElem_cons_succ, List.getElem_cons_zero, List.setIfInBounds_toArray, List.set_cons_zero, List.set_cons_succ])
      generalize wx.alloc (.cells #[.int .i64 0, .int .i64 0, .int .i64 0, .int .i64 0, .int .i64 0, .int .i64 0, .int .i64 0] 3) = wy at *
      generalize wx.heap.size = g15 at *
      have fin := unhide st10110 _ g8 g12 g15 (hide s2)
      rw [unhide HF] at fin
      exact fin
    · have s2 := (unhide wS).aal (unhide HE).1 (unhide HE).2
      clear wS
      go_simp
      refine hK.out _ _ trivial (fun hHeld => ?_)
      clear hK K
      (try simp only [Act.put, List.getElem_toArray, List.getElem_cons_succ, List.getElem_cons_zero, List.setIfInBounds_toArray, List.set_cons_zero, List.set_cons_succ])
      generalize wx.alloc (.cells #[.int .i64 0, .int .i64 0, .int .i64 0, .slice none 0 0, .slice none 0 0, .int .i64 0, .slice none 0 0, .slice none 0 0, .slice none 0 0, .int .i64 0, .int .i64 0, .int .i64 0, .bool false] 42) = wy at *
      generalize wx.heap.size = nb at *
      have fin := unhide st10101 _ g8 g12 nb (hide s2)
      rw [unhide HF] at fin
      exact fin
  have st11000 : Hid (∀ (wx : World) (g8 : Nat) (g9 : Nat) (wS : Hid (NSt w LO rb wx (.slice (some ⟨g8, 0, none⟩) 0 0) (.slice (some ⟨g9, 0, none⟩) 0 0) (.slice none 0 0) (.slice none 0 0) (.slice none 0 0) [] [])), F 6 #[true, true, true, true, false, false, true, true, false, false, false, false] ⟨#[.int .i64 id, .slice a ms.length c, undef, undef, .pointer (some ⟨rb, 0, none⟩), undef, undef, .int .i64 id, .slice (some ⟨g8, 0, none⟩) 0 0, .slice (some ⟨g9, 0, none⟩) 0 0, .slice a ms.length c, undef, undef, .int .i64 id, .int .i64 (5 + id), undef, undef, undef, undef, undef, undef, undef, undef, undef, undef, undef, undef], []⟩ wx) := by
    clear st12111 st02111 st11111 st12011 st12101 st12110 st01111 st02011 st02101 st02110 st10111 st11011 st11101 st11110 st12001 st12010 st12100 st00111 st01011 st01101 st01110 st02001 st02010 st02100 st10011 st10101 st10110 st00011 st00101 st00110 st01001 st01010 st01100 st02000 st10001 st10010 st10100
    clear K0 R0
    refine hide ?_
    intro wx g8 g9 wS
    rw [unhide HF]
    refine wpAnyH_ready (rs := [4, 5, 8, 10]) (by kernel_rfl) (by simp) ?_
    refine AllReadyH.cons (o := _) rfl (fun K hK => ?_) (AllReadyH.cons (o := _) rfl (fun K hK => ?_) (AllReadyH.cons (o := _) rfl (fun K hK => ?_) (AllReadyH.cons (o := _) rfl (fun K hK => ?_) AllReadyH.nil)))
    · have hR := ((unhide HMS).below (unhide wS).K).rw
      refine step_append_row rfl _ _ _ rfl LO 3 i0 _ 1 8 Try.underlying34 hi hz0 hz1 hz2 rfl (by omega) (.slice (some ⟨g9, 0, none⟩) 0 0) 0 [] rfl (unhide wS).O11 (.slice a ms.length c) ms.length (ms.map (Value.int .i64)) rfl hR (by simp) (by intro u hu; simp only [List.mem_map] at hu; obtain ⟨s, _, rfl⟩ := hu; rfl) (by unfold maxLen; omega) (by omega) ((unhide wS).lo (unhide HE).1 (unhide HE).2) ?_
      intro a1 c1 wy hown1 hgrow1 hat1
      rw [Nat.zero_add] at hown1 hat1 ⊢
      have s2 := (unhide wS).app (unhide HE).1 (unhide HE).2 hown1 hgrow1 hat1
      clear hown1 hgrow1 hat1 hR wS
      refine hK.out _ _ trivial (fun hHeld => ?_)
      clear hK K
      (try simp only [Act.put, List.getElem_toArray, List.getElem_cons_succ, List.getElem_cons_zero, List.setIfInBounds_toArray, List.set_cons_zero, List.set_cons_succ])
      have fin := unhide st12000 _ g8 g9 a1 c1 (hide s2)
      rw [unhide HF] at fin
      exact fin
    · have s2 := (unhide wS).a12 (unhide HE).1 (unhide HE).2
      clear wS
      go_simp
      refine hK.out _ _ trivial (fun hHeld => ?_)
      clear hK K
      (try simp only [Act.put, List.getElem_toArray, List.getElem_cons_succ, List.getElem_cons_zero, List.setIfInBounds_toArray, List.set_cons_zero, List.set_cons_succ])
      generalize wx.alloc (.cells #[] 3) = wy at *
      generalize wx.heap.size = g12 at *
      have fin := unhide st11100 _ g8 g9 g12 (hide s2)
      rw [unhide HF] at fin
      exact fin
    · have s2 := (unhide wS).a15 (unhide HE).1 (unhide HE).2
      clear wS
      go_simp
      refine hK.out _ _ trivial (fun hHeld => ?_)
      clear hK K
      (try simp only [Act.put, List.getElem_toArray, List.getElem_cons_succ, List.getElem_cons_zero, List.setIfInBounds_toArray, List.set_cons_zero, List.set_cons_succ])
      generalize wx.alloc (.cells #[.int .i64 0, .int .i64 0, .int .i64 0, .int .i64 0, .int .i64 0, .int .i64 0, .int .i64 0] 3) = wy at *
      generalize wx.heap.size = g15 at *
      have fin := unhide st11010 _ g8 g9 g15 (hide s2)
      rw [unhide HF] at fin
      exact fin
    · have s2 := (unhide wS).aal (unhide HE).1 (unhide HE).2
      clear wS
      go_simp
      refine hK.out _ _ trivial (fun hHeld => ?_)
      clear hK K
      (try simp only [Act.put, List.getElem_toArray, List.getElem_cons_succ, List.getElem_cons_zero, List.setIfInBounds_toArray, List.set_cons_zero, List.set_cons_succ])
      generalize wx.alloc (.cells #[.int .i64 0, .int .i64 0, .int .i64 0, .slice none 0 0, .slice none 0 0, .int .i64 0, .slice none 0 0, .slice none 0 0, .slice none 0 0, .int .i64 0, .int .i64 0, .int .i64 0, .bool false] 42) = wy at *
      generalize wx.heap.size = nb at *
      have fin := unhide st11001 _ g8 g9 nb (hide s2)
      rw [unhide HF] at fin
      exact fin
  have st00001 : Hid (∀ (wx : World) (nb : Nat) (wS : Hid (NSt w LO rb wx (.slice none 0 0) (.slice none 0 0) (.slice none 0 0) (.slice none 0 0) (.slice (some ⟨nb, 0, none⟩) 0 0) [] [])), F 7 #[true, false, false, true, false, false, true, true, false, false, true, false] ⟨#[.int .i64 id, .slice a ms.length c, undef, undef, .pointer (some ⟨rb, 0, none⟩), .pointer (some ⟨nb, 0, none⟩), undef, .int .i64 id, undef, undef, .slice a ms.length c, undef, undef, .int .i64 id, .int .i64 (5 + id), undef, undef, undef, undef, undef, undef, undef, undef, undef, undef, undef, undef], []⟩ wx) := by
    clear st12111 st02111 st11111 st12011 st12101 st12110 st01111 st02011 st02101 st02110 st10111 st11011 st11101 st11110 st12001 st12010 st12100 st00111 st01011 st01101 st01110 st02001 st02010 st02100 st10011 st10101 st10110 st11001 st11010 st11100 st12000 st00110 st01010 st01100 st02000 st10010 st10100 st11000
    clear K0 R0
    refine hide ?_
    intro wx nb wS
    rw [unhide HF]
    refine wpAnyH_ready (rs := [1, 2, 5, 8]) (by kernel_rfl) (by simp) ?_
    refine AllReadyH.cons (o := _) rfl (fun K hK => ?_) (AllReadyH.cons (o := _) rfl (fun K hK => ?_) (AllReadyH.cons (o := _) rfl (fun K hK => ?_) (AllReadyH.cons (o := _) rfl (fun K hK => ?_) AllReadyH.nil)))
    · have s2 := (unhide wS).a8 (unhide HE).1 (unhide HE).2
      clear wS
      go_simp
      refine hK.out _ _ trivial (fun hHeld => ?_)
      clear hK K
      (try simp only [Act.put, List.getElem_toArray, List.getElem_cons_succ, List.getElem_cons_zero, List.setIfInBounds_toArray, List.set_cons_zero, List.set_cons_succ])
      generalize wx.alloc (.cells #[] 102) = wy at *
      generalize wx.heap.size = g8 at *
      have fin := unhide st10001 _ g8 nb (hide s2)
      rw [unhide HF] at fin
      exact fin
    · have s2 := (unhide wS).a9 (unhide HE).1 (unhide HE).2
      clear wS
      go_simp
      refine hK.out _ _ trivial (fun hHeld => ?_)
      clear hK K
      (try simp only [Act.put, List.getElem_toArray, List.getElem_cons_succ, List.getElem_cons_zero, List.setIfInBounds_toArray, List.set_cons_zero, List.set_cons_succ])
      generalize wx.alloc (.cells #[] 3) = wy at *
      generalize wx.heap.size = g9 at *
      have fin := unhide st01001 _ g9 nb (hide s2)
      rw [unhide HF] at fin
      exact fin
    · have s2 := (unhide wS).a12 (unhide HE).1 (unhide HE).2
      clear wS
      go_simp
      refine hK.out _ _ trivial (fun hHeld => ?_)
      clear hK K
      (try simp only [Act.put, List.getElem_toArray, List.getElem_cons_succ, List.getElem_cons_zero, List.setIfInBounds_toArray, List.set_cons_zero, List.set_cons_succ])
      generalize wx.alloc (.cells #[] 3) = wy at *
      generalize wx.heap.size = g12 at *
      have fin := unhide st00101 _ g12 nb (hide s2)
      rw [unhide HF] at fin
      exact fin
    · have s2 := (unhide wS).a15 (unhide HE).1 (unhide HE).2
      clear wS
      go_simp
      refine hK.out _ _ trivial (fun hHeld => ?_)
      clear hK K
      (try simp only [Act.put, List.getElem_toArray, List.getElem_cons_succ, List.getElem_cons_zero, List.setIfInBounds_toArray, List.set_cons_zero, List.set_cons_succ])
      generalize wx.alloc (.cells #[.int .i64 0, .int .i64 0, .int .i64 0, .int .i64 0, .int .i64 0, .int .i64 0, .int .i64 0] 3) = wy at *
      generalize wx.heap.size = g15 at *
      have fin := unhide st00011 _ g15 nb (hide s2)
      rw [unhide HF] at fin
      exact fin
  have st00010 : Hid (∀ (wx : World) (g15 : Nat) (wS : Hid (NSt w LO rb wx (.slice none 0 0) (.slice none 0 0) (.slice none 0 0) (.slice (some ⟨g15, 0, none⟩) 7 7) (.slice none 0 0) [] (List.replicate 7 0))), F 7 #[true, false, false, true, false, false, true, true, true, false, false, false] ⟨#[.int .i64 id, .slice a ms.length c, undef, undef, .pointer (some ⟨rb, 0, none⟩), undef, undef, .int .i64 id, undef, undef, .slice a ms.length c, undef, undef, .int .i64 id, .int .i64 (5 + id), .slice (some ⟨g15, 0, none⟩) 7 7, undef, undef, undef, undef, undef, undef, undef, undef, undef, undef, undef], []⟩ wx) := by
    clear st12111 st02111 st11111 st12011 st12101 st12110 st01111 st02011 st02101 st02110 st10111 st11011 st11101 st11110 st12001 st12010 st12100 st00111 st01011 st01101 st01110 st02001 st02010 st02100 st10011 st10101 st10110 st11001 st11010 st11100 st12000 st00101 st01001 st01100 st02000 st10001 st10100 st11000 st00001
    clear K0 R0
    refine hide ?_
    intro wx g15 wS
    rw [unhide HF]
    refine wpAnyH_ready (rs := [1, 2, 5, 10]) (by kernel_rfl) (by simp) ?_
    refine AllReadyH.cons (o := _) rfl (fun K hK => ?_) (AllReadyH.cons (o := _) rfl (fun K hK => ?_) (AllReadyH.cons (o := _) rfl (fun K hK => ?_) (AllReadyH.cons (o := _) rfl (fun K hK => ?_) AllReadyH.nil)))
    · have s2 := (unhide wS).a8 (unhide HE).1 (unhide HE).2
      clear wS
      go_simp
      refine hK.out _ _ trivial (fun hHeld => ?_)
      clear hK K
      (try simp only [Act.put, List.getElem_toArray, List.getElem_cons_succ, List.getElem_cons_zero, List.setIfInBounds_toArray, List.set_cons_zero, List.set_cons_succ])
      generalize wx.alloc (.cells #[] 102) = wy at *
      generalize wx.heap.size = g8 at *
      have fin := unhide st10010 _ g8 g15 (hide s2)
      rw [unhide HF] at fin
      exact fin
    · have s2 := (unhide wS).a9 (unhide HE).1 (unhide HE).2
      clear wS
      go_simp
      refine hK.out _ _ trivial (fun hHeld => ?_)
      clear hK K
      (try simp only [Act.put, List.getElem_toArray, List.getElem_cons_succ, List.getElem_cons_zero, List.setIfInBounds_toArray, List.set_cons_zero, List.set_cons_succ])
      generalize wx.alloc (.cells #[] 3) = wy at *
      generalize wx.heap.size = g9 at *
      have fin := unhide st01010 _ g9 g15 (hide s2)
      rw [unhide HF] at fin
      exact fin
    · have s2 := (unhide wS).a12 (unhide HE).1 (unhide HE).2
      clear wS
      go_simp
      refine hK.out _ _ trivial (fun hHeld => ?_)
      clear hK K
      (try simp only [Act.put, List.getElem_toArray, List.getElem_cons_succ, List.getElem_cons_zero, List.setIfInBounds_toArray, List.set_cons_zero, List.set_cons_succ])
      generalize wx.alloc (.cells #[] 3) = wy at *
      generalize wx.heap.size = g12 at *
      have fin := unhide st00110 _ g12 g15 (hide s2)
      rw [unhide HF] at fin
      exact fin
    · have s2 := (unhide wS).aal (unhide HE).1 (unhide HE).2
      clear wS
      go_simp
      refine hK.out _ _ trivial (fun hHeld => ?_)
      clear hK K
      (try simp only [Act.put, List.getElem_toArray, List.getElem_cons_succ, List.getElem_cons_zero, List.setIfInBounds_toArray, List.set_cons_zero, List.set_cons_succ])
      generalize wx.alloc (.cells #[.int .i64 0, .int .i64 0, .int .i64 0, .slice none 0 0, .slice none 0 0, .int .i64 0, .slice none 0 0, .slice none 0 0, .slice none 0 0, .int .i64 0, .int .i64 0, .int .i64 0, .bool false] 42) = wy at *
      generalize wx.heap.size = nb at *
      have fin := unhide st00011 _ g15 nb (hide s2)
      rw [unhide HF] at fin
      exact fin
  have st00100 : Hid (∀ (wx : World) (g12 : Nat) (wS : Hid (NSt w LO rb wx (.slice none 0 0) (.slice none 0 0) (.slice (some ⟨g12, 0, none⟩) 0 0) (.slice none 0 0) (.slice none 0 0) [] [])), F 7 #[true, false, false, true, false, true, true, true, false, false, false, false] ⟨#[.int .i64 id, .slice a ms.length c, undef, undef, .pointer (some ⟨rb, 0, none⟩), undef, undef, .int .i64 id, undef, undef, .slice a ms.length c, undef, .slice (some ⟨g12, 0, none⟩) 0 0, .int .i64 id, .int .i64 (5 + id), undef, undef, undef, undef, undef, undef, undef, undef, undef, undef, undef, undef], []⟩ wx) := by
    clear st12111 st02111 st11111 st12011 st12101 st12110 st01111 st02011 st02101 st02110 st10111 st11011 st11101 st11110 st12001 st12010 st12100 st00111 st01011 st01101 st01110 st02001 st02010 st02100 st10011 st10101 st10110 st11001 st11010 st11100 st12000 st00011 st01001 st01010 st02000 st10001 st10010 st11000 st00001 st00010
    clear K0 R0
    refine hide ?_
    intro wx g12 wS
    rw [unhide HF]
    refine wpAnyH_ready (rs := [1, 2, 8, 10]) (by kernel_rfl) (by simp) ?_
    refine AllReadyH.cons (o := _) rfl (fun K hK => ?_) (AllReadyH.cons (o := _) rfl (fun K hK => ?_) (AllReadyH.cons (o := _) rfl (fun K hK => ?_) (AllReadyH.cons (o := _) rfl (fun K hK => ?_) AllReadyH.nil)))
    · have s2 := (unhide wS).a8 (unhide HE).1 (unhide HE).2
      clear wS
      go_simp
      refine hK.out _ _ trivial (fun hHeld => ?_)
      clear hK K
      (try simp only [Act.put, List.getElem_toArray, List.getElem_cons_succ, List.getElem_cons_zero, List.setIfInBounds_toArray, List.set_cons_zero, List.set_cons_succ])
      generalize wx.alloc (.cells #[] 102) = wy at *
      generalize wx.heap.size = g8 at *
      have fin := unhide st10100 _ g8 g12 (hide s2)
      rw [unhide HF] at fin
      exact fin
    · have s2 := (unhide wS).a9 (unhide HE).1 (unhide HE).2
      clear wS
      go_simp
      refine hK.out _ _ trivial (fun hHeld => ?_)
      clear hK K
      (try simp only [Act.put, List.getElem_toArray, List.getElem_cons_succ, List.getElem_cons_zero, List.setIfInBounds_toArray, List.set_cons_zero, List.set_cons_succ])
      generalize wx.alloc (.cells #[] 3) = wy at *
      generalize wx.heap.size = g9 at *
      have fin := unhide st01100 _ g9 g12 (hide s2)
      rw [unhide HF] at fin
      exact fin
    · have s2 := (unhide wS).a15 (unhide HE).1 (unhide HE).2
      clear wS
      go_simp
      refine hK.out _ _ trivial (fun hHeld => ?_)
      clear hK K
      (try simp only [Act.put, List.getElem_toArray, List.getElem_cons_succ, List.getElem_cons_zero, List.setIfInBounds_toArray, List.set_cons_zero, List.set_cons_succ])
      generalize wx.alloc (.cells #[.int .i64 0, .int .i64 0, .int .i64 0, .int .i64 0, .int .i64 0, .int .i64 0, .int .i64 0] 3) = wy at *
      generalize wx.heap.size = g15 at *
      have fin := unhide st00110 _ g12 g15 (hide s2)
      rw [unhide HF] at fin
      exact fin
    · have s2 := (unhide wS).aal (unhide HE).1 (unhide HE).2
      clear wS
      go_simp
      refine hK.out _ _ trivial (fun hHeld => ?_)
      clear hK K
      (try simp only [Act.put, List.getElem_toArray, List.getElem_cons_succ, List.getElem_cons_zero, List.setIfInBounds_toArray, List.set_cons_zero, List.set_cons_succ])
      generalize wx.alloc (.cells #[.int .i64 0, .int .i64 0, .int .i64 0, .slice none 0 0, .slice none 0 0, .int .i64 0, .slice none 0 0, .slice none 0 0, .slice none 0 0, .int .i64 0, .int .i64 0, .int .i64 0, .bool false] 42) = wy at *
      generalize wx.heap.size = nb at *
      have fin := unhide st00101 _ g12 nb (hide s2)
      rw [unhide HF] at fin
      exact fin
  have st01000 : Hid (∀ (wx : World) (g9 : Nat) (wS : Hid (NSt w LO rb wx (.slice none 0 0) (.slice (some ⟨g9, 0, none⟩) 0 0) (.slice none 0 0) (.slice none 0 0) (.slice none 0 0) [] [])), F 7 #[true, false, true, true, false, false, true, true, false, false, false, false] ⟨#[.int .i64 id, .slice a ms.length c, undef, undef, .pointer (some ⟨rb, 0, none⟩), undef, undef, .int .i64 id, undef, .slice (some ⟨g9, 0, none⟩) 0 0, .slice a ms.length c, undef, undef, .int .i64 id, .int .i64 (5 + id), undef, undef, undef, undef, undef, undef, undef, undef, undef, undef, undef, undef], []⟩ wx) := by
    clear st12111 st02111 st11111 st12011 st12101 st12110 st01111 st02011 st02101 st02110 st10111 st11011 st11101 st11110 st12001 st12010 st12100 st00111 st01011 st01101 st01110 st02001 st02010 st02100 st10011 st10101 st10110 st11001 st11010 st11100 st12000 st00011 st00101 st00110 st10001 st10010 st10100 st00001 st00010 st00100
    clear K0 R0
    refine hide ?_
    intro wx g9 wS
    rw [unhide HF]
    refine wpAnyH_ready (rs := [1, 4, 5, 8, 10]) (by kernel_rfl) (by simp) ?_
    refine AllReadyH.cons (o := _) rfl (fun K hK => ?_) (AllReadyH.cons (o := _) rfl (fun K hK => ?_) (AllReadyH.cons (o := _) rfl (fun K hK => ?_) (AllReadyH.cons (o := _) rfl (fun K hK => ?_) (AllReadyH.cons (o := _) rfl (fun K hK => ?_) AllReadyH.nil))))
    · have s2 := (unhide wS).a8 (unhide HE).1 (unhide HE).2
      clear wS
      go_simp
      refine hK.out _ _ trivial (fun hHeld => ?_)
      clear hK K
      (try simp only [Act.put, List.getElem_toArray, List.getElem_cons_succ, List.getElem_cons_zero, List.setIfInBounds_toArray, List.set_cons_zero, List.set_cons_succ])
      generalize wx.alloc (.cells #[] 102) = wy at *
      generalize wx.heap.size = g8 at *
      have fin := unhide st11000 _ g8 g9 (hide s2)
      rw [unhide HF] at fin
      exact fin
    · have hR := ((unhide HMS).below (unhide wS).K).rw
      refine step_append_row rfl _ _ _ rfl LO 3 i0 _ 1 8 Try.underlying34 hi hz0 hz1 hz2 rfl (by omega) (.slice (some ⟨g9, 0, none⟩) 0 0) 0 [] rfl (unhide wS).O11 (.slice a ms.length c) ms.length (ms.map (Value.int .i64)) rfl hR (by simp) (by intro u hu; simp only [List.mem_map] at hu; obtain ⟨s, _, rfl⟩ := hu; rfl) (by unfold maxLen; omega) (by omega) ((unhide wS).lo (unhide HE).1 (unhide HE).2) ?_
      intro a1 c1 wy hown1 hgrow1 hat1
      rw [Nat.zero_add] at hown1 hat1 ⊢
      have s2 := (unhide wS).app (unhide HE).1 (unhide HE).2 hown1 hgrow1 hat1
      clear hown1 hgrow1 hat1 hR wS
      refine hK.out _ _ trivial (fun hHeld => ?_)
      clear hK K
      (try simp only [Act.put, List.getElem_toArray, List.getElem_cons_succ, List.getElem_cons_zero, List.setIfInBounds_toArray, List.set_cons_zero, List.set_cons_succ])
      have fin := unhide st02000 _ g9 a1 c1 (hide s2)
      rw [unhide HF] at fin
      exact fin
    · have s2 := (unhide wS).a12 (unhide HE).1 (unhide HE).2
      clear wS
      go_simp
      refine hK.out _ _ trivial (fun hHeld => ?_)
      clear hK K
      (try simp only [Act.put, List.getElem_toArray, List.getElem_cons_succ, List.getElem_cons_zero, List.setIfInBounds_toArray, List.set_cons_zero, List.set_cons_succ])
      generalize wx.alloc (.cells #[] 3) = wy at *
      generalize wx.heap.size = g12 at *
      have fin := unhide st01100 _ g9 g12 (hide s2)
      rw [unhide HF] at fin
      exact fin
    · have s2 := (unhide wS).a15 (unhide HE).1 (unhide HE).2
      clear wS
      go_simp
      refine hK.out _ _ trivial (fun hHeld => ?_)
      clear hK K
      (try simp only [Act.put, List.getElem_toArray, List.getElem_cons_succ, List.getElem_cons_zero, List.setIfInBounds_toArray, List.set_cons_zero, List.set_cons_succ])
      generalize wx.alloc (.cells #[.int .i64 0, .int .i64 0, .int .i64 0, .int .i64 0, .int .i64 0, .int .i64 0, .int .i64 0] 3) = wy at *
      generalize wx.heap.size = g15 at *
      have fin := unhide st01010 _ g9 g15 (hide s2)
      rw [unhide HF] at fin
      exact fin
    · have s2 := (unhide wS).aal (unhide HE).1 (unhide HE).2
      clear wS
      go_simp
      refine hK.out _ _ trivial (fun hHeld => ?_)
      clear hK K
      (try simp only [Act.put, List.getElem_toArray, List.getElem_cons_succ, List.getElem_cons_zero, List.setIfInBounds_toArray, List.set_cons_zero, List.set_cons_succ])
      generalize wx.alloc (.cells #[.int .i64 0, .int .i64 0, .int .i64 0, .slice none 0 0, .slice none 0 0, .int .i64 0, .slice none 0 0, .slice none 0 0, .slice none 0 0, .int .i64 0, .int .i64 0, .int .i64 0, .bool false] 42) = wy at *
      generalize wx.heap.size = nb at *
      have fin := unhide st01001 _ g9 nb (hide s2)
      rw [unhide HF] at fin
      exact fin
  have st10000 : Hid (∀ (wx : World) (g8 : Nat) (wS : Hid (NSt w LO rb wx (.slice (some ⟨g8, 0, none⟩) 0 0) (.slice none 0 0) (.slice none 0 0) (.slice none 0 0) (.slice none 0 0) [] [])), F 7 #[true, true, false, true, false, false, true, true, false, false, false, false] ⟨#[.int .i64 id, .slice a ms.length c, undef, undef, .pointer (some ⟨rb, 0, none⟩), undef, undef, .int .i64 id, .slice (some ⟨g8, 0, none⟩) 0 0, undef, .slice a ms.length c, undef, undef, .int .i64 id, .int .i64 (5 + id), undef, undef, undef, undef, undef, undef, undef, undef, undef, undef, undef, undef], []⟩ wx) := by
    clear st12111 st02111 st11111 st12011 st12101 st12110 st01111 st02011 st02101 st02110 st10111 st11011 st11101 st11110 st12001 st12010 st12100 st00111 st01011 st01101 st01110 st02001 st02010 st02100 st10011 st10101 st10110 st11001 st11010 st11100 st12000 st00011 st00101 st00110 st01001 st01010 st01100 st02000 st00001 st00010 st00100 st01000
    clear K0 R0
    refine hide ?_
    intro wx g8 wS
    rw [unhide HF]
    refine wpAnyH_ready (rs := [2, 5, 8, 10]) (by kernel_rfl) (by simp) ?_
    refine AllReadyH.cons (o := _) rfl (fun K hK => ?_) (AllReadyH.cons (o := _) rfl (fun K hK => ?_) (AllReadyH.cons (o := _) rfl (fun K hK => ?_) (AllReadyH.cons (o := _) rfl (fun K hK => ?_) AllReadyH.nil)))
    · have s2 := (unhide wS).a9 (unhide HE).1 (unhide HE).2
      clear wS
      go_simp
      refine hK.out _ _ trivial (fun hHeld => ?_)
      clear hK K
      (try simp only [Act.put, List.getElem_toArray, List.getElem_cons_succ, List.getElem_cons_zero, List.setIfInBounds_toArray, List.set_cons_zero, List.set_cons_succ])
      generalize wx.alloc (.cells #[] 3) = wy at *
      generalize wx.heap.size = g9 at *
      have fin := unhide st11000 _ g8 g9 (hide s2)
      rw [unhide HF] at fin
      exact fin
    · have s2 := (unhide wS).a12 (unhide HE).1 (unhide HE).2
      clear wS
      go_simp
      refine hK.out _ _ trivial (fun hHeld => ?_)
      clear hK K
      (try simp only [Act.put, List.getElem_toArray, List.getElem_cons_succ, List.getElem_cons_zero, List.setIfInBounds_toArray, List.set_cons_zero, List.set_cons_succ])
      generalize wx.alloc (.cells #[] 3) = wy at *
      generalize wx.heap.size = g12 at *
      have fin := unhide st10100 _ g8 g12 (hide s2)
      rw [unhide HF] at fin
      exact fin
    · have s2 := (unhide wS).a15 (unhide HE).1 (unhide HE).2
      clear wS
      go_simp
      refine hK.out _ _ trivial (fun hHeld => ?_)
      clear hK K
      (try simp only [Act.put, List.getElem_toArray, List.getElem_cons_succ, List.getElem_cons_zero, List.setIfInBounds_toArray, List.set_cons_zero, List.set_cons_succ])
      generalize wx.alloc (.cells #[.int .i64 0, .int .i64 0, .int .i64 0, .int .i64 0, .int .i64 0, .int .i64 0, .int .i64 0] 3) = wy at *
      generalize wx.heap.size = g15 at *
      have fin := unhide st10010 _ g8 g15 (hide s2)
      rw [unhide HF] at fin
      exact fin
    · have s2 := (unhide wS).aal (unhide HE).1 (unhide HE).2
      clear wS
      go_simp
      refine hK.out _ _ trivial (fun hHeld => ?_)
      clear hK K
      (try simp only [Act.put, List.getElem_toArray, List.getElem_cons_succ, List.getElem_cons_zero, List.setIfInBounds_toArray, List.set_cons_zero, List.set_cons_succ])
      generalize wx.alloc (.cells #[.int .i64 0, .int .i64 0, .int .i64 0, .slice none 0 0, .slice none 0 0, .int .i64 0, .slice none 0 0, .slice none 0 0, .slice none 0 0, .int .i64 0, .int .i64 0, .int .i64 0, .bool false] 42) = wy at *
      generalize wx.heap.size = nb at *
      have fin := unhide st10001 _ g8 nb (hide s2)
      rw [unhide HF] at fin
      exact fin
  have st00000 : Hid (∀ (wx : World)  (wS : Hid (NSt w LO rb wx (.slice none 0 0) (.slice none 0 0) (.slice none 0 0) (.slice none 0 0) (.slice none 0 0) [] [])), F 8 #[true, false, false, true, false, false, true, true, false, false, false, false] ⟨#[.int .i64 id, .slice a ms.length c, undef, undef, .pointer (some ⟨rb, 0, none⟩), undef, undef, .int .i64 id, undef, undef, .slice a ms.length c, undef, undef, .int .i64 id, .int .i64 (5 + id), undef, undef, undef, undef, undef, undef, undef, undef, undef, undef, undef, undef], []⟩ wx) := by
    clear st12111 st02111 st11111 st12011 st12101 st12110 st01111 st02011 st02101 st02110 st10111 st11011 st11101 st11110 st12001 st12010 st12100 st00111 st01011 st01101 st01110 st02001 st02010 st02100 st10011 st10101 st10110 st11001 st11010 st11100 st12000 st00011 st00101 st00110 st01001 st01010 st01100 st02000 st10001 st10010 st10100 st11000
    clear K0 R0
    refine hide ?_
    intro wx  wS
    rw [unhide HF]
    refine wpAnyH_ready (rs := [1, 2, 5, 8, 10]) (by kernel_rfl) (by simp) ?_
    refine AllReadyH.cons (o := _) rfl (fun K hK => ?_) (AllReadyH.cons (o := _) rfl (fun K hK => ?_) (AllReadyH.cons (o := _) rfl (fun K hK => ?_) (AllReadyH.cons (o := _) rfl (fun K hK => ?_) (AllReadyH.cons (o := _) rfl (fun K hK => ?_) AllReadyH.nil))))
    · have s2 := (unhide wS).a8 (unhide HE).1 (unhide HE).2
      clear wS
      go_simp
      refine hK.out _ _ trivial (fun hHeld => ?_)
      clear hK K
      (try simp only [Act.put, List.getElem_toArray, List.getElem_cons_succ, List.getElem_cons_zero, List.setIfInBounds_toArray, List.set_cons_zero, List.set_cons_succ])
      generalize wx.alloc (.cells #[] 102) = wy at *
      generalize wx.heap.size = g8 at *
      have fin := unhide st10000 _ g8 (hide s2)
      rw [unhide HF] at fin
      exact fin
    · have s2 := (unhide wS).a9 (unhide HE).1 (unhide HE).2
      clear wS
      go_simp
      refine hK.out _ _ trivial (fun hHeld => ?_)
      clear hK K
      (try simp only [Act.put, List.getElem_toArray, List.getElem_cons_succ, List.getElem_cons_zero, List.setIfInBounds_toArray, List.set_cons_zero, List.set_cons_succ])
      generalize wx.alloc (.cells #[] 3) = wy at *
      generalize wx.heap.size = g9 at *
      have fin := unhide st01000 _ g9 (hide s2)
      rw [unhide HF] at fin
      exact fin
    · have s2 := (unhide wS).a12 (unhide HE).1 (unhide HE).2
      clear wS
      go_simp
      refine hK.out _ _ trivial (fun hHeld => ?_)
      clear hK K
      (try simp only [Act.put, List.getElem_toArray, List.getElem_cons_succ, List.getElem_cons_zero, List.setIfInBounds_toArray, List.set_cons_zero, List.set_cons_succ])
      generalize wx.alloc (.cells #[] 3) = wy at *
      generalize wx.heap.size = g12 at *
      have fin := unhide st00100 _ g12 (hide s2)
      rw [unhide HF] at fin
      exact fin
    · have s2 := (unhide wS).a15 (unhide HE).1 (unhide HE).2
      clear wS
      go_simp
      refine hK.out _ _ trivial (fun hHeld => ?_)
      clear hK K
      (try simp only [Act.put, List.getElem_toArray, List.getElem_cons_succ, List.getElem_cons_zero, List.setIfInBounds_toArray, List.set_cons_zero, List.set_cons_succ])
      generalize wx.alloc (.cells #[.int .i64 0, .int .i64 0, .int .i64 0, .int .i64 0, .int .i64 0, .int .i64 0, .int .i64 0] 3) = wy at *
      generalize wx.heap.size = g15 at *
      have fin := unhide st00010 _ g15 (hide s2)
      rw [unhide HF] at fin
      exact fin
    · have s2 := (unhide wS).aal (unhide HE).1 (unhide HE).2
      clear wS
      go_simp
      refine hK.out _ _ trivial (fun hHeld => ?_)
      clear hK K
      (try simp only [Act.put, List.getElem_toArray, List.getElem_cons_succ, List.getElem_cons_zero, List.setIfInBounds_toArray, List.set_cons_zero, List.set_cons_succ])
      generalize wx.alloc (.cells #[.int .i64 0, .int .i64 0, .int .i64 0, .slice none 0 0, .slice none 0 0, .int .i64 0, .slice none 0 0, .slice none 0 0, .slice none 0 0, .int .i64 0, .int .i64 0, .int .i64 0, .bool false] 42) = wy at *
      generalize wx.heap.size = nb at *
      have fin := unhide st00001 _ nb (hide s2)
      rw [unhide HF] at fin
      exact fin
  have PS : Blks LO w0 [.slice none 0 0, .slice none 0 0, .slice none 0 0, .slice none 0 0, .slice none 0 0] := by
    have nn : ∀ (i : Nat) (u : Value), [Value.slice none 0 0, .slice none 0 0, .slice none 0 0, .slice none 0 0, .slice none 0 0][i]? = some u → u.ownBlock = none := fun i u hu => by
      have := List.mem_of_getElem? hu
      simp at this
      subst this
      rfl
    refine ⟨fun i j a b _ ha _ k h1 _ => ?_, fun i a ha k hk => ?_⟩
    · rw [nn i a ha] at h1; cases h1
    · rw [nn i a ha] at hk; cases hk
  exact unhide st00000 _ (hide ⟨unhide K0, unhide R0, PS, ⟨rfl, .inl ⟨rfl, rfl⟩⟩, ⟨rfl, .inl ⟨rfl, rfl⟩⟩, ⟨rfl, .inl ⟨rfl, rfl⟩⟩, ⟨rfl, .inl ⟨rfl, rfl⟩⟩, fun nb h => by cases h⟩)
end Go.Proofs.Ytafbdjcoimopfaa
