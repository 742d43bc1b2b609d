/- What the proof of the claim needs (joined by program): Cs Sha. -/
import Derived.Test.YtnhhnjmjodmacaaGreatDoorQaa00
import Derived.Test.YtnhhnjmjodmacaaGreatDoorQaa01
import Derived.Deep.RegionHeld3
namespace Go.Proofs.YtnhhnjmjodmacaaGreatDoor
set_option maxRecDepth 100000
set_option maxHeartbeats 8000000
open Go.ChangeShapes Go.WideShapes Go.ChangeAt Go.RowKit
set_option linter.unusedVariables false
set_option linter.unusedSimpArgs false
structure Cm where
 kd : Int
 ss : Int
 sq : Int
 ky : ByteArray
 vl : ByteArray
deriving Inhabited
def cmC (f : Cm) : List Value := [.int .i64 f.kd, .int .i64 f.ss, .int .i64 f.sq, .string f.ky, .string f.vl]
def csC (l : List Cm) : List Value := l.flatMap cmC
def Css (w : World) (v : Value) (l : List Cm) : Prop :=
 ∃ a cap, v = .slice a l.length cap ∧ l.length ≤ cap ∧ cap ≤ maxLen ∧ (l.length = 0 ∨ ∃ b off, a = some ⟨b, off, none⟩ ∧ b < w.heap.size ∧ ∀ i, i < l.length → w.cell? ⟨b, off + i * 5, none⟩ = some (.int .i64 (l.getD i default).kd) ∧ w.cell? ⟨b, off + i * 5 + 1, none⟩ = some (.int .i64 (l.getD i default).ss) ∧ w.cell? ⟨b, off + i * 5 + 2, none⟩ = some (.int .i64 (l.getD i default).sq) ∧ w.cell? ⟨b, off + i * 5 + 3, none⟩ = some (.string (l.getD i default).ky) ∧ w.cell? ⟨b, off + i * 5 + 4, none⟩ = some (.string (l.getD i default).vl))
theorem Css.below {w w' : World} {v : Value} {l : List Cm} (h : Css w v l) (hb : Below w.heap.size w w') : Css w' v l := by
 obtain ⟨a, cap, hv, hn, hm, hc⟩ := h
 refine ⟨a, cap, hv, hn, hm, ?_⟩
 rcases hc with h0 | ⟨b, off, ha, hlt, hc⟩
 ·exact .inl h0
 ·exact .inr ⟨b, off, ha, Nat.lt_of_lt_of_le hlt hb.size, fun i hi => ⟨(hb.cell (p := ⟨b, off + i * 5, none⟩) hlt).trans (hc i hi).1, (hb.cell (p := ⟨b, off + i * 5 + 1, none⟩) hlt).trans (hc i hi).2.1, (hb.cell (p := ⟨b, off + i * 5 + 2, none⟩) hlt).trans (hc i hi).2.2.1, (hb.cell (p := ⟨b, off + i * 5 + 3, none⟩) hlt).trans (hc i hi).2.2.2.1, (hb.cell (p := ⟨b, off + i * 5 + 4, none⟩) hlt).trans (hc i hi).2.2.2.2⟩⟩
theorem csC_len (l : List Cm) : (csC l).length = l.length * 5 := by
 induction l with
 | nil => rfl
 | cons f r ih => simp only [csC, List.flatMap_cons, List.length_append, List.length_cons] at ih ⊢; rw [ih]; simp [cmC]; omega
theorem csC_get : ∀ (l : List Cm) (i : Nat), i < l.length → (csC l)[i * 5]? = some (.int .i64 (l.getD i default).kd) ∧ (csC l)[i * 5 + 1]? = some (.int .i64 (l.getD i default).ss) ∧ (csC l)[i * 5 + 2]? = some (.int .i64 (l.getD i default).sq) ∧ (csC l)[i * 5 + 3]? = some (.string (l.getD i default).ky) ∧ (csC l)[i * 5 + 4]? = some (.string (l.getD i default).vl)
 | [], i, h => by simp at h
 | f :: r, 0, h => ⟨rfl, rfl, rfl, rfl, rfl⟩
 | f :: r, i + 1, h => by
  have ih := csC_get r i (by simpa using h)
  have e : csC (f :: r) = .int .i64 f.kd :: .int .i64 f.ss :: .int .i64 f.sq :: .string f.ky :: .string f.vl :: csC r := rfl
  rw [e, show (i + 1) * 5 = i * 5 + 1 + 1 + 1 + 1 + 1 by omega, show i * 5 + 1 + 1 + 1 + 1 + 1 + 1 = (i * 5 + 1) + 1 + 1 + 1 + 1 + 1 by omega, show i * 5 + 1 + 1 + 1 + 1 + 1 + 2 = (i * 5 + 2) + 1 + 1 + 1 + 1 + 1 by omega, show i * 5 + 1 + 1 + 1 + 1 + 1 + 3 = (i * 5 + 3) + 1 + 1 + 1 + 1 + 1 by omega, show i * 5 + 1 + 1 + 1 + 1 + 1 + 4 = (i * 5 + 4) + 1 + 1 + 1 + 1 + 1 by omega]
  simp only [List.getElem?_cons_succ, List.getD_cons_succ]
  exact ih
theorem csC_set : ∀ (l : List Cm) (k : Nat) (f : Cm), k < l.length → ((((((csC l).set (k * 5) (.int .i64 f.kd)).set (k * 5 + 1) (.int .i64 f.ss)).set (k * 5 + 2) (.int .i64 f.sq)).set (k * 5 + 3) (.string f.ky)).set (k * 5 + 4) (.string f.vl)) = csC (l.set k f)
 | [], k, f, h => by simp at h
 | g :: r, 0, f, h => rfl
 | g :: r, k + 1, f, h => by
  have ih := csC_set r k f (by simpa using h)
  have e : ∀ (g : Cm) (r : List Cm), csC (g :: r) = .int .i64 g.kd :: .int .i64 g.ss :: .int .i64 g.sq :: .string g.ky :: .string g.vl :: csC r := fun _ _ => rfl
  rw [List.set_cons_succ, e, e, ← ih, show (k + 1) * 5 = k * 5 + 1 + 1 + 1 + 1 + 1 by omega, show k * 5 + 1 + 1 + 1 + 1 + 1 + 1 = (k * 5 + 1) + 1 + 1 + 1 + 1 + 1 by omega, show k * 5 + 1 + 1 + 1 + 1 + 1 + 2 = (k * 5 + 2) + 1 + 1 + 1 + 1 + 1 by omega, show k * 5 + 1 + 1 + 1 + 1 + 1 + 3 = (k * 5 + 3) + 1 + 1 + 1 + 1 + 1 by omega, show k * 5 + 1 + 1 + 1 + 1 + 1 + 4 = (k * 5 + 4) + 1 + 1 + 1 + 1 + 1 by omega]
  simp only [List.set_cons_succ]
def OwnC (B : Nat) (w : World) (v : Value) (l : List Cm) : Prop := w.ownsRow B 44 5 v l.length (csC l)
theorem OwnC.cells {B : Nat} {w : World} {g cap n : Nat} {l : List Cm} (h : w.ownsRow B 44 5 (.slice (some ⟨g, 0, none⟩) n cap) n (csC l)) (i : Nat) (hi : i < l.length) (hn : n = l.length) :
  w.cell? ⟨g, i * 5, none⟩ = some (.int .i64 (l.getD i default).kd) ∧ w.cell? ⟨g, i * 5 + 1, none⟩ = some (.int .i64 (l.getD i default).ss) ∧ w.cell? ⟨g, i * 5 + 2, none⟩ = some (.int .i64 (l.getD i default).sq) ∧ w.cell? ⟨g, i * 5 + 3, none⟩ = some (.string (l.getD i default).ky) ∧ w.cell? ⟨g, i * 5 + 4, none⟩ = some (.string (l.getD i default).vl) := by
 obtain ⟨e0, e1, e2, e3, e4⟩ := csC_get l i hi
 exact ⟨(h.cellAt _ (by omega)).trans e0, (h.cellAt _ (by omega)).trans e1, (h.cellAt _ (by omega)).trans e2, (h.cellAt _ (by omega)).trans e3, (h.cellAt _ (by omega)).trans e4⟩
theorem OwnC.read {B : Nat} {w : World} {v : Value} {l : List Cm} (h : OwnC B w v l) : Css w v l := by
 rcases h.2 with ⟨rfl, h0⟩ | ⟨g, cap, cur, rfl, hb, hg, hn, hm, _⟩
 ·obtain rfl := List.eq_nil_of_length_eq_zero h0
  exact ⟨none, 0, rfl, Nat.le_refl _, by unfold maxLen; omega, .inl rfl⟩
 ·refine ⟨_, _, rfl, hn, hm, .inr ⟨g, 0, rfl, (Array.getElem?_eq_some_iff.1 hg).1, fun i hi => ?_⟩⟩
  have := OwnC.cells h i hi rfl
  simpa using this
theorem OwnC.kept {T : Nat → Prop} {B : Nat} {w w' : World} {v : Value} {l : List Cm} (h : OwnC B w v l) (ht : Touch T w w') (hn : ∀ k, v.ownBlock = some k → ¬ T k) : OwnC B w' v l := own_kept h ht hn
theorem OwnC.below {B : Nat} {w w' : World} {v : Value} {l : List Cm} (h : OwnC B w v l) (hb : Below w.heap.size w w') : OwnC B w' v l := h.kept (T := fun _ => False) (Touch.ofBelow hb) (fun _ _ h => h)
theorem OwnC.lt {B : Nat} {w : World} {v : Value} {l : List Cm} (h : OwnC B w v l) : ∀ k, v.ownBlock = some k → B ≤ k ∧ k < w.heap.size := World.ownsRow.lt h
theorem OwnC.down {B B' : Nat} {w : World} {v : Value} {l : List Cm} (h : OwnC B w v l) (hB : B' ≤ B) : OwnC B' w v l := by
 obtain ⟨hl, hc⟩ := h
 refine ⟨hl, ?_⟩
 rcases hc with h0 | ⟨g, cap, cur, hv, hg, rest⟩
 ·exact .inl h0
 ·exact .inr ⟨g, cap, cur, hv, by omega, rest⟩
theorem OwnC.nil (B : Nat) (w : World) : OwnC B w (.slice none 0 0) [] := World.ownsRow_nil w B 44 5
theorem infoCm : (Tryz.prog.info? 44).map (fun i => (i.zero, i.size, i.bytes)) = some (some (.agg #[.int .i64 0, .int .i64 0, .int .i64 0, .string ⟨#[]⟩, .string ⟨#[]⟩]), 5, 56) := by kernel_rfl
theorem wrapCm (n : Int) (h0 : 0 ≤ n) (h1 : n < 9223372036854775808) : IntKind.i64.wrap n = n := by
 simp only [IntKind.wrap, IntKind.bits, IntKind.signed]
 simp
 omega
theorem eqCommand_any (f : Cm) (w : World) :
  Calls Tryz.prog 50 #[.agg #[.int .i64 f.kd, .int .i64 f.ss, .int .i64 f.sq, .string f.ky, .string f.vl], .agg #[.int .i64 f.kd, .int .i64 f.ss, .int .i64 f.sq, .string f.ky, .string f.vl]] w fun e w' => e = .returned (.bool true) ∧ Below w.heap.size w w' := by
 obtain ⟨f0, f1, f2, f3, f4⟩ := f
 dsimp only
 go_enter Tryz.func50, Tryz.ntmps50
 go_wp2_with fail
 go_ret
 exact ⟨rfl, ((Below.refl _ _).alloc (Nat.le_refl _) _).alloc (by simp) _⟩
theorem eqCommandS_any (v v2 : Value) (l : List Cm) (w : World) (h : Css w v l) (h2 : Css w v2 l) (hs : l.length ≤ 1048576) :
  Calls Tryz.prog 21 #[v, v2] w fun e w' => e = .returned (.bool true) ∧ Below w.heap.size w w' := by
 obtain ⟨a, cap, rfl, hn, hm, hc⟩ := h
 obtain ⟨a2, cap2, rfl, hn2, hm2, hc2⟩ := h2
 have HC := Hd hc
 have HC2 := Hd hc2
 clear hc hm hc2 hm2 hn hn2
 go_enter Tryz.func21, Tryz.ntmps21
 go_wp2_with fail
 go_loopw [5] (fun i wr => ∃ k : Nat, k ≤ l.length ∧ i = .int .i64 k ∧ Below w.heap.size w wr) (fun i _ => l.length - (intOf i).toNat)
 case atStart => exact ⟨0, Nat.zero_le _, rfl, Below.refl _ _⟩
 case round =>
  obtain ⟨k, hk, rfl, hb⟩ := hrel
  by_cases hlt : k < l.length
  ·obtain ⟨b, off, rfl, hbl, hsrc⟩ : ∃ b off, a = some ⟨b, off, none⟩ ∧ b < w.heap.size ∧ ∀ i, i < l.length → w.cell? ⟨b, off + i * 5, none⟩ = some (.int .i64 (l.getD i default).kd) ∧ w.cell? ⟨b, off + i * 5 + 1, none⟩ = some (.int .i64 (l.getD i default).ss) ∧ w.cell? ⟨b, off + i * 5 + 2, none⟩ = some (.int .i64 (l.getD i default).sq) ∧ w.cell? ⟨b, off + i * 5 + 3, none⟩ = some (.string (l.getD i default).ky) ∧ w.cell? ⟨b, off + i * 5 + 4, none⟩ = some (.string (l.getD i default).vl) := by
    rcases uh HC with h0 | h1
    ·omega
    ·exact h1
   obtain ⟨b2, off2, rfl, hbl2, hsrc2⟩ : ∃ b off, a2 = some ⟨b, off, none⟩ ∧ b < w.heap.size ∧ ∀ i, i < l.length → w.cell? ⟨b, off + i * 5, none⟩ = some (.int .i64 (l.getD i default).kd) ∧ w.cell? ⟨b, off + i * 5 + 1, none⟩ = some (.int .i64 (l.getD i default).ss) ∧ w.cell? ⟨b, off + i * 5 + 2, none⟩ = some (.int .i64 (l.getD i default).sq) ∧ w.cell? ⟨b, off + i * 5 + 3, none⟩ = some (.string (l.getD i default).ky) ∧ w.cell? ⟨b, off + i * 5 + 4, none⟩ = some (.string (l.getD i default).vl) := by
    rcases uh HC2 with h0 | h1
    ·omega
    ·exact h1
   obtain ⟨s0, s1, s2, s3, s4⟩ := hsrc k hlt
   obtain ⟨t0, t1, t2, t3, t4⟩ := hsrc2 k hlt
   have c0 := (hb.cell (p := ⟨b, off + k * 5, none⟩) hbl).trans s0
   have d0 := (hb.cell (p := ⟨b2, off2 + k * 5, none⟩) hbl2).trans t0
   have c1 := (hb.cell (p := ⟨b, off + k * 5 + 1, none⟩) hbl).trans s1
   have d1 := (hb.cell (p := ⟨b2, off2 + k * 5 + 1, none⟩) hbl2).trans t1
   have c2 := (hb.cell (p := ⟨b, off + k * 5 + 2, none⟩) hbl).trans s2
   have d2 := (hb.cell (p := ⟨b2, off2 + k * 5 + 2, none⟩) hbl2).trans t2
   have c3 := (hb.cell (p := ⟨b, off + k * 5 + 3, none⟩) hbl).trans s3
   have d3 := (hb.cell (p := ⟨b2, off2 + k * 5 + 3, none⟩) hbl2).trans t3
   have c4 := (hb.cell (p := ⟨b, off + k * 5 + 4, none⟩) hbl).trans s4
   have d4 := (hb.cell (p := ⟨b2, off2 + k * 5 + 4, none⟩) hbl2).trans t4
   have hk0 : (0 : Int) ≤ (k : Int) := by omega
   have hk1 : (k : Int) < (l.length : Int) := by omega
   have hbs := hb.size
   have HB := Hd hb
   clear hsrc hsrc2 s0 t0 s1 t1 s2 t2 s3 t3 s4 t4 hb
   generalize l.getD k default = f at *
   have HT := Hd (fun wx => eqCommand_any f wx)
   obtain ⟨f0, f1, f2, f3, f4⟩ := f
   dsimp only at c0 d0 c1 d1 c2 d2 c3 d3 c4 d4 HT
   go_wp2_with fail
   go_region_held3 (fun wx => wx.cell? ⟨b, off + k * 5, none⟩ = some (.int .i64 f0) ∧ wx.cell? ⟨b, off + k * 5 + 1, none⟩ = some (.int .i64 f1) ∧ wx.cell? ⟨b, off + k * 5 + 2, none⟩ = some (.int .i64 f2) ∧ wx.cell? ⟨b, off + k * 5 + 3, none⟩ = some (.string f3) ∧ wx.cell? ⟨b, off + k * 5 + 4, none⟩ = some (.string f4) ∧ wx.cell? ⟨b2, off2 + k * 5, none⟩ = some (.int .i64 f0) ∧ wx.cell? ⟨b2, off2 + k * 5 + 1, none⟩ = some (.int .i64 f1) ∧ wx.cell? ⟨b2, off2 + k * 5 + 2, none⟩ = some (.int .i64 f2) ∧ wx.cell? ⟨b2, off2 + k * 5 + 3, none⟩ = some (.string f3) ∧ wx.cell? ⟨b2, off2 + k * 5 + 4, none⟩ = some (.string f4))
    (first | go_keep | exact ⟨(hb2.cell (p := ⟨b, off + k * 5, none⟩) (by simp; omega)).trans c0, (hb2.cell (p := ⟨b, off + k * 5 + 1, none⟩) (by simp; omega)).trans c1, (hb2.cell (p := ⟨b, off + k * 5 + 2, none⟩) (by simp; omega)).trans c2, (hb2.cell (p := ⟨b, off + k * 5 + 3, none⟩) (by simp; omega)).trans c3, (hb2.cell (p := ⟨b, off + k * 5 + 4, none⟩) (by simp; omega)).trans c4, (hb2.cell (p := ⟨b2, off2 + k * 5, none⟩) (by simp; omega)).trans d0, (hb2.cell (p := ⟨b2, off2 + k * 5 + 1, none⟩) (by simp; omega)).trans d1, (hb2.cell (p := ⟨b2, off2 + k * 5 + 2, none⟩) (by simp; omega)).trans d2, (hb2.cell (p := ⟨b2, off2 + k * 5 + 3, none⟩) (by simp; omega)).trans d3, (hb2.cell (p := ⟨b2, off2 + k * 5 + 4, none⟩) (by simp; omega)).trans d4⟩)
    ((go_at_call 50; refine (uh HT _).mono ?_; rintro e w2 ⟨rfl, hb2⟩))
   all_goals
    have HBZ := Hd ((uh HB).trans (show Below w.heap.size wr w2 from (below_drewN (Below.refl _ wr) 1).trans (hb2.mono (by simpa using hbs))))
    clear hb2 HB
    go_wp2_with fail
    refine ⟨⟨k + 1, by omega, by go_num, uh HBZ⟩, ?_⟩
    simp [intOf]; omega
  ·have HB := Hd hb
   clear hb
   go_wp2_with fail
   go_ret
   exact ⟨rfl, uh HB⟩
def cmk (c j : Nat) : Cm := ⟨(c : Int) + 5 * (j : Int), (c : Int) + 5 * (j : Int) + 1, (c : Int) + 5 * (j : Int) + 1 + 1, mtx (c + 5 * j + 3), mtx (c + 5 * j + 4)⟩
def cmkTo (c : Nat) (l : List Cm) (k : Nat) : List Cm := (List.range l.length).map fun j => if j < k then cmk c j else l.getD j default
def cmks (c n : Nat) : List Cm := (List.range n).map fun j => cmk c j
theorem cmkTo_len (c : Nat) (l : List Cm) (k : Nat) : (cmkTo c l k).length = l.length := by simp [cmkTo]
theorem cmks_len (c n : Nat) : (cmks c n).length = n := by simp [cmks]
theorem cmkTo_zero (c : Nat) (l : List Cm) : cmkTo c l 0 = l := by
 apply List.ext_getElem?
 intro j
 by_cases hj : j < l.length
 ·simp [cmkTo, hj, List.getD_eq_getElem?_getD]
 ·simp [cmkTo, hj]
theorem cmkTo_all (c : Nat) (l : List Cm) : cmkTo c l l.length = cmks c l.length := by
 apply List.ext_getElem?
 intro j
 by_cases hj : j < l.length
 ·simp [cmkTo, cmks, hj]
 ·simp [cmkTo, cmks, hj]
theorem cmkTo_set (c : Nat) (l : List Cm) (k : Nat) (hk : k < l.length) : (cmkTo c l k).set k (cmk c k) = cmkTo c l (k + 1) := by
 apply List.ext_getElem?
 intro j
 rw [List.getElem?_set]
 simp only [cmkTo_len]
 by_cases e : k = j
 ·subst e
  rw [if_pos rfl, if_pos hk]
  simp [cmkTo, hk]
 ·rw [if_neg e]
  by_cases hj : j < l.length
  ·by_cases h1 : j < k
   ·simp [cmkTo, hj, h1, show j < k + 1 by omega]
   ·simp [cmkTo, hj, h1, show ¬ j < k + 1 by omega]
  ·simp [cmkTo, hj]
theorem markCommandS_any (c : Nat) (hc0 : 0 < c) (hc1 : c ≤ 4194304) (B : Nat) (v : Value) (l : List Cm) (w : World) (h : OwnC B w v l) (hl : l.length ≤ 1048576) :
  Calls Tryz.prog 22 #[v, .int .i64 (c : Int)] w fun e w' => e = .returned (.int .i64 ((c : Int) + 5 * (l.length : Int))) ∧ OwnC B w' v (cmks c l.length) ∧ Touch (fun k => v.ownBlock = some k) w w' := by
 rcases own_shape h with ⟨rfl, h0⟩ | ⟨g, cap, rfl, hB, hlt0, hn, hm⟩
 ·obtain rfl : l = [] := List.eq_nil_of_length_eq_zero h0
  have HO : Hid (OwnC B w (.slice none 0 0) (cmks c 0)) := Hd h
  clear h
  go_enter Tryz.func22, Tryz.ntmps22
  go_wp2_with fail
  go_loop [1, 5] (fun k i => k = .int .i64 (c : Int) ∧ i = .int .i64 0) (fun _ _ => 0)
  case atStart => exact ⟨rfl, rfl⟩
  case round =>
   obtain ⟨rfl, rfl⟩ := hrel
   go_wp2_with fail
   go_ret
   exact ⟨ret_int (by simp), uh HO, Touch.refl _ _⟩
 ·have H : Hid (w.ownsRow B 44 5 (.slice (some ⟨g, 0, none⟩) l.length cap) l.length (csC (cmkTo c l 0))) := Hd (by rw [cmkTo_zero]; exact h)
  clear h
  go_enter Tryz.func22, Tryz.ntmps22
  go_wp2_with fail
  go_loopw [1, 5] (fun k i wr => ∃ j : Nat, j ≤ l.length ∧ k = .int .i64 ((c : Int) + 5 * (j : Int)) ∧ i = .int .i64 j ∧ wr.ownsRow B 44 5 (.slice (some ⟨g, 0, none⟩) l.length cap) l.length (csC (cmkTo c l j)) ∧ Touch (fun k => (Value.slice (some ⟨g, 0, none⟩) l.length cap).ownBlock = some k) w wr) (fun _ i _ => l.length - (intOf i).toNat)
  case atStart => exact ⟨0, Nat.zero_le _, congrArg (Value.int .i64) (by omega), rfl, uh H, Touch.refl _ _⟩
  case round =>
   obtain ⟨j, hj, rfl, rfl, hL, hT⟩ := hrel
   by_cases hlt2 : j < l.length
   ·have p0 : (0 : Int) ≤ (j : Int) := by omega
    have p1 : (j : Int) < (l.length : Int) := by omega
    have hfl := csC_len (cmkTo c l j)
    have hml := cmkTo_len c l j
    obtain ⟨g0, g1, g2, g3, g4⟩ := csC_get (cmkTo c l j) j (by omega)
    have q1 : IntKind.i64.wrap ((c : Int) + 5 * (j : Int) + 1) = (c : Int) + 5 * (j : Int) + 1 := wrapCm _ (by omega) (by omega)
    have q2 : IntKind.i64.wrap ((c : Int) + 5 * (j : Int) + 1 + 1) = (c : Int) + 5 * (j : Int) + 1 + 1 := wrapCm _ (by omega) (by omega)
    have q3 : IntKind.i64.wrap ((c : Int) + 5 * (j : Int) + 1 + 1 + 1) = (c : Int) + 5 * (j : Int) + 1 + 1 + 1 := wrapCm _ (by omega) (by omega)
    have q4 : IntKind.i64.wrap ((c : Int) + 5 * (j : Int) + 1 + 1 + 1 + 1) = (c : Int) + 5 * (j : Int) + 1 + 1 + 1 + 1 := wrapCm _ (by omega) (by omega)
    have q5 : IntKind.i64.wrap ((c : Int) + 5 * (j : Int) + 1 + 1 + 1 + 1 + 1) = (c : Int) + 5 * (j : Int) + 1 + 1 + 1 + 1 + 1 := wrapCm _ (by omega) (by omega)
    have c0 := (hL.cellAt (j * 5) (by omega)).trans g0
    have f0 := hL.frozenAt (j * 5)
    have c1 := (hL.cellAt (j * 5 + 1) (by omega)).trans g1
    have f1 := hL.frozenAt (j * 5 + 1)
    have c2 := (hL.cellAt (j * 5 + 2) (by omega)).trans g2
    have f2 := hL.frozenAt (j * 5 + 2)
    have hL1 := (hL.stored (j * 5) (.int .i64 ((c : Int) + 5 * (j : Int)))).1
    have hT1 := hT.setCell ⟨g, j * 5, none⟩ (.int .i64 ((c : Int) + 5 * (j : Int))) (fun _ => rfl)
    have hL2 := (hL1.stored (j * 5 + 1) (.int .i64 ((c : Int) + 5 * (j : Int) + 1))).1
    have hT2 := hT1.setCell ⟨g, j * 5 + 1, none⟩ (.int .i64 ((c : Int) + 5 * (j : Int) + 1)) (fun _ => rfl)
    have hL3 := (hL2.stored (j * 5 + 2) (.int .i64 ((c : Int) + 5 * (j : Int) + 1 + 1))).1
    have hT3 := hT2.setCell ⟨g, j * 5 + 2, none⟩ (.int .i64 ((c : Int) + 5 * (j : Int) + 1 + 1)) (fun _ => rfl)
    have c3 := (hL3.cellAt (j * 5 + 3) (by omega)).trans ((List.getElem?_set_ne (by omega)).trans ((List.getElem?_set_ne (by omega)).trans ((List.getElem?_set_ne (by omega)).trans g3)))
    have c4 := (hL3.cellAt (j * 5 + 4) (by omega)).trans ((List.getElem?_set_ne (by omega)).trans ((List.getElem?_set_ne (by omega)).trans ((List.getElem?_set_ne (by omega)).trans g4)))
    have HLL := Hd (And.intro hL3 hT3)
    have HCC : Hid ((((wr.setCell ⟨g, j * 5, none⟩ (.int .i64 ((c : Int) + 5 * (j : Int)))).setCell ⟨g, j * 5 + 1, none⟩ (.int .i64 ((c : Int) + 5 * (j : Int) + 1))).setCell ⟨g, j * 5 + 2, none⟩ (.int .i64 ((c : Int) + 5 * (j : Int) + 1 + 1))).cell? ⟨g, j * 5 + 3, none⟩ = some (.string ((cmkTo c l j).getD j default).ky) ∧ (((wr.setCell ⟨g, j * 5, none⟩ (.int .i64 ((c : Int) + 5 * (j : Int)))).setCell ⟨g, j * 5 + 1, none⟩ (.int .i64 ((c : Int) + 5 * (j : Int) + 1))).setCell ⟨g, j * 5 + 2, none⟩ (.int .i64 ((c : Int) + 5 * (j : Int) + 1 + 1))).cell? ⟨g, j * 5 + 4, none⟩ = some (.string ((cmkTo c l j).getD j default).vl)) := Hd ⟨c3, c4⟩
    have hset := csC_set (cmkTo c l j) j (cmk c j) (by omega)
    rw [cmkTo_set c l j hlt2] at hset
    simp only [cmk] at hset
    have HSET := Hd hset
    clear hset
    have HFL := Hd (And.intro hfl hml)
    clear hL hT hL1 hT1 hL2 hT2 hL3 hT3 c3 c4 hfl hml g0 g1 g2 g3 g4
    generalize hdf : (cmkTo c l j).getD j default = df at *
    clear hdf
    go_wp2_with fail
    clear c0 f0 c1 f1 c2 f2
    generalize (((wr.setCell ⟨g, j * 5, none⟩ (.int .i64 ((c : Int) + 5 * (j : Int)))).setCell ⟨g, j * 5 + 1, none⟩ (.int .i64 ((c : Int) + 5 * (j : Int) + 1))).setCell ⟨g, j * 5 + 2, none⟩ (.int .i64 ((c : Int) + 5 * (j : Int) + 1 + 1))) = u0 at *
    refine (markText_int _ (c + 5 * j + 3) (by omega) u0 (by omega) (by omega)).mono ?_
    rintro e u1 ⟨rfl, hb0⟩
    have hO0 := own_kept (T := fun _ => False) (uh HLL).1 (Touch.ofBelow hb0) (fun _ _ h => h)
    have hS0 : Touch (fun k => (Value.slice (some ⟨g, 0, none⟩) l.length cap).ownBlock = some k) w u1 := (uh HLL).2.trans (T' := fun _ => False) (Touch.ofBelow hb0) (fun _ _ h => h.elim)
    have hg0 : g < u0.heap.size := (World.ownsRow.lt (uh HLL).1 g rfl).2
    have c3 := (hb0.cell (p := ⟨g, j * 5 + 3, none⟩) hg0).trans (uh HCC).1
    have f3 := hO0.frozenAt (j * 5 + 3)
    have hQ0 := (hO0.stored (j * 5 + 3) (.string (mtx (c + 5 * j + 3)))).1
    have hR0 := hS0.setCell ⟨g, j * 5 + 3, none⟩ (.string (mtx (c + 5 * j + 3))) (fun _ => rfl)
    have HCN : Hid ((u1.setCell ⟨g, j * 5 + 3, none⟩ (.string (mtx (c + 5 * j + 3)))).cell? ⟨g, j * 5 + 4, none⟩ = some (.string df.vl)) := Hd ((World.cell?_setCell_other _ _ _ _ (by simp)).trans ((hb0.cell (p := ⟨g, j * 5 + 4, none⟩) hg0).trans (uh HCC).2))
    have HLN := Hd (And.intro hQ0 hR0)
    clear hb0 hO0 hS0 hQ0 hR0 HLL HCC hg0
    have HLL := HLN
    have HCC := HCN
    clear HLN HCN
    generalize mtx (c + 5 * j + 3) = x3 at *
    go_wp2_with fail
    clear c3 f3
    generalize u1.setCell ⟨g, j * 5 + 3, none⟩ (.string x3) = u2 at *
    refine (markText_int _ (c + 5 * j + 4) (by omega) u2 (by omega) (by omega)).mono ?_
    rintro e u3 ⟨rfl, hb1⟩
    have hO1 := own_kept (T := fun _ => False) (uh HLL).1 (Touch.ofBelow hb1) (fun _ _ h => h)
    have hS1 : Touch (fun k => (Value.slice (some ⟨g, 0, none⟩) l.length cap).ownBlock = some k) w u3 := (uh HLL).2.trans (T' := fun _ => False) (Touch.ofBelow hb1) (fun _ _ h => h.elim)
    have hg1 : g < u2.heap.size := (World.ownsRow.lt (uh HLL).1 g rfl).2
    have c4 := (hb1.cell (p := ⟨g, j * 5 + 4, none⟩) hg1).trans (uh HCC)
    have f4 := hO1.frozenAt (j * 5 + 4)
    have hQ1 := (hO1.stored (j * 5 + 4) (.string (mtx (c + 5 * j + 4)))).1
    have hR1 := hS1.setCell ⟨g, j * 5 + 4, none⟩ (.string (mtx (c + 5 * j + 4))) (fun _ => rfl)
    rw [uh HSET] at hQ1
    have R6 := Hd (And.intro hQ1 hR1)
    clear hb1 hO1 hS1 hQ1 hR1 HLL HCC HSET HFL hg1
    generalize mtx (c + 5 * j + 4) = x4 at *
    go_wp2_with fail
    refine ⟨⟨j + 1, by omega, ?_, by go_num, (uh R6).1, (uh R6).2⟩, ?_⟩
    ·exact congrArg (Value.int .i64) (by omega)
    ·simp [intOf]; omega
   ·obtain rfl : j = l.length := by omega
    have R := Hd (And.intro hL hT)
    clear hL hT
    go_wp2_with fail
    go_ret
    refine ⟨rfl, ?_, (uh R).2⟩
    have := (uh R).1
    rw [cmkTo_all] at this
    unfold OwnC
    rw [cmks_len]
    exact this
end Go.Proofs.YtnhhnjmjodmacaaGreatDoor
namespace Go.Proofs.YtnhhnjmjodmacaaGreatDoor.Sha
set_option maxRecDepth 100000
set_option maxHeartbeats 8000000
open Go.RowKit
set_option linter.unusedVariables false
def rotr (x n : Nat) : Nat := x / 2 ^ n ||| x * 2 ^ (32 - n) % 4294967296
theorem rotr_lt {x : Nat} (h : x < 4294967296) (n : Nat) : rotr x n < 4294967296 := by
 unfold rotr
 exact Nat.or_lt_two_pow (n := 32) (Nat.lt_of_le_of_lt (Nat.div_le_self _ _) h) (Nat.mod_lt _ (by omega))
theorem xor_lt {a b : Nat} (h : a < 4294967296) (h2 : b < 4294967296) : a ^^^ b < 4294967296 := Nat.xor_lt_two_pow (n := 32) h h2
theorem or_lt {a b : Nat} (h : a < 4294967296) (h2 : b < 4294967296) : a ||| b < 4294967296 := Nat.or_lt_two_pow (n := 32) h h2
theorem and_lt {a b : Nat} (h : a < 4294967296) : a &&& b < 4294967296 := Nat.lt_of_le_of_lt Nat.and_le_left h
theorem div_lt {a : Nat} (h : a < 4294967296) (n : Nat) : a / n < 4294967296 := Nat.lt_of_le_of_lt (Nat.div_le_self _ _) h

def add (a b : Nat) : Nat := (a + b) % 4294967296
theorem add_lt (a b : Nat) : add a b < 4294967296 := Nat.mod_lt _ (by omega)
theorem add_comm (a b : Nat) : add a b = add b a := by unfold add; rw [Nat.add_comm]
def s0 (x : Nat) : Nat := rotr x 7 ^^^ rotr x 18 ^^^ x / 8
def s1 (x : Nat) : Nat := rotr x 17 ^^^ rotr x 19 ^^^ x / 1024
def bE (x : Nat) : Nat := rotr x 6 ^^^ rotr x 11 ^^^ rotr x 25
def bA (x : Nat) : Nat := rotr x 2 ^^^ rotr x 13 ^^^ rotr x 22
def ch (e f g : Nat) : Nat := e &&& f ||| (4294967295 ^^^ e) &&& g
def maj (a b c : Nat) : Nat := a &&& b ||| a &&& c ||| b &&& c
theorem not_lt {x : Nat} (h : x < 4294967296) : 4294967295 ^^^ x < 4294967296 := xor_lt (by omega) h
theorem ch_xor {e : Nat} (f g : Nat) (h : e < 4294967296) : (e &&& f) ^^^ ((4294967295 ^^^ e) &&& g) = ch e f g := by
 unfold ch
 apply Nat.eq_of_testBit_eq
 intro i
 have hm : Nat.testBit 4294967295 i = decide (i < 32) := Nat.testBit_two_pow_sub_one 32 i
 simp only [Nat.testBit_xor, Nat.testBit_or, Nat.testBit_and, hm]
 by_cases hi : i < 32
 ·simp only [hi, decide_true]
  cases e.testBit i <;> cases f.testBit i <;> cases g.testBit i <;> rfl
 ·have he : e.testBit i = false := Nat.testBit_lt_two_pow (Nat.lt_of_lt_of_le (show e < 2 ^ 32 from h) (Nat.pow_le_pow_right (Nat.zero_lt_succ 1) (show 32 ≤ i by omega)))
  simp only [he, hi, decide_false]
  cases f.testBit i <;> cases g.testBit i <;> rfl
theorem maj_xor (a b c : Nat) : (a &&& b) ^^^ (a &&& c) ^^^ (b &&& c) = maj a b c := by
 unfold maj
 apply Nat.eq_of_testBit_eq
 intro i
 simp only [Nat.testBit_xor, Nat.testBit_or, Nat.testBit_and]
 cases a.testBit i <;> cases b.testBit i <;> cases c.testBit i <;> rfl

theorem wxor {a b : Nat} (h : a < 4294967296) (h2 : b < 4294967296) : bits BinOp.xor IntKind.u32 (a : Int) (b : Int) = ((a ^^^ b : Nat) : Int) := u32_xor_nat a b h h2
theorem wor {a b : Nat} (h : a < 4294967296) (h2 : b < 4294967296) : bits BinOp.or IntKind.u32 (a : Int) (b : Int) = ((a ||| b : Nat) : Int) := u32_or_nat a b h h2
theorem wand {a b : Nat} (h : a < 4294967296) (h2 : b < 4294967296) : bits BinOp.and IntKind.u32 (a : Int) (b : Int) = ((a &&& b : Nat) : Int) := u32_and_nat a b h h2
theorem wnot {a : Nat} (h : a < 4294967296) : bits BinOp.xor IntKind.u32 IntKind.u32.max (a : Int) = ((4294967295 ^^^ a : Nat) : Int) := u32_xor_nat 4294967295 a (by omega) h
theorem wadd (a b : Nat) : ((a : Int) + (b : Int)) % 4294967296 = ((add a b : Nat) : Int) := by unfold add; omega
theorem wrotr {x : Nat} (n : Nat) (h : x < 4294967296) : bits BinOp.or IntKind.u32 ((x : Int) / 2 ^ n) ((x : Int) * 2 ^ (32 - n) % 4294967296) = ((rotr x n : Nat) : Int) := by
 have e1 : (x : Int) / 2 ^ n = ((x / 2 ^ n : Nat) : Int) := by rw [Int.natCast_ediv, Int.natCast_pow]; rfl
 have e2 : (x : Int) * 2 ^ (32 - n) % 4294967296 = ((x * 2 ^ (32 - n) % 4294967296 : Nat) : Int) := by
  rw [Int.natCast_emod, Int.natCast_mul, Int.natCast_pow]; rfl
 rw [e1, e2, wor (div_lt h _) (Nat.mod_lt _ (by omega))]
 rfl
theorem wrotl {x : Nat} (n : Nat) (h : x < 4294967296) : bits BinOp.or IntKind.u32 ((x : Int) * 2 ^ (32 - n) % 4294967296) ((x : Int) / 2 ^ n) = ((rotr x n : Nat) : Int) := by
 have e1 : (x : Int) / 2 ^ n = ((x / 2 ^ n : Nat) : Int) := by rw [Int.natCast_ediv, Int.natCast_pow]; rfl
 have e2 : (x : Int) * 2 ^ (32 - n) % 4294967296 = ((x * 2 ^ (32 - n) % 4294967296 : Nat) : Int) := by
  rw [Int.natCast_emod, Int.natCast_mul, Int.natCast_pow]; rfl
 rw [e1, e2, wor (Nat.mod_lt _ (by omega)) (div_lt h _), Nat.or_comm]
 rfl
theorem wturn (n : Nat) (h1 : 1 ≤ n) (h2 : n ≤ 31) : bits BinOp.and IntKind.u64 (IntKind.u64.wrap (-(n : Int))) 31 = ((32 - n : Nat) : Int) := by
 have e : IntKind.u64.wrap (-(n : Int)) = ((18446744073709551616 - n : Nat) : Int) := by
  simp only [IntKind.wrap, IntKind.bits, IntKind.signed]
  simp; omega
 rw [e, show (31 : Int) = ((31 : Nat) : Int) from rfl, u64_and_nat _ 31 (by omega) (by omega)]
 have : (18446744073709551616 - n) &&& 31 = (18446744073709551616 - n) % 32 := Nat.and_two_pow_sub_one_eq_mod _ 5
 rw [this]; omega
end Go.Proofs.YtnhhnjmjodmacaaGreatDoor.Sha
