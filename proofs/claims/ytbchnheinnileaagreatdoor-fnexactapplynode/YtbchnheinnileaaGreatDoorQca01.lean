/- What the proof of the claim needs (joined by program): Ses In Qb ApQ Res Cs Sha ShaW. -/
import Derived.Test.YtbchnheinnileaaGreatDoorQca00
import Derived.Deep.Fields
import Derived.Deep.Slices
import Derived.Deep.RegionHeld3
import Derived.Deep.Quiet
import Derived.WalkSpells
namespace Go.Proofs.YtbchnheinnileaaGreatDoor
set_option maxRecDepth 100000
set_option maxHeartbeats 8000000
open Go.ChangeShapes Go.WideShapes Go.ChangeAt Go.RowKit Go.Deep
set_option linter.unusedVariables false
set_option linter.unusedSimpArgs false
structure Se where
 id : Int
 sq : Int
 kd : Int
 pl : Int
 vl : ByteArray
deriving Inhabited
def seC (f : Se) : List Value := [.int .i64 f.id, .int .i64 f.sq, .int .i64 f.kd, .int .i64 f.pl, .string f.vl]
def sesC (l : List Se) : List Value := l.flatMap seC
def Sess (w : World) (v : Value) (l : List Se) : Prop :=
 ∃ a cap, v = .slice a l.length cap ∧ l.length ≤ cap ∧ cap ≤ maxLen ∧ (l.length = 0 ∨ ∃ b off, a = some ⟨b, off, none⟩ ∧ b < w.heap.size ∧ ∀ i, i < l.length → w.cell? ⟨b, off + i * 5, none⟩ = some (.int .i64 (l.getD i default).id) ∧ w.cell? ⟨b, off + i * 5 + 1, none⟩ = some (.int .i64 (l.getD i default).sq) ∧ w.cell? ⟨b, off + i * 5 + 2, none⟩ = some (.int .i64 (l.getD i default).kd) ∧ w.cell? ⟨b, off + i * 5 + 3, none⟩ = some (.int .i64 (l.getD i default).pl) ∧ w.cell? ⟨b, off + i * 5 + 4, none⟩ = some (.string (l.getD i default).vl))
theorem Sess.below {w w' : World} {v : Value} {l : List Se} (h : Sess w v l) (hb : Below w.heap.size w w') : Sess w' v l := by
 obtain ⟨a, cap, hv, hn, hm, hc⟩ := h
 refine ⟨a, cap, hv, hn, hm, ?_⟩
 rcases hc with h0 | ⟨b, off, ha, hlt, hc⟩
 ·exact .inl h0
 ·exact .inr ⟨b, off, ha, Nat.lt_of_lt_of_le hlt hb.size, fun i hi => ⟨(hb.cell (p := ⟨b, off + i * 5, none⟩) hlt).trans (hc i hi).1, (hb.cell (p := ⟨b, off + i * 5 + 1, none⟩) hlt).trans (hc i hi).2.1, (hb.cell (p := ⟨b, off + i * 5 + 2, none⟩) hlt).trans (hc i hi).2.2.1, (hb.cell (p := ⟨b, off + i * 5 + 3, none⟩) hlt).trans (hc i hi).2.2.2.1, (hb.cell (p := ⟨b, off + i * 5 + 4, none⟩) hlt).trans (hc i hi).2.2.2.2⟩⟩
theorem sesC_len (l : List Se) : (sesC l).length = l.length * 5 := by
 induction l with
 | nil => rfl
 | cons f r ih => simp only [sesC, List.flatMap_cons, List.length_append, List.length_cons] at ih ⊢; rw [ih]; simp [seC]; omega
theorem sesC_app (x y : List Se) : sesC (x ++ y) = sesC x ++ sesC y := by simp [sesC]
theorem sesC_get : ∀ (l : List Se) (i : Nat), i < l.length → (sesC l)[i * 5]? = some (.int .i64 (l.getD i default).id) ∧ (sesC l)[i * 5 + 1]? = some (.int .i64 (l.getD i default).sq) ∧ (sesC l)[i * 5 + 2]? = some (.int .i64 (l.getD i default).kd) ∧ (sesC l)[i * 5 + 3]? = some (.int .i64 (l.getD i default).pl) ∧ (sesC l)[i * 5 + 4]? = some (.string (l.getD i default).vl)
 | [], i, h => by simp at h
 | f :: r, 0, h => ⟨rfl, rfl, rfl, rfl, rfl⟩
 | f :: r, i + 1, h => by
  have ih := sesC_get r i (by simpa using h)
  have e : sesC (f :: r) = .int .i64 f.id :: .int .i64 f.sq :: .int .i64 f.kd :: .int .i64 f.pl :: .string f.vl :: sesC r := rfl
  rw [e, show (i + 1) * 5 = i * 5 + 1 + 1 + 1 + 1 + 1 by omega, show i * 5 + 1 + 1 + 1 + 1 + 1 + 1 = (i * 5 + 1) + 1 + 1 + 1 + 1 + 1 by omega, show i * 5 + 1 + 1 + 1 + 1 + 1 + 2 = (i * 5 + 2) + 1 + 1 + 1 + 1 + 1 by omega, show i * 5 + 1 + 1 + 1 + 1 + 1 + 3 = (i * 5 + 3) + 1 + 1 + 1 + 1 + 1 by omega, show i * 5 + 1 + 1 + 1 + 1 + 1 + 4 = (i * 5 + 4) + 1 + 1 + 1 + 1 + 1 by omega]
  simp only [List.getElem?_cons_succ, List.getD_cons_succ]
  exact ih
theorem sesC_set : ∀ (l : List Se) (k : Nat) (f : Se), k < l.length → ((((((sesC l).set (k * 5) (.int .i64 f.id)).set (k * 5 + 1) (.int .i64 f.sq)).set (k * 5 + 2) (.int .i64 f.kd)).set (k * 5 + 3) (.int .i64 f.pl)).set (k * 5 + 4) (.string f.vl)) = sesC (l.set k f)
 | [], k, f, h => by simp at h
 | g :: r, 0, f, h => rfl
 | g :: r, k + 1, f, h => by
  have ih := sesC_set r k f (by simpa using h)
  have e : ∀ (g : Se) (r : List Se), sesC (g :: r) = .int .i64 g.id :: .int .i64 g.sq :: .int .i64 g.kd :: .int .i64 g.pl :: .string g.vl :: sesC r := fun _ _ => rfl
  rw [List.set_cons_succ, e, e, ← ih, show (k + 1) * 5 = k * 5 + 1 + 1 + 1 + 1 + 1 by omega, show k * 5 + 1 + 1 + 1 + 1 + 1 + 1 = (k * 5 + 1) + 1 + 1 + 1 + 1 + 1 by omega, show k * 5 + 1 + 1 + 1 + 1 + 1 + 2 = (k * 5 + 2) + 1 + 1 + 1 + 1 + 1 by omega, show k * 5 + 1 + 1 + 1 + 1 + 1 + 3 = (k * 5 + 3) + 1 + 1 + 1 + 1 + 1 by omega, show k * 5 + 1 + 1 + 1 + 1 + 1 + 4 = (k * 5 + 4) + 1 + 1 + 1 + 1 + 1 by omega]
  simp only [List.set_cons_succ]
def OwnSe (B : Nat) (w : World) (v : Value) (l : List Se) : Prop := w.ownsRow B 103 5 v l.length (sesC l)
theorem OwnSe.cells {B : Nat} {w : World} {g cap n : Nat} {l : List Se} (h : w.ownsRow B 103 5 (.slice (some ⟨g, 0, none⟩) n cap) n (sesC l)) (i : Nat) (hi : i < l.length) (hn : n = l.length) :
  w.cell? ⟨g, i * 5, none⟩ = some (.int .i64 (l.getD i default).id) ∧ w.cell? ⟨g, i * 5 + 1, none⟩ = some (.int .i64 (l.getD i default).sq) ∧ w.cell? ⟨g, i * 5 + 2, none⟩ = some (.int .i64 (l.getD i default).kd) ∧ w.cell? ⟨g, i * 5 + 3, none⟩ = some (.int .i64 (l.getD i default).pl) ∧ w.cell? ⟨g, i * 5 + 4, none⟩ = some (.string (l.getD i default).vl) := by
 obtain ⟨e0, e1, e2, e3, e4⟩ := sesC_get l i hi
 exact ⟨(h.cellAt _ (by omega)).trans e0, (h.cellAt _ (by omega)).trans e1, (h.cellAt _ (by omega)).trans e2, (h.cellAt _ (by omega)).trans e3, (h.cellAt _ (by omega)).trans e4⟩
theorem OwnSe.read {B : Nat} {w : World} {v : Value} {l : List Se} (h : OwnSe B w v l) : Sess w v l := by
 rcases h.2 with ⟨rfl, h0⟩ | ⟨g, cap, cur, rfl, hb, hg, hn, hm, _⟩
 ·obtain rfl := List.eq_nil_of_length_eq_zero h0
  exact ⟨none, 0, rfl, Nat.le_refl _, by unfold maxLen; omega, .inl rfl⟩
 ·refine ⟨_, _, rfl, hn, hm, .inr ⟨g, 0, rfl, (Array.getElem?_eq_some_iff.1 hg).1, fun i hi => ?_⟩⟩
  have := OwnSe.cells h i hi rfl
  simpa using this
theorem OwnSe.kept {T : Nat → Prop} {B : Nat} {w w' : World} {v : Value} {l : List Se} (h : OwnSe B w v l) (ht : Touch T w w') (hn : ∀ k, v.ownBlock = some k → ¬ T k) : OwnSe B w' v l := own_kept h ht hn
theorem OwnSe.below {B : Nat} {w w' : World} {v : Value} {l : List Se} (h : OwnSe B w v l) (hb : Below w.heap.size w w') : OwnSe B w' v l := h.kept (T := fun _ => False) (Touch.ofBelow hb) (fun _ _ h => h)
theorem OwnSe.lt {B : Nat} {w : World} {v : Value} {l : List Se} (h : OwnSe B w v l) : ∀ k, v.ownBlock = some k → B ≤ k ∧ k < w.heap.size := World.ownsRow.lt h
theorem OwnSe.down {B B' : Nat} {w : World} {v : Value} {l : List Se} (h : OwnSe B w v l) (hB : B' ≤ B) : OwnSe B' w v l := by
 obtain ⟨hl, hc⟩ := h
 refine ⟨hl, ?_⟩
 rcases hc with h0 | ⟨g, cap, cur, hv, hg, rest⟩
 ·exact .inl h0
 ·exact .inr ⟨g, cap, cur, hv, by omega, rest⟩
theorem OwnSe.nil (B : Nat) (w : World) : OwnSe B w (.slice none 0 0) [] := World.ownsRow_nil w B 103 5
theorem infoSe : (Tryz.prog.info? 103).map (fun i => (i.zero, i.size, i.bytes)) = some (some (.agg #[.int .i64 0, .int .i64 0, .int .i64 0, .int .i64 0, .string ⟨#[]⟩]), 5, 48) := by kernel_rfl
theorem wrapSe (n : Int) (h0 : 0 ≤ n) (h1 : n < 9223372036854775808) : IntKind.i64.wrap n = n := by
 simp only [IntKind.wrap, IntKind.bits, IntKind.signed]
 simp
 omega
theorem eqReply_one (f2 : Int) (f3 : Int) (f4 : ByteArray) (w : World) :
  Calls Tryz.prog 75 #[.agg #[.int .i64 f2, .int .i64 f3, .string f4], .agg #[.int .i64 f2, .int .i64 f3, .string f4]] w fun e w' => e = .returned (.bool true) ∧ Below w.heap.size w w' := by
 go_enter Tryz.func75, Tryz.ntmps75
 go_wp2_with fail
 go_ret
 exact ⟨rfl, ((Below.refl _ _).alloc (Nat.le_refl _) _).alloc (by simp) _⟩
theorem eqSession_any (f : Se) (w : World) :
  Calls Tryz.prog 54 #[.agg #[.int .i64 f.id, .int .i64 f.sq, .int .i64 f.kd, .int .i64 f.pl, .string f.vl], .agg #[.int .i64 f.id, .int .i64 f.sq, .int .i64 f.kd, .int .i64 f.pl, .string f.vl]] w fun e w' => e = .returned (.bool true) ∧ Below w.heap.size w w' := by
 obtain ⟨f0, f1, f2, f3, f4⟩ := f
 dsimp only
 have HN := Hd (fun wx => eqReply_one f2 f3 f4 wx)
 have B0 := Hd ((bal w (.cells #[.int .i64 f0, .int .i64 f1, .int .i64 f2, .int .i64 f3, .string f4] 103)).alloc (by simp) (.cells #[.int .i64 f0, .int .i64 f1, .int .i64 f2, .int .i64 f3, .string f4] 103))
 go_enter Tryz.func54, Tryz.ntmps54
 go_wp2_with fail
 refine (uh HN _).mono ?_
 rintro e w1 ⟨rfl, hb1⟩
 have B1 := hbt B0 hb1
 clear hb1
 go_wp2_with fail
 go_ret
 exact ⟨rfl, uh B1⟩
theorem eqSessionS_any (v v2 : Value) (l : List Se) (w : World) (h : Sess w v l) (h2 : Sess w v2 l) (hs : l.length ≤ 1048576) :
  Calls Tryz.prog 25 #[v, v2] w fun e w' => e = .returned (.bool true) ∧ Below w.heap.size w w' := by
 obtain ⟨a, cap, rfl, hn, hm, hc⟩ := h
 obtain ⟨a2, cap2, rfl, hn2, hm2, hc2⟩ := h2
 have HC := Hd hc
 have HC2 := Hd hc2
 clear hc hm hc2 hm2 hn hn2
 go_enter Tryz.func25, Tryz.ntmps25
 go_wp2_with fail
 go_loopw [5] (fun i wr => ∃ k : Nat, k ≤ l.length ∧ i = .int .i64 k ∧ Below w.heap.size w wr) (fun i _ => l.length - (intOf i).toNat)
 case atStart => exact ⟨0, Nat.zero_le _, rfl, Below.refl _ _⟩
 case round =>
  obtain ⟨k, hk, rfl, hb⟩ := hrel
  by_cases hlt : k < l.length
  ·obtain ⟨b, off, rfl, hbl, hsrc⟩ : ∃ b off, a = some ⟨b, off, none⟩ ∧ b < w.heap.size ∧ ∀ i, i < l.length → w.cell? ⟨b, off + i * 5, none⟩ = some (.int .i64 (l.getD i default).id) ∧ w.cell? ⟨b, off + i * 5 + 1, none⟩ = some (.int .i64 (l.getD i default).sq) ∧ w.cell? ⟨b, off + i * 5 + 2, none⟩ = some (.int .i64 (l.getD i default).kd) ∧ w.cell? ⟨b, off + i * 5 + 3, none⟩ = some (.int .i64 (l.getD i default).pl) ∧ w.cell? ⟨b, off + i * 5 + 4, none⟩ = some (.string (l.getD i default).vl) := by
    rcases uh HC with h0 | h1
    ·omega
    ·exact h1
   obtain ⟨b2, off2, rfl, hbl2, hsrc2⟩ : ∃ b off, a2 = some ⟨b, off, none⟩ ∧ b < w.heap.size ∧ ∀ i, i < l.length → w.cell? ⟨b, off + i * 5, none⟩ = some (.int .i64 (l.getD i default).id) ∧ w.cell? ⟨b, off + i * 5 + 1, none⟩ = some (.int .i64 (l.getD i default).sq) ∧ w.cell? ⟨b, off + i * 5 + 2, none⟩ = some (.int .i64 (l.getD i default).kd) ∧ w.cell? ⟨b, off + i * 5 + 3, none⟩ = some (.int .i64 (l.getD i default).pl) ∧ w.cell? ⟨b, off + i * 5 + 4, none⟩ = some (.string (l.getD i default).vl) := by
    rcases uh HC2 with h0 | h1
    ·omega
    ·exact h1
   obtain ⟨s0, s1, s2, s3, s4⟩ := hsrc k hlt
   obtain ⟨t0, t1, t2, t3, t4⟩ := hsrc2 k hlt
   have c0 := (hb.cell (p := ⟨b, off + k * 5, none⟩) hbl).trans s0
   have d0 := (hb.cell (p := ⟨b2, off2 + k * 5, none⟩) hbl2).trans t0
   have c1 := (hb.cell (p := ⟨b, off + k * 5 + 1, none⟩) hbl).trans s1
   have d1 := (hb.cell (p := ⟨b2, off2 + k * 5 + 1, none⟩) hbl2).trans t1
   have c2 := (hb.cell (p := ⟨b, off + k * 5 + 2, none⟩) hbl).trans s2
   have d2 := (hb.cell (p := ⟨b2, off2 + k * 5 + 2, none⟩) hbl2).trans t2
   have c3 := (hb.cell (p := ⟨b, off + k * 5 + 3, none⟩) hbl).trans s3
   have d3 := (hb.cell (p := ⟨b2, off2 + k * 5 + 3, none⟩) hbl2).trans t3
   have c4 := (hb.cell (p := ⟨b, off + k * 5 + 4, none⟩) hbl).trans s4
   have d4 := (hb.cell (p := ⟨b2, off2 + k * 5 + 4, none⟩) hbl2).trans t4
   have hk0 : (0 : Int) ≤ (k : Int) := by omega
   have hk1 : (k : Int) < (l.length : Int) := by omega
   have hbs := hb.size
   have HB := Hd hb
   clear hsrc hsrc2 s0 t0 s1 t1 s2 t2 s3 t3 s4 t4 hb
   generalize l.getD k default = f at *
   have HT := Hd (fun wx => eqSession_any f wx)
   obtain ⟨f0, f1, f2, f3, f4⟩ := f
   dsimp only at c0 d0 c1 d1 c2 d2 c3 d3 c4 d4 HT
   go_wp2_with fail
   go_region_held3 (fun wx => wx.cell? ⟨b, off + k * 5, none⟩ = some (.int .i64 f0) ∧ wx.cell? ⟨b, off + k * 5 + 1, none⟩ = some (.int .i64 f1) ∧ wx.cell? ⟨b, off + k * 5 + 2, none⟩ = some (.int .i64 f2) ∧ wx.cell? ⟨b, off + k * 5 + 3, none⟩ = some (.int .i64 f3) ∧ wx.cell? ⟨b, off + k * 5 + 4, none⟩ = some (.string f4) ∧ wx.cell? ⟨b2, off2 + k * 5, none⟩ = some (.int .i64 f0) ∧ wx.cell? ⟨b2, off2 + k * 5 + 1, none⟩ = some (.int .i64 f1) ∧ wx.cell? ⟨b2, off2 + k * 5 + 2, none⟩ = some (.int .i64 f2) ∧ wx.cell? ⟨b2, off2 + k * 5 + 3, none⟩ = some (.int .i64 f3) ∧ wx.cell? ⟨b2, off2 + k * 5 + 4, none⟩ = some (.string f4))
    (first | go_keep | exact ⟨(hb2.cell (p := ⟨b, off + k * 5, none⟩) (by simp; omega)).trans c0, (hb2.cell (p := ⟨b, off + k * 5 + 1, none⟩) (by simp; omega)).trans c1, (hb2.cell (p := ⟨b, off + k * 5 + 2, none⟩) (by simp; omega)).trans c2, (hb2.cell (p := ⟨b, off + k * 5 + 3, none⟩) (by simp; omega)).trans c3, (hb2.cell (p := ⟨b, off + k * 5 + 4, none⟩) (by simp; omega)).trans c4, (hb2.cell (p := ⟨b2, off2 + k * 5, none⟩) (by simp; omega)).trans d0, (hb2.cell (p := ⟨b2, off2 + k * 5 + 1, none⟩) (by simp; omega)).trans d1, (hb2.cell (p := ⟨b2, off2 + k * 5 + 2, none⟩) (by simp; omega)).trans d2, (hb2.cell (p := ⟨b2, off2 + k * 5 + 3, none⟩) (by simp; omega)).trans d3, (hb2.cell (p := ⟨b2, off2 + k * 5 + 4, none⟩) (by simp; omega)).trans d4⟩)
    ((go_at_call 54; refine (uh HT _).mono ?_; rintro e w2 ⟨rfl, hb2⟩))
   all_goals
    have HBZ := Hd ((uh HB).trans (show Below w.heap.size wr w2 from (below_drewN (Below.refl _ wr) 1).trans (hb2.mono (by simpa using hbs))))
    clear hb2 HB
    go_wp2_with fail
    refine ⟨⟨k + 1, by omega, by go_num, uh HBZ⟩, ?_⟩
    simp [intOf]; omega
  ·have HB := Hd hb
   clear hb
   go_wp2_with fail
   go_ret
   exact ⟨rfl, uh HB⟩
def zmk (c j : Nat) : Se := ⟨(c : Int) + 5 * (j : Int), (c : Int) + 5 * (j : Int) + 1, (c : Int) + 5 * (j : Int) + 1 + 1, (c : Int) + 5 * (j : Int) + 1 + 1 + 1, mtx (c + 5 * j + 4)⟩
def zmkTo (c : Nat) (l : List Se) (k : Nat) : List Se := (List.range l.length).map fun j => if j < k then zmk c j else l.getD j default
def zmks (c n : Nat) : List Se := (List.range n).map fun j => zmk c j
theorem zmkTo_len (c : Nat) (l : List Se) (k : Nat) : (zmkTo c l k).length = l.length := by simp [zmkTo]
theorem zmks_len (c n : Nat) : (zmks c n).length = n := by simp [zmks]
theorem zmks_get (c n j : Nat) (h : j < n) : (zmks c n).getD j default = zmk c j := by simp [zmks, List.getD_eq_getElem?_getD, h]
theorem zmkTo_zero (c : Nat) (l : List Se) : zmkTo c l 0 = l := by
 apply List.ext_getElem?
 intro j
 by_cases hj : j < l.length
 ·simp [zmkTo, hj, List.getD_eq_getElem?_getD]
 ·simp [zmkTo, hj]
theorem zmkTo_all (c : Nat) (l : List Se) : zmkTo c l l.length = zmks c l.length := by
 apply List.ext_getElem?
 intro j
 by_cases hj : j < l.length
 ·simp [zmkTo, zmks, hj]
 ·simp [zmkTo, zmks, hj]
theorem zmkTo_set (c : Nat) (l : List Se) (k : Nat) (hk : k < l.length) : (zmkTo c l k).set k (zmk c k) = zmkTo c l (k + 1) := by
 apply List.ext_getElem?
 intro j
 rw [List.getElem?_set]
 simp only [zmkTo_len]
 by_cases e : k = j
 ·subst e
  rw [if_pos rfl, if_pos hk]
  simp [zmkTo, hk]
 ·rw [if_neg e]
  by_cases hj : j < l.length
  ·by_cases h1 : j < k
   ·simp [zmkTo, hj, h1, show j < k + 1 by omega]
   ·simp [zmkTo, hj, h1, show ¬ j < k + 1 by omega]
  ·simp [zmkTo, hj]
theorem markSessionS_any (c : Nat) (hc0 : 0 < c) (hc1 : c ≤ 4194304) (B : Nat) (v : Value) (l : List Se) (w : World) (h : OwnSe B w v l) (hl : l.length ≤ 1048576) :
  Calls Tryz.prog 32 #[v, .int .i64 (c : Int)] w fun e w' => e = .returned (.int .i64 ((c : Int) + 5 * (l.length : Int))) ∧ OwnSe B w' v (zmks c l.length) ∧ Touch (fun k => v.ownBlock = some k) w w' := by
 rcases own_shape h with ⟨rfl, h0⟩ | ⟨g, cap, rfl, hB, hlt0, hn, hm⟩
 ·obtain rfl : l = [] := List.eq_nil_of_length_eq_zero h0
  have HO : Hid (OwnSe B w (.slice none 0 0) (zmks c 0)) := Hd h
  clear h
  go_enter Tryz.func32, Tryz.ntmps32
  go_wp2_with fail
  go_loop [1, 5] (fun k i => k = .int .i64 (c : Int) ∧ i = .int .i64 0) (fun _ _ => 0)
  case atStart => exact ⟨rfl, rfl⟩
  case round =>
   obtain ⟨rfl, rfl⟩ := hrel
   go_wp2_with fail
   go_ret
   exact ⟨ret_int (by simp), uh HO, Touch.refl _ _⟩
 ·have H : Hid (w.ownsRow B 103 5 (.slice (some ⟨g, 0, none⟩) l.length cap) l.length (sesC (zmkTo c l 0))) := Hd (by rw [zmkTo_zero]; exact h)
  clear h
  go_enter Tryz.func32, Tryz.ntmps32
  go_wp2_with fail
  go_loopw [1, 5] (fun k i wr => ∃ j : Nat, j ≤ l.length ∧ k = .int .i64 ((c : Int) + 5 * (j : Int)) ∧ i = .int .i64 j ∧ wr.ownsRow B 103 5 (.slice (some ⟨g, 0, none⟩) l.length cap) l.length (sesC (zmkTo c l j)) ∧ Touch (fun k => (Value.slice (some ⟨g, 0, none⟩) l.length cap).ownBlock = some k) w wr) (fun _ i _ => l.length - (intOf i).toNat)
  case atStart => exact ⟨0, Nat.zero_le _, congrArg (Value.int .i64) (by omega), rfl, uh H, Touch.refl _ _⟩
  case round =>
   obtain ⟨j, hj, rfl, rfl, hL, hT⟩ := hrel
   by_cases hlt2 : j < l.length
   ·have p0 : (0 : Int) ≤ (j : Int) := by omega
    have p1 : (j : Int) < (l.length : Int) := by omega
    have hfl := sesC_len (zmkTo c l j)
    have hml := zmkTo_len c l j
    obtain ⟨g0, g1, g2, g3, g4⟩ := sesC_get (zmkTo c l j) j (by omega)
    have q1 : IntKind.i64.wrap ((c : Int) + 5 * (j : Int) + 1) = (c : Int) + 5 * (j : Int) + 1 := wrapSe _ (by omega) (by omega)
    have q2 : IntKind.i64.wrap ((c : Int) + 5 * (j : Int) + 1 + 1) = (c : Int) + 5 * (j : Int) + 1 + 1 := wrapSe _ (by omega) (by omega)
    have q3 : IntKind.i64.wrap ((c : Int) + 5 * (j : Int) + 1 + 1 + 1) = (c : Int) + 5 * (j : Int) + 1 + 1 + 1 := wrapSe _ (by omega) (by omega)
    have q4 : IntKind.i64.wrap ((c : Int) + 5 * (j : Int) + 1 + 1 + 1 + 1) = (c : Int) + 5 * (j : Int) + 1 + 1 + 1 + 1 := wrapSe _ (by omega) (by omega)
    have q5 : IntKind.i64.wrap ((c : Int) + 5 * (j : Int) + 1 + 1 + 1 + 1 + 1) = (c : Int) + 5 * (j : Int) + 1 + 1 + 1 + 1 + 1 := wrapSe _ (by omega) (by omega)
    have c0 := (hL.cellAt (j * 5) (by omega)).trans g0
    have f0 := hL.frozenAt (j * 5)
    have c1 := (hL.cellAt (j * 5 + 1) (by omega)).trans g1
    have f1 := hL.frozenAt (j * 5 + 1)
    have c2 := (hL.cellAt (j * 5 + 2) (by omega)).trans g2
    have f2 := hL.frozenAt (j * 5 + 2)
    have c3 := (hL.cellAt (j * 5 + 3) (by omega)).trans g3
    have f3 := hL.frozenAt (j * 5 + 3)
    have hL1 := (hL.stored (j * 5) (.int .i64 ((c : Int) + 5 * (j : Int)))).1
    have hT1 := hT.setCell ⟨g, j * 5, none⟩ (.int .i64 ((c : Int) + 5 * (j : Int))) (fun _ => rfl)
    have hL2 := (hL1.stored (j * 5 + 1) (.int .i64 ((c : Int) + 5 * (j : Int) + 1))).1
    have hT2 := hT1.setCell ⟨g, j * 5 + 1, none⟩ (.int .i64 ((c : Int) + 5 * (j : Int) + 1)) (fun _ => rfl)
    have hL3 := (hL2.stored (j * 5 + 2) (.int .i64 ((c : Int) + 5 * (j : Int) + 1 + 1))).1
    have hT3 := hT2.setCell ⟨g, j * 5 + 2, none⟩ (.int .i64 ((c : Int) + 5 * (j : Int) + 1 + 1)) (fun _ => rfl)
    have hL4 := (hL3.stored (j * 5 + 3) (.int .i64 ((c : Int) + 5 * (j : Int) + 1 + 1 + 1))).1
    have hT4 := hT3.setCell ⟨g, j * 5 + 3, none⟩ (.int .i64 ((c : Int) + 5 * (j : Int) + 1 + 1 + 1)) (fun _ => rfl)
    have c4 := (hL4.cellAt (j * 5 + 4) (by omega)).trans ((List.getElem?_set_ne (by omega)).trans ((List.getElem?_set_ne (by omega)).trans ((List.getElem?_set_ne (by omega)).trans ((List.getElem?_set_ne (by omega)).trans g4))))
    have HLL := Hd (And.intro hL4 hT4)
    have HCC : Hid (((((wr.setCell ⟨g, j * 5, none⟩ (.int .i64 ((c : Int) + 5 * (j : Int)))).setCell ⟨g, j * 5 + 1, none⟩ (.int .i64 ((c : Int) + 5 * (j : Int) + 1))).setCell ⟨g, j * 5 + 2, none⟩ (.int .i64 ((c : Int) + 5 * (j : Int) + 1 + 1))).setCell ⟨g, j * 5 + 3, none⟩ (.int .i64 ((c : Int) + 5 * (j : Int) + 1 + 1 + 1))).cell? ⟨g, j * 5 + 4, none⟩ = some (.string ((zmkTo c l j).getD j default).vl)) := Hd c4
    have hset := sesC_set (zmkTo c l j) j (zmk c j) (by omega)
    rw [zmkTo_set c l j hlt2] at hset
    simp only [zmk] at hset
    have HSET := Hd hset
    clear hset
    have HFL := Hd (And.intro hfl hml)
    clear hL hT hL1 hT1 hL2 hT2 hL3 hT3 hL4 hT4 c4 hfl hml g0 g1 g2 g3 g4
    generalize hdf : (zmkTo c l j).getD j default = df at *
    clear hdf
    go_wp2_with fail
    clear c0 f0 c1 f1 c2 f2 c3 f3
    generalize ((((wr.setCell ⟨g, j * 5, none⟩ (.int .i64 ((c : Int) + 5 * (j : Int)))).setCell ⟨g, j * 5 + 1, none⟩ (.int .i64 ((c : Int) + 5 * (j : Int) + 1))).setCell ⟨g, j * 5 + 2, none⟩ (.int .i64 ((c : Int) + 5 * (j : Int) + 1 + 1))).setCell ⟨g, j * 5 + 3, none⟩ (.int .i64 ((c : Int) + 5 * (j : Int) + 1 + 1 + 1))) = u0 at *
    refine (markText_int _ (c + 5 * j + 4) (by omega) u0 (by omega) (by omega)).mono ?_
    rintro e u1 ⟨rfl, hb0⟩
    have hO0 := own_kept (T := fun _ => False) (uh HLL).1 (Touch.ofBelow hb0) (fun _ _ h => h)
    have hS0 : Touch (fun k => (Value.slice (some ⟨g, 0, none⟩) l.length cap).ownBlock = some k) w u1 := (uh HLL).2.trans (T' := fun _ => False) (Touch.ofBelow hb0) (fun _ _ h => h.elim)
    have hg0 : g < u0.heap.size := (World.ownsRow.lt (uh HLL).1 g rfl).2
    have c4 := (hb0.cell (p := ⟨g, j * 5 + 4, none⟩) hg0).trans (uh HCC)
    have f4 := hO0.frozenAt (j * 5 + 4)
    have hQ0 := (hO0.stored (j * 5 + 4) (.string (mtx (c + 5 * j + 4)))).1
    have hR0 := hS0.setCell ⟨g, j * 5 + 4, none⟩ (.string (mtx (c + 5 * j + 4))) (fun _ => rfl)
    rw [uh HSET] at hQ0
    have R6 := Hd (And.intro hQ0 hR0)
    clear hb0 hO0 hS0 hQ0 hR0 HLL HCC HSET HFL hg0
    generalize mtx (c + 5 * j + 4) = x4 at *
    go_wp2_with fail
    refine ⟨⟨j + 1, by omega, ?_, by go_num, (uh R6).1, (uh R6).2⟩, ?_⟩
    ·exact congrArg (Value.int .i64) (by omega)
    ·simp [intOf]; omega
   ·obtain rfl : j = l.length := by omega
    have R := Hd (And.intro hL hT)
    clear hL hT
    go_wp2_with fail
    go_ret
    refine ⟨rfl, ?_, (uh R).2⟩
    have := (uh R).1
    rw [zmkTo_all] at this
    unfold OwnSe
    rw [zmks_len]
    exact this
theorem heldSessionS_any (c : Nat) (hc0 : 0 < c) (hc1 : c ≤ 4194304) (B : Nat) (v : Value) (n : Nat) (w : World) (h : OwnSe B w v (zmks c n)) (hl : n ≤ 1048576) :
  Calls Tryz.prog 35 #[v, .int .i64 (c : Int)] w fun e w' => e = .returned (.int .i64 ((c : Int) + 5 * (n : Int))) ∧ Below w.heap.size w w' := by
 rcases own_shape h with ⟨rfl, h0⟩ | ⟨g, cap, rfl, hB, hlt0, hn, hm⟩
 ·rw [zmks_len] at h0
  subst h0
  clear h
  go_enter Tryz.func35, Tryz.ntmps35
  go_wp2_with fail
  go_loop [1, 5] (fun k i => k = .int .i64 (c : Int) ∧ i = .int .i64 0) (fun _ _ => 0)
  case atStart => exact ⟨rfl, rfl⟩
  case round =>
   obtain ⟨rfl, rfl⟩ := hrel
   go_wp2_with fail
   go_ret
   exact ⟨ret_int (by simp), Below.refl _ _⟩
 ·have HC := Hd (fun j (hj : j < n) => OwnSe.cells h j (by rw [zmks_len]; exact hj) rfl)
  have hml := zmks_len c n
  rw [hml]
  clear h hml
  go_enter Tryz.func35, Tryz.ntmps35
  go_wp2_with fail
  go_loopw [1, 5] (fun k i wr => ∃ j : Nat, j ≤ n ∧ k = .int .i64 ((c : Int) + 5 * (j : Int)) ∧ i = .int .i64 j ∧ Below w.heap.size w wr) (fun _ i _ => n - (intOf i).toNat)
  case atStart => exact ⟨0, Nat.zero_le _, congrArg (Value.int .i64) (by omega), rfl, Below.refl _ _⟩
  case round =>
   obtain ⟨j, hj, rfl, rfl, hb⟩ := hrel
   by_cases hlt2 : j < n
   ·obtain ⟨d0, d1, d2, d3, d4⟩ := uh HC j hlt2
    rw [zmks_get c n j hlt2] at d0 d1 d2 d3 d4
    simp only [zmk] at d0 d1 d2 d3 d4
    have HDD : Hid (w.cell? ⟨g, j * 5 + 4, none⟩ = some (.string (mtx (c + 5 * j + 4)))) := Hd d4
    have c0 := (hb.cell (p := ⟨g, j * 5, none⟩) hlt0).trans d0
    have c1 := (hb.cell (p := ⟨g, j * 5 + 1, none⟩) hlt0).trans d1
    have c2 := (hb.cell (p := ⟨g, j * 5 + 2, none⟩) hlt0).trans d2
    have c3 := (hb.cell (p := ⟨g, j * 5 + 3, none⟩) hlt0).trans d3
    have c4 := (hb.cell (p := ⟨g, j * 5 + 4, none⟩) hlt0).trans d4
    have p0 : (0 : Int) ≤ (j : Int) := by omega
    have p1 : (j : Int) < (n : Int) := by omega
    have q1 : IntKind.i64.wrap ((c : Int) + 5 * (j : Int) + 1) = (c : Int) + 5 * (j : Int) + 1 := wrapSe _ (by omega) (by omega)
    have q2 : IntKind.i64.wrap ((c : Int) + 5 * (j : Int) + 1 + 1) = (c : Int) + 5 * (j : Int) + 1 + 1 := wrapSe _ (by omega) (by omega)
    have q3 : IntKind.i64.wrap ((c : Int) + 5 * (j : Int) + 1 + 1 + 1) = (c : Int) + 5 * (j : Int) + 1 + 1 + 1 := wrapSe _ (by omega) (by omega)
    have q4 : IntKind.i64.wrap ((c : Int) + 5 * (j : Int) + 1 + 1 + 1 + 1) = (c : Int) + 5 * (j : Int) + 1 + 1 + 1 + 1 := wrapSe _ (by omega) (by omega)
    have q5 : IntKind.i64.wrap ((c : Int) + 5 * (j : Int) + 1 + 1 + 1 + 1 + 1) = (c : Int) + 5 * (j : Int) + 1 + 1 + 1 + 1 + 1 := wrapSe _ (by omega) (by omega)
    have HB := Hd hb
    have hz := hb.size
    clear hb d0 d1 d2 d3 d4
    go_wp2_with fail
    go_region_held3 (fun wx => wx.cell? ⟨g, j * 5 + 4, none⟩ = some (.string (mtx (c + 5 * j + 4)))) (first | go_keep | exact (hb0.cell (p := ⟨g, j * 5 + 4, none⟩) (by simp; omega)).trans (by assumption)) ((go_at_call 56; refine (markText_int _ (c + 5 * j + 4) (by omega) _ (by omega) (by omega)).mono ?_; rintro e v0 ⟨rfl, hb0⟩))
    all_goals
     have HBN := Hd ((uh HB).trans (show Below w.heap.size wr v0 from (below_drewN (Below.refl _ wr) 1).trans (hb0.mono (by simpa using hz))))
     clear hb0 HB hz
     have HB := HBN
     clear HBN
     have hz := (uh HB).size
     go_wp2_with fail
     refine ⟨⟨j + 1, by omega, congrArg (Value.int .i64) (by omega), by go_num, uh HB⟩, ?_⟩
     simp [intOf]; omega
   ·obtain rfl : j = n := by omega
    have R := Hd hb
    clear hb
    go_wp2_with fail
    go_ret
    exact ⟨rfl, uh R⟩
end Go.Proofs.YtbchnheinnileaaGreatDoor
namespace Go.Proofs.YtbchnheinnileaaGreatDoor
set_option maxRecDepth 100000
set_option maxHeartbeats 8000000
open Go.ChangeShapes Go.WideShapes Go.ChangeAt Go.RowKit
set_option linter.unusedVariables false
def inB (n lo hi : Int) : Bool := decide (lo ≤ n) && decide (n ≤ hi)
theorem inB_iff {n lo hi : Int} : inB n lo hi = true ↔ lo ≤ n ∧ n ≤ hi := by simp [inB]
theorem within_any (n lo hi : Int) (w : World) :
  Calls Tryz.prog 44 #[.int .i64 n, .int .i64 lo, .int .i64 hi] w fun e w' => e = .returned (.bool (inB n lo hi)) ∧ w' = w := by
 by_cases h1 : lo ≤ n
 ·by_cases h2 : n ≤ hi
  ·have H := Hd (show inB n lo hi = true from inB_iff.2 ⟨h1, h2⟩)
   go_enter Tryz.func44, Tryz.ntmps44
   go_wp2
   go_ret
   exact ⟨ret_bool (uh H).symm, rfl⟩
  ·have H := Hd (show inB n lo hi = false by simp [inB]; omega)
   go_enter Tryz.func44, Tryz.ntmps44
   go_wp2
   go_ret
   exact ⟨ret_bool (uh H).symm, rfl⟩
 ·have H := Hd (show inB n lo hi = false by simp [inB]; omega)
  go_enter Tryz.func44, Tryz.ntmps44
  go_wp2
  go_ret
  exact ⟨ret_bool (uh H).symm, rfl⟩
theorem l01In_any (n lo hi : Int) (w : World) :
  Calls Tryz.prog 37 #[.int .i64 n, .int .i64 lo, .int .i64 hi] w fun e w' => e = .returned (.bool (inB n lo hi)) ∧ w' = w := by
 by_cases h1 : lo ≤ n
 ·by_cases h2 : n ≤ hi
  ·have H := Hd (show inB n lo hi = true from inB_iff.2 ⟨h1, h2⟩)
   go_enter Tryz.func37, Tryz.ntmps37
   go_wp2
   go_ret
   exact ⟨ret_bool (uh H).symm, rfl⟩
  ·have H := Hd (show inB n lo hi = false by simp [inB]; omega)
   go_enter Tryz.func37, Tryz.ntmps37
   go_wp2
   go_ret
   exact ⟨ret_bool (uh H).symm, rfl⟩
 ·have H := Hd (show inB n lo hi = false by simp [inB]; omega)
  go_enter Tryz.func37, Tryz.ntmps37
  go_wp2
  go_ret
  exact ⟨ret_bool (uh H).symm, rfl⟩

theorem five_cell {w wx : World} {B : Nat} {a b c d e : Value} {t : TypeId} (hB : B = w.heap.size) (h : Below (w.heap.size + 1) (w.alloc (.cells #[a, b, c, d, e] t)) wx) :
  wx.cell? ⟨B, 0, none⟩ = some a ∧ wx.cell? ⟨B, 1, none⟩ = some b ∧ wx.cell? ⟨B, 2, none⟩ = some c ∧ wx.cell? ⟨B, 3, none⟩ = some d ∧ wx.cell? ⟨B, 4, none⟩ = some e := by
 subst hB
 refine ⟨?_, ?_, ?_, ?_, ?_⟩
 all_goals
  rw [h.cell (by simp), World.cell?_alloc_at _ _ _ _ rfl]; rfl

def emptyB (s : ByteArray) : Bool := s.toList.isEmpty
theorem emptyB_iff {s : ByteArray} : emptyB s = true ↔ s.size = 0 := by
 unfold emptyB; rw [List.isEmpty_iff, ByteArray.toList_eq]
 constructor
 ·intro h; have : s.data.toList.length = 0 := by rw [h]; rfl
  rw [Array.length_toList] at this; exact this
 ·intro h; apply List.eq_nil_of_length_eq_zero; rw [Array.length_toList]; exact h
theorem ret_two {a : Value} {x y : Int} (h : x = y) : Ending.returned (.tuple #[a, .int .i64 x]) = .returned (.tuple #[a, .int .i64 y]) := by rw [h]
structure Wb (w : World) where
 at_ : World
 below : Below w.heap.size w at_
instance (w : World) : Inhabited (Wb w) := ⟨⟨w, Below.refl _ _⟩⟩
theorem wp_region_wb {P : Program} {id : Nat} {Q : Exit → Act → World → Prop} {a : Act} {w : World} {l : List Oper} (hm : P.follows .mixedOrders = true) (hB : Region.lexB .any l.toArray = true)
  (h : wpQuiet P l.toArray (fun w' => ∃ p : Wb w, w' = p.at_) (fun a' => ∀ w', (∃ p : Wb w, w' = p.at_) → Q .normal a' w') l a) : (Code.region id l.toArray true).wp P Q a w :=
 wp_region_quiet (C := fun w' => ∃ p : Wb w, w' = p.at_) hm hB ⟨⟨w.drew, below_drewN (Below.refl _ w) 1⟩, rfl⟩ (by simpa using h)
theorem Wb.cell {w : World} {a : Addr} {v : Value} (h : w.cell? a = some v) (hb : a.block < w.heap.size) (p : Wb w) : p.at_.cell? a = some v := (p.below.cell hb).trans h
theorem wb_of {P : Program} {f : FuncId} {args : Array Value} {w : World} {p : Wb w} {v : Value}
  (h : Calls P f args p.at_ fun e w' => e = .returned v ∧ Below p.at_.heap.size p.at_ w') : Calls P f args p.at_ fun e w'' => e = .returned v ∧ ∃ q : Wb w, w'' = q.at_ :=
 h.mono fun _ w' ⟨he, hb⟩ => ⟨he, ⟨w', p.below.trans (hb.mono p.below.size)⟩, rfl⟩
end Go.Proofs.YtbchnheinnileaaGreatDoor
namespace Go.Proofs.YtbchnheinnileaaGreatDoor
set_option maxRecDepth 100000
set_option maxHeartbeats 8000000
open Go.ChangeShapes Go.WideShapes Go.ChangeAt Go.RowKit Go.Deep
set_option linter.unusedVariables false
set_option linter.unusedSimpArgs false
def newS (id : Int) : Se := ⟨id, 0, 0, 0, ⟨#[]⟩⟩
structure IsPos (ss : List Se) (id : Int) (q : Nat) : Prop where
 le : q ≤ ss.length
 lo : ∀ i, i < q → (ss.getD i default).id < id
 hi : ∀ i, q ≤ i → i < ss.length → id ≤ (ss.getD i default).id
theorem IsPos.uniq {ss : List Se} {id : Int} {q r : Nat} (h : IsPos ss id q) (g : IsPos ss id r) : q = r := by
 rcases Nat.lt_trichotomy q r with e | e | e
 ·have h1 := g.lo q e
  have h2 := h.hi q (Nat.le_refl _) (by have := g.le; omega)
  omega
 ·exact e
 ·have h1 := h.lo r e
  have h2 := g.hi r (Nat.le_refl _) (by have := h.le; omega)
  omega
def posS : List Se → Int → Nat
 | [], _ => 0
 | s :: r, id => if s.id < id then posS r id + 1 else 0
def RiseS (ss : List Se) : Prop := ∀ i j, i < j → j < ss.length → (ss.getD i default).id < (ss.getD j default).id
theorem RiseS.tail {s : Se} {r : List Se} (h : RiseS (s :: r)) : RiseS r := fun i j hij hj => by
 have := h (i + 1) (j + 1) (by omega) (by simp; omega)
 simpa using this
theorem pos_is {id : Int} : ∀ {ss : List Se}, RiseS ss → IsPos ss id (posS ss id)
 | [], _ => ⟨Nat.le_refl _, fun i hi => by simp [posS] at hi, fun i _ hi => by simp at hi⟩
 | s :: r, h => by
  have ih := pos_is (id := id) h.tail
  unfold posS
  by_cases hs : s.id < id
  ·rw [if_pos hs]
   refine ⟨by simp; exact ih.le, fun i hi => ?_, fun i hi hl => ?_⟩
   ·cases i with
    | zero => simpa using hs
    | succ i => simpa using ih.lo i (by omega)
   ·cases i with
    | zero => omega
    | succ i => simpa using ih.hi i (by omega) (by simp at hl; omega)
  ·rw [if_neg hs]
   refine ⟨Nat.zero_le _, fun i hi => by omega, fun i _ hl => ?_⟩
   cases i with
   | zero => simp; omega
   | succ i =>
    have := h 0 (i + 1) (by omega) hl
    simp at this ⊢
    omega
def hasS (ss : List Se) (id : Int) : Bool := decide (posS ss id < ss.length ∧ (ss.getD (posS ss id) default).id = id)
def insS (ss : List Se) (q : Nat) (s : Se) : List Se := ss.take q ++ s :: ss.drop q
def delS (ss : List Se) (q : Nat) : List Se := ss.take q ++ ss.drop (q + 1)
theorem insS_len (ss : List Se) (q : Nat) (s : Se) (h : q ≤ ss.length) : (insS ss q s).length = ss.length + 1 := by
 unfold insS; simp; omega
theorem insS_get (ss : List Se) (q : Nat) (s : Se) (h : q ≤ ss.length) (i : Nat) : (insS ss q s).getD i default = if i < q then ss.getD i default else if i = q then s else ss.getD (i - 1) default := by
 unfold insS
 rw [List.getD_eq_getElem?_getD, List.getElem?_append]
 have hl : (ss.take q).length = q := by simp; omega
 rw [hl]
 by_cases h1 : i < q
 ·rw [if_pos h1, if_pos h1, List.getElem?_take_of_lt h1, ← List.getD_eq_getElem?_getD]
 ·rw [if_neg h1, if_neg h1]
  by_cases h2 : i = q
  ·subst h2; simp
  ·rw [if_neg h2, show i - q = (i - q - 1) + 1 by omega, List.getElem?_cons_succ, List.getElem?_drop, ← List.getD_eq_getElem?_getD, show q + (i - q - 1) = i - 1 by omega]
theorem delS_len (ss : List Se) (q : Nat) (h : q < ss.length) : (delS ss q).length = ss.length - 1 := by
 unfold delS; simp; omega
theorem delS_get (ss : List Se) (q : Nat) (h : q < ss.length) (i : Nat) : (delS ss q).getD i default = if i < q then ss.getD i default else ss.getD (i + 1) default := by
 unfold delS
 rw [List.getD_eq_getElem?_getD, List.getElem?_append]
 have hl : (ss.take q).length = q := by simp; omega
 rw [hl]
 by_cases h1 : i < q
 ·rw [if_pos h1, if_pos h1, List.getElem?_take_of_lt h1, ← List.getD_eq_getElem?_getD]
 ·rw [if_neg h1, if_neg h1, List.getElem?_drop, ← List.getD_eq_getElem?_getD, show q + 1 + (i - q) = i + 1 by omega]
theorem setS_get (ss : List Se) (q : Nat) (s : Se) (h : q < ss.length) (i : Nat) : (ss.set q s).getD i default = if i = q then s else ss.getD i default := by
 rw [List.getD_eq_getElem?_getD, List.getElem?_set]
 by_cases h1 : q = i
 ·subst h1; simp [h]
 ·rw [if_neg h1, if_neg (fun e => h1 e.symm), ← List.getD_eq_getElem?_getD]
theorem getD_mem {ss : List Se} {i : Nat} (h : i < ss.length) : ss.getD i default ∈ ss := by
 rw [List.getD_eq_getElem?_getD, List.getElem?_eq_getElem h]; exact List.getElem_mem h
theorem has_iff {ss : List Se} {id : Int} : hasS ss id = true ↔ posS ss id < ss.length ∧ (ss.getD (posS ss id) default).id = id := by unfold hasS; simp
theorem ins_rise {ss : List Se} {id : Int} (h : RiseS ss) (hn : hasS ss id = false) : RiseS (insS ss (posS ss id) (newS id)) := by
 have hp := pos_is (id := id) h
 have hn' : ¬ (posS ss id < ss.length ∧ (ss.getD (posS ss id) default).id = id) := fun e => by rw [has_iff.2 e] at hn; cases hn
 intro i j hij hj
 rw [insS_len _ _ _ hp.le] at hj
 rw [insS_get _ _ _ hp.le, insS_get _ _ _ hp.le]
 have hid : (newS id).id = id := rfl
 have hlo := hp.lo
 have hhi := hp.hi
 by_cases a1 : i < posS ss id
 ·rw [if_pos a1]
  by_cases b1 : j < posS ss id
  ·rw [if_pos b1]; exact h i j hij (by have := hp.le; omega)
  ·rw [if_neg b1]
   by_cases b2 : j = posS ss id
   ·rw [if_pos b2, hid]; exact hlo i a1
   ·rw [if_neg b2]
    have h1 := hlo i a1
    have h2 := hhi (j - 1) (by omega) (by omega)
    omega
 ·rw [if_neg a1, if_neg (by omega : ¬ j < posS ss id), if_neg (by omega : ¬ j = posS ss id)]
  by_cases a2 : i = posS ss id
  ·rw [if_pos a2, hid]
   have h2 := hhi (j - 1) (by omega) (by omega)
   by_cases e : j - 1 = posS ss id
   ·have : (ss.getD (j - 1) default).id ≠ id := fun e2 => hn' ⟨by omega, by rw [← e]; exact e2⟩
    omega
   ·have h3 := h (posS ss id) (j - 1) (by omega) (by omega)
    have h4 := hhi (posS ss id) (Nat.le_refl _) (by omega)
    omega
  ·rw [if_neg a2]; exact h (i - 1) (j - 1) (by omega) (by omega)
theorem del_rise {ss : List Se} {q : Nat} (h : RiseS ss) (hq : q < ss.length) : RiseS (delS ss q) := by
 intro i j hij hj
 rw [delS_len _ _ hq] at hj
 rw [delS_get _ _ hq, delS_get _ _ hq]
 split
 ·split
  ·exact h i j hij (by omega)
  ·exact h i (j + 1) (by omega) (by omega)
 ·rw [if_neg (by omega)]; exact h (i + 1) (j + 1) (by omega) (by omega)
theorem set_rise {ss : List Se} {q : Nat} {s : Se} (h : RiseS ss) (hq : q < ss.length) (hs : s.id = (ss.getD q default).id) : RiseS (ss.set q s) := by
 have e : ∀ i, ((ss.set q s).getD i default).id = (ss.getD i default).id := fun i => by
  rw [setS_get _ _ _ hq]
  split
  ·rename_i hi; rw [hi, hs]
  ·rfl
 intro i j hij hj
 rw [e, e]
 exact h i j hij (by simpa using hj)
structure Re where
 kd : Int
 pl : Int
 vl : ByteArray
deriving Inhabited
def reC (f : Re) : List Value := [.int .i64 f.kd, .int .i64 f.pl, .string f.vl]
def resC (l : List Re) : List Value := l.flatMap reC
def Ress (w : World) (v : Value) (l : List Re) : Prop :=
 ∃ a cap, v = .slice a l.length cap ∧ l.length ≤ cap ∧ cap ≤ maxLen ∧ (l.length = 0 ∨ ∃ b off, a = some ⟨b, off, none⟩ ∧ b < w.heap.size ∧ ∀ i, i < l.length → w.cell? ⟨b, off + i * 3, none⟩ = some (.int .i64 (l.getD i default).kd) ∧ w.cell? ⟨b, off + i * 3 + 1, none⟩ = some (.int .i64 (l.getD i default).pl) ∧ w.cell? ⟨b, off + i * 3 + 2, none⟩ = some (.string (l.getD i default).vl))
theorem Ress.below {w w' : World} {v : Value} {l : List Re} (h : Ress w v l) (hb : Below w.heap.size w w') : Ress w' v l := by
 obtain ⟨a, cap, hv, hn, hm, hc⟩ := h
 refine ⟨a, cap, hv, hn, hm, ?_⟩
 rcases hc with h0 | ⟨b, off, ha, hlt, hc⟩
 ·exact .inl h0
 ·exact .inr ⟨b, off, ha, Nat.lt_of_lt_of_le hlt hb.size, fun i hi => ⟨(hb.cell (p := ⟨b, off + i * 3, none⟩) hlt).trans (hc i hi).1, (hb.cell (p := ⟨b, off + i * 3 + 1, none⟩) hlt).trans (hc i hi).2.1, (hb.cell (p := ⟨b, off + i * 3 + 2, none⟩) hlt).trans (hc i hi).2.2⟩⟩
theorem resC_app (x y : List Re) : resC (x ++ y) = resC x ++ resC y := by simp [resC]
theorem resC_get : ∀ (l : List Re) (i : Nat), i < l.length → (resC l)[i * 3]? = some (.int .i64 (l.getD i default).kd) ∧ (resC l)[i * 3 + 1]? = some (.int .i64 (l.getD i default).pl) ∧ (resC l)[i * 3 + 2]? = some (.string (l.getD i default).vl)
 | [], i, h => by simp at h
 | f :: r, 0, h => ⟨rfl, rfl, rfl⟩
 | f :: r, i + 1, h => by
  have ih := resC_get r i (by simpa using h)
  have e : resC (f :: r) = .int .i64 f.kd :: .int .i64 f.pl :: .string f.vl :: resC r := rfl
  rw [e, show (i + 1) * 3 = i * 3 + 1 + 1 + 1 by omega, show i * 3 + 1 + 1 + 1 + 1 = (i * 3 + 1) + 1 + 1 + 1 by omega, show i * 3 + 1 + 1 + 1 + 2 = (i * 3 + 2) + 1 + 1 + 1 by omega]
  simp only [List.getElem?_cons_succ, List.getD_cons_succ]
  exact ih
def OwnRe (B : Nat) (w : World) (v : Value) (l : List Re) : Prop := w.ownsRow B 82 3 v l.length (resC l)
theorem OwnRe.cells {B : Nat} {w : World} {g cap n : Nat} {l : List Re} (h : w.ownsRow B 82 3 (.slice (some ⟨g, 0, none⟩) n cap) n (resC l)) (i : Nat) (hi : i < l.length) (hn : n = l.length) :
  w.cell? ⟨g, i * 3, none⟩ = some (.int .i64 (l.getD i default).kd) ∧ w.cell? ⟨g, i * 3 + 1, none⟩ = some (.int .i64 (l.getD i default).pl) ∧ w.cell? ⟨g, i * 3 + 2, none⟩ = some (.string (l.getD i default).vl) := by
 obtain ⟨e0, e1, e2⟩ := resC_get l i hi
 exact ⟨(h.cellAt _ (by omega)).trans e0, (h.cellAt _ (by omega)).trans e1, (h.cellAt _ (by omega)).trans e2⟩
theorem OwnRe.read {B : Nat} {w : World} {v : Value} {l : List Re} (h : OwnRe B w v l) : Ress w v l := by
 rcases h.2 with ⟨rfl, h0⟩ | ⟨g, cap, cur, rfl, hb, hg, hn, hm, _⟩
 ·obtain rfl := List.eq_nil_of_length_eq_zero h0
  exact ⟨none, 0, rfl, Nat.le_refl _, by unfold maxLen; omega, .inl rfl⟩
 ·refine ⟨_, _, rfl, hn, hm, .inr ⟨g, 0, rfl, (Array.getElem?_eq_some_iff.1 hg).1, fun i hi => ?_⟩⟩
  have := OwnRe.cells h i hi rfl
  simpa using this
theorem OwnRe.kept {T : Nat → Prop} {B : Nat} {w w' : World} {v : Value} {l : List Re} (h : OwnRe B w v l) (ht : Touch T w w') (hn : ∀ k, v.ownBlock = some k → ¬ T k) : OwnRe B w' v l := own_kept h ht hn
theorem OwnRe.below {B : Nat} {w w' : World} {v : Value} {l : List Re} (h : OwnRe B w v l) (hb : Below w.heap.size w w') : OwnRe B w' v l := h.kept (T := fun _ => False) (Touch.ofBelow hb) (fun _ _ h => h)
theorem OwnRe.lt {B : Nat} {w : World} {v : Value} {l : List Re} (h : OwnRe B w v l) : ∀ k, v.ownBlock = some k → B ≤ k ∧ k < w.heap.size := World.ownsRow.lt h
theorem OwnRe.down {B B' : Nat} {w : World} {v : Value} {l : List Re} (h : OwnRe B w v l) (hB : B' ≤ B) : OwnRe B' w v l := by
 obtain ⟨hl, hc⟩ := h
 refine ⟨hl, ?_⟩
 rcases hc with h0 | ⟨g, cap, cur, hv, hg, rest⟩
 ·exact .inl h0
 ·exact .inr ⟨g, cap, cur, hv, by omega, rest⟩
theorem OwnRe.nil (B : Nat) (w : World) : OwnRe B w (.slice none 0 0) [] := World.ownsRow_nil w B 82 3
theorem infoRe : (Tryz.prog.info? 82).map (fun i => (i.zero, i.size, i.bytes)) = some (some (.agg #[.int .i64 0, .int .i64 0, .string ⟨#[]⟩]), 3, 32) := by kernel_rfl
end Go.Proofs.YtbchnheinnileaaGreatDoor
namespace Go.Proofs.YtbchnheinnileaaGreatDoor
set_option maxRecDepth 100000
set_option maxHeartbeats 8000000
open Go.ChangeShapes Go.WideShapes Go.ChangeAt Go.RowKit
set_option linter.unusedVariables false
set_option linter.unusedSimpArgs false
structure Cm where
 kd : Int
 ss : Int
 sq : Int
 ky : ByteArray
 vl : ByteArray
deriving Inhabited
def cmC (f : Cm) : List Value := [.int .i64 f.kd, .int .i64 f.ss, .int .i64 f.sq, .string f.ky, .string f.vl]
def csC (l : List Cm) : List Value := l.flatMap cmC
def Css (w : World) (v : Value) (l : List Cm) : Prop :=
 ∃ a cap, v = .slice a l.length cap ∧ l.length ≤ cap ∧ cap ≤ maxLen ∧ (l.length = 0 ∨ ∃ b off, a = some ⟨b, off, none⟩ ∧ b < w.heap.size ∧ ∀ i, i < l.length → w.cell? ⟨b, off + i * 5, none⟩ = some (.int .i64 (l.getD i default).kd) ∧ w.cell? ⟨b, off + i * 5 + 1, none⟩ = some (.int .i64 (l.getD i default).ss) ∧ w.cell? ⟨b, off + i * 5 + 2, none⟩ = some (.int .i64 (l.getD i default).sq) ∧ w.cell? ⟨b, off + i * 5 + 3, none⟩ = some (.string (l.getD i default).ky) ∧ w.cell? ⟨b, off + i * 5 + 4, none⟩ = some (.string (l.getD i default).vl))
theorem Css.below {w w' : World} {v : Value} {l : List Cm} (h : Css w v l) (hb : Below w.heap.size w w') : Css w' v l := by
 obtain ⟨a, cap, hv, hn, hm, hc⟩ := h
 refine ⟨a, cap, hv, hn, hm, ?_⟩
 rcases hc with h0 | ⟨b, off, ha, hlt, hc⟩
 ·exact .inl h0
 ·exact .inr ⟨b, off, ha, Nat.lt_of_lt_of_le hlt hb.size, fun i hi => ⟨(hb.cell (p := ⟨b, off + i * 5, none⟩) hlt).trans (hc i hi).1, (hb.cell (p := ⟨b, off + i * 5 + 1, none⟩) hlt).trans (hc i hi).2.1, (hb.cell (p := ⟨b, off + i * 5 + 2, none⟩) hlt).trans (hc i hi).2.2.1, (hb.cell (p := ⟨b, off + i * 5 + 3, none⟩) hlt).trans (hc i hi).2.2.2.1, (hb.cell (p := ⟨b, off + i * 5 + 4, none⟩) hlt).trans (hc i hi).2.2.2.2⟩⟩
theorem csC_app (x y : List Cm) : csC (x ++ y) = csC x ++ csC y := by simp [csC]
theorem csC_get : ∀ (l : List Cm) (i : Nat), i < l.length → (csC l)[i * 5]? = some (.int .i64 (l.getD i default).kd) ∧ (csC l)[i * 5 + 1]? = some (.int .i64 (l.getD i default).ss) ∧ (csC l)[i * 5 + 2]? = some (.int .i64 (l.getD i default).sq) ∧ (csC l)[i * 5 + 3]? = some (.string (l.getD i default).ky) ∧ (csC l)[i * 5 + 4]? = some (.string (l.getD i default).vl)
 | [], i, h => by simp at h
 | f :: r, 0, h => ⟨rfl, rfl, rfl, rfl, rfl⟩
 | f :: r, i + 1, h => by
  have ih := csC_get r i (by simpa using h)
  have e : csC (f :: r) = .int .i64 f.kd :: .int .i64 f.ss :: .int .i64 f.sq :: .string f.ky :: .string f.vl :: csC r := rfl
  rw [e, show (i + 1) * 5 = i * 5 + 1 + 1 + 1 + 1 + 1 by omega, show i * 5 + 1 + 1 + 1 + 1 + 1 + 1 = (i * 5 + 1) + 1 + 1 + 1 + 1 + 1 by omega, show i * 5 + 1 + 1 + 1 + 1 + 1 + 2 = (i * 5 + 2) + 1 + 1 + 1 + 1 + 1 by omega, show i * 5 + 1 + 1 + 1 + 1 + 1 + 3 = (i * 5 + 3) + 1 + 1 + 1 + 1 + 1 by omega, show i * 5 + 1 + 1 + 1 + 1 + 1 + 4 = (i * 5 + 4) + 1 + 1 + 1 + 1 + 1 by omega]
  simp only [List.getElem?_cons_succ, List.getD_cons_succ]
  exact ih
def OwnC (B : Nat) (w : World) (v : Value) (l : List Cm) : Prop := w.ownsRow B 77 5 v l.length (csC l)
theorem OwnC.cells {B : Nat} {w : World} {g cap n : Nat} {l : List Cm} (h : w.ownsRow B 77 5 (.slice (some ⟨g, 0, none⟩) n cap) n (csC l)) (i : Nat) (hi : i < l.length) (hn : n = l.length) :
  w.cell? ⟨g, i * 5, none⟩ = some (.int .i64 (l.getD i default).kd) ∧ w.cell? ⟨g, i * 5 + 1, none⟩ = some (.int .i64 (l.getD i default).ss) ∧ w.cell? ⟨g, i * 5 + 2, none⟩ = some (.int .i64 (l.getD i default).sq) ∧ w.cell? ⟨g, i * 5 + 3, none⟩ = some (.string (l.getD i default).ky) ∧ w.cell? ⟨g, i * 5 + 4, none⟩ = some (.string (l.getD i default).vl) := by
 obtain ⟨e0, e1, e2, e3, e4⟩ := csC_get l i hi
 exact ⟨(h.cellAt _ (by omega)).trans e0, (h.cellAt _ (by omega)).trans e1, (h.cellAt _ (by omega)).trans e2, (h.cellAt _ (by omega)).trans e3, (h.cellAt _ (by omega)).trans e4⟩
theorem OwnC.read {B : Nat} {w : World} {v : Value} {l : List Cm} (h : OwnC B w v l) : Css w v l := by
 rcases h.2 with ⟨rfl, h0⟩ | ⟨g, cap, cur, rfl, hb, hg, hn, hm, _⟩
 ·obtain rfl := List.eq_nil_of_length_eq_zero h0
  exact ⟨none, 0, rfl, Nat.le_refl _, by unfold maxLen; omega, .inl rfl⟩
 ·refine ⟨_, _, rfl, hn, hm, .inr ⟨g, 0, rfl, (Array.getElem?_eq_some_iff.1 hg).1, fun i hi => ?_⟩⟩
  have := OwnC.cells h i hi rfl
  simpa using this
theorem OwnC.kept {T : Nat → Prop} {B : Nat} {w w' : World} {v : Value} {l : List Cm} (h : OwnC B w v l) (ht : Touch T w w') (hn : ∀ k, v.ownBlock = some k → ¬ T k) : OwnC B w' v l := own_kept h ht hn
theorem OwnC.below {B : Nat} {w w' : World} {v : Value} {l : List Cm} (h : OwnC B w v l) (hb : Below w.heap.size w w') : OwnC B w' v l := h.kept (T := fun _ => False) (Touch.ofBelow hb) (fun _ _ h => h)
theorem OwnC.lt {B : Nat} {w : World} {v : Value} {l : List Cm} (h : OwnC B w v l) : ∀ k, v.ownBlock = some k → B ≤ k ∧ k < w.heap.size := World.ownsRow.lt h
theorem OwnC.down {B B' : Nat} {w : World} {v : Value} {l : List Cm} (h : OwnC B w v l) (hB : B' ≤ B) : OwnC B' w v l := by
 obtain ⟨hl, hc⟩ := h
 refine ⟨hl, ?_⟩
 rcases hc with h0 | ⟨g, cap, cur, hv, hg, rest⟩
 ·exact .inl h0
 ·exact .inr ⟨g, cap, cur, hv, by omega, rest⟩
theorem OwnC.nil (B : Nat) (w : World) : OwnC B w (.slice none 0 0) [] := World.ownsRow_nil w B 77 5
theorem infoCm : (Tryz.prog.info? 77).map (fun i => (i.zero, i.size, i.bytes)) = some (some (.agg #[.int .i64 0, .int .i64 0, .int .i64 0, .string ⟨#[]⟩, .string ⟨#[]⟩]), 5, 56) := by kernel_rfl
theorem wrapCm (n : Int) (h0 : 0 ≤ n) (h1 : n < 9223372036854775808) : IntKind.i64.wrap n = n := by
 simp only [IntKind.wrap, IntKind.bits, IntKind.signed]
 simp
 omega
end Go.Proofs.YtbchnheinnileaaGreatDoor
namespace Go.Proofs.YtbchnheinnileaaGreatDoor.Sha
set_option maxRecDepth 100000
set_option maxHeartbeats 8000000
open Go.RowKit
set_option linter.unusedVariables false
def rotr (x n : Nat) : Nat := x / 2 ^ n ||| x * 2 ^ (32 - n) % 4294967296
theorem rotr_lt {x : Nat} (h : x < 4294967296) (n : Nat) : rotr x n < 4294967296 := by
 unfold rotr
 exact Nat.or_lt_two_pow (n := 32) (Nat.lt_of_le_of_lt (Nat.div_le_self _ _) h) (Nat.mod_lt _ (by omega))
theorem xor_lt {a b : Nat} (h : a < 4294967296) (h2 : b < 4294967296) : a ^^^ b < 4294967296 := Nat.xor_lt_two_pow (n := 32) h h2
theorem or_lt {a b : Nat} (h : a < 4294967296) (h2 : b < 4294967296) : a ||| b < 4294967296 := Nat.or_lt_two_pow (n := 32) h h2
theorem and_lt {a b : Nat} (h : a < 4294967296) : a &&& b < 4294967296 := Nat.lt_of_le_of_lt Nat.and_le_left h
theorem div_lt {a : Nat} (h : a < 4294967296) (n : Nat) : a / n < 4294967296 := Nat.lt_of_le_of_lt (Nat.div_le_self _ _) h

def add (a b : Nat) : Nat := (a + b) % 4294967296
theorem add_lt (a b : Nat) : add a b < 4294967296 := Nat.mod_lt _ (by omega)
theorem add_comm (a b : Nat) : add a b = add b a := by unfold add; rw [Nat.add_comm]
def s0 (x : Nat) : Nat := rotr x 7 ^^^ rotr x 18 ^^^ x / 8
def s1 (x : Nat) : Nat := rotr x 17 ^^^ rotr x 19 ^^^ x / 1024
def bE (x : Nat) : Nat := rotr x 6 ^^^ rotr x 11 ^^^ rotr x 25
def bA (x : Nat) : Nat := rotr x 2 ^^^ rotr x 13 ^^^ rotr x 22
def ch (e f g : Nat) : Nat := e &&& f ||| (4294967295 ^^^ e) &&& g
def maj (a b c : Nat) : Nat := a &&& b ||| a &&& c ||| b &&& c
theorem not_lt {x : Nat} (h : x < 4294967296) : 4294967295 ^^^ x < 4294967296 := xor_lt (by omega) h
theorem ch_xor {e : Nat} (f g : Nat) (h : e < 4294967296) : (e &&& f) ^^^ ((4294967295 ^^^ e) &&& g) = ch e f g := by
 unfold ch
 apply Nat.eq_of_testBit_eq
 intro i
 have hm : Nat.testBit 4294967295 i = decide (i < 32) := Nat.testBit_two_pow_sub_one 32 i
 simp only [Nat.testBit_xor, Nat.testBit_or, Nat.testBit_and, hm]
 by_cases hi : i < 32
 ·simp only [hi, decide_true]
  cases e.testBit i <;> cases f.testBit i <;> cases g.testBit i <;> rfl
 ·have he : e.testBit i = false := Nat.testBit_lt_two_pow (Nat.lt_of_lt_of_le (show e < 2 ^ 32 from h) (Nat.pow_le_pow_right (Nat.zero_lt_succ 1) (show 32 ≤ i by omega)))
  simp only [he, hi, decide_false]
  cases f.testBit i <;> cases g.testBit i <;> rfl
theorem maj_xor (a b c : Nat) : (a &&& b) ^^^ (a &&& c) ^^^ (b &&& c) = maj a b c := by
 unfold maj
 apply Nat.eq_of_testBit_eq
 intro i
 simp only [Nat.testBit_xor, Nat.testBit_or, Nat.testBit_and]
 cases a.testBit i <;> cases b.testBit i <;> cases c.testBit i <;> rfl

theorem wxor {a b : Nat} (h : a < 4294967296) (h2 : b < 4294967296) : bits BinOp.xor IntKind.u32 (a : Int) (b : Int) = ((a ^^^ b : Nat) : Int) := u32_xor_nat a b h h2
theorem wor {a b : Nat} (h : a < 4294967296) (h2 : b < 4294967296) : bits BinOp.or IntKind.u32 (a : Int) (b : Int) = ((a ||| b : Nat) : Int) := u32_or_nat a b h h2
theorem wand {a b : Nat} (h : a < 4294967296) (h2 : b < 4294967296) : bits BinOp.and IntKind.u32 (a : Int) (b : Int) = ((a &&& b : Nat) : Int) := u32_and_nat a b h h2
theorem wnot {a : Nat} (h : a < 4294967296) : bits BinOp.xor IntKind.u32 IntKind.u32.max (a : Int) = ((4294967295 ^^^ a : Nat) : Int) := u32_xor_nat 4294967295 a (by omega) h
theorem wadd (a b : Nat) : ((a : Int) + (b : Int)) % 4294967296 = ((add a b : Nat) : Int) := by unfold add; omega
theorem wrotr {x : Nat} (n : Nat) (h : x < 4294967296) : bits BinOp.or IntKind.u32 ((x : Int) / 2 ^ n) ((x : Int) * 2 ^ (32 - n) % 4294967296) = ((rotr x n : Nat) : Int) := by
 have e1 : (x : Int) / 2 ^ n = ((x / 2 ^ n : Nat) : Int) := by rw [Int.natCast_ediv, Int.natCast_pow]; rfl
 have e2 : (x : Int) * 2 ^ (32 - n) % 4294967296 = ((x * 2 ^ (32 - n) % 4294967296 : Nat) : Int) := by
  rw [Int.natCast_emod, Int.natCast_mul, Int.natCast_pow]; rfl
 rw [e1, e2, wor (div_lt h _) (Nat.mod_lt _ (by omega))]
 rfl
theorem wrotl {x : Nat} (n : Nat) (h : x < 4294967296) : bits BinOp.or IntKind.u32 ((x : Int) * 2 ^ (32 - n) % 4294967296) ((x : Int) / 2 ^ n) = ((rotr x n : Nat) : Int) := by
 have e1 : (x : Int) / 2 ^ n = ((x / 2 ^ n : Nat) : Int) := by rw [Int.natCast_ediv, Int.natCast_pow]; rfl
 have e2 : (x : Int) * 2 ^ (32 - n) % 4294967296 = ((x * 2 ^ (32 - n) % 4294967296 : Nat) : Int) := by
  rw [Int.natCast_emod, Int.natCast_mul, Int.natCast_pow]; rfl
 rw [e1, e2, wor (Nat.mod_lt _ (by omega)) (div_lt h _), Nat.or_comm]
 rfl
theorem wturn (n : Nat) (h1 : 1 ≤ n) (h2 : n ≤ 31) : bits BinOp.and IntKind.u64 (IntKind.u64.wrap (-(n : Int))) 31 = ((32 - n : Nat) : Int) := by
 have e : IntKind.u64.wrap (-(n : Int)) = ((18446744073709551616 - n : Nat) : Int) := by
  simp only [IntKind.wrap, IntKind.bits, IntKind.signed]
  simp; omega
 rw [e, show (31 : Int) = ((31 : Nat) : Int) from rfl, u64_and_nat _ 31 (by omega) (by omega)]
 have : (18446744073709551616 - n) &&& 31 = (18446744073709551616 - n) % 32 := Nat.and_two_pow_sub_one_eq_mod _ 5
 rw [this]; omega
end Go.Proofs.YtbchnheinnileaaGreatDoor.Sha
namespace Go.Proofs.YtbchnheinnileaaGreatDoor.Sha
set_option maxRecDepth 100000
set_option maxHeartbeats 8000000
open Go.ChangeShapes Go.WideShapes Go.ChangeAt Go.RowKit
set_option linter.unusedVariables false
theorem l01Turn_any (x n : Nat) (w : World) (hx : x < 4294967296) (h1 : 1 ≤ n) (h2 : n ≤ 31) :
  Calls Tryz.prog 124 #[.int .u32 x, .int .u64 n] w fun e w' => e = .returned (.int .u32 (rotr x n)) ∧ w' = w := by
 have H := Hd (wrotr n hx)
 go_enter Tryz.func124, Tryz.ntmps124
 go_wp2
 go_ret
 exact ⟨ret_int (uh H), rfl⟩
theorem rotl_any (x n : Nat) (w : World) (hx : x < 4294967296) (h1 : 1 ≤ n) (h2 : n ≤ 31) :
  Calls Tryz.prog 151 #[.int .u32 x, .int .i64 (-(n : Int))] w fun e w' => e = .returned (.int .u32 (rotr x n)) ∧ w' = w := by
 have H := Hd (wrotl n hx)
 have ht := wturn n h1 h2
 obtain ⟨m, rfl⟩ : ∃ m, n = 32 - m := ⟨32 - n, by omega⟩
 have e : 32 - (32 - m) = m := by omega
 rw [e] at H ht
 have hm1 : 1 ≤ m := by omega
 have hm2 : m ≤ 31 := by omega
 clear e h1 h2
 go_enter Tryz.func151, Tryz.ntmps151
 go_wp2
 go_ret
 exact ⟨ret_int (uh H), rfl⟩
theorem turnRight_any (x n : Nat) (w : World) (hx : x < 4294967296) (h1 : 1 ≤ n) (h2 : n ≤ 31) :
  Calls Tryz.prog 149 #[.int .u32 x, .int .i64 n] w fun e w' => e = .returned (.int .u32 (rotr x n)) ∧ w' = w := by
 go_enter Tryz.func149, Tryz.ntmps149
 go_wp2_with fail
 refine (rotl_any x n _ hx h1 h2).mono ?_
 rintro e w' ⟨rfl, rfl⟩
 go_wp2_with fail
 go_ret
 exact ⟨rfl, rfl⟩
theorem xor3 {a b c : Nat} (h : a < 4294967296) (h2 : b < 4294967296) (h3 : c < 4294967296) : bits BinOp.xor IntKind.u32 (bits BinOp.xor IntKind.u32 (a : Int) (b : Int)) (c : Int) = ((a ^^^ b ^^^ c : Nat) : Int) := by
 rw [wxor h h2, wxor (xor_lt h h2) h3]
theorem greatE_any (x : Nat) (w : World) (hx : x < 4294967296) :
  Calls Tryz.prog 138 #[.int .u32 x] w fun e w' => e = .returned (.int .u32 (bE x)) ∧ w' = w := by
 have H := Hd (xor3 (rotr_lt hx 6) (rotr_lt hx 11) (rotr_lt hx 25))
 go_enter Tryz.func138, Tryz.ntmps138
 go_wp2_with fail
 refine (turnRight_any x 6 _ hx (by omega) (by omega)).mono ?_
 rintro e w' ⟨rfl, rfl⟩
 go_wp2_with fail
 refine (turnRight_any x 11 _ hx (by omega) (by omega)).mono ?_
 rintro e w' ⟨rfl, rfl⟩
 go_wp2_with fail
 refine (turnRight_any x 25 _ hx (by omega) (by omega)).mono ?_
 rintro e w' ⟨rfl, rfl⟩
 go_wp2_with fail
 go_ret
 exact ⟨ret_int (uh H), rfl⟩
theorem greatA_any (x : Nat) (w : World) (hx : x < 4294967296) :
  Calls Tryz.prog 140 #[.int .u32 x] w fun e w' => e = .returned (.int .u32 (bA x)) ∧ w' = w := by
 have H := Hd (xor3 (rotr_lt hx 2) (rotr_lt hx 13) (rotr_lt hx 22))
 go_enter Tryz.func140, Tryz.ntmps140
 go_wp2_with fail
 refine (turnRight_any x 2 _ hx (by omega) (by omega)).mono ?_
 rintro e w' ⟨rfl, rfl⟩
 go_wp2_with fail
 refine (turnRight_any x 13 _ hx (by omega) (by omega)).mono ?_
 rintro e w' ⟨rfl, rfl⟩
 go_wp2_with fail
 refine (turnRight_any x 22 _ hx (by omega) (by omega)).mono ?_
 rintro e w' ⟨rfl, rfl⟩
 go_wp2_with fail
 go_ret
 exact ⟨ret_int (uh H), rfl⟩
theorem smallS_any (x : Nat) (w : World) (hx : x < 4294967296) :
  Calls Tryz.prog 143 #[.int .u32 x] w fun e w' => e = .returned (.int .u32 (s0 x)) ∧ w' = w := by
 have H := Hd (xor3 (rotr_lt hx 7) (rotr_lt hx 18) (div_lt hx 8))
 go_enter Tryz.func143, Tryz.ntmps143
 go_wp2_with fail
 refine (turnRight_any x 7 _ hx (by omega) (by omega)).mono ?_
 rintro e w' ⟨rfl, rfl⟩
 go_wp2_with fail
 refine (turnRight_any x 18 _ hx (by omega) (by omega)).mono ?_
 rintro e w' ⟨rfl, rfl⟩
 go_wp2_with fail
 go_ret
 exact ⟨ret_int (uh H), rfl⟩
theorem smallT_any (x : Nat) (w : World) (hx : x < 4294967296) :
  Calls Tryz.prog 144 #[.int .u32 x] w fun e w' => e = .returned (.int .u32 (s1 x)) ∧ w' = w := by
 have H := Hd (xor3 (rotr_lt hx 17) (rotr_lt hx 19) (div_lt hx 1024))
 go_enter Tryz.func144, Tryz.ntmps144
 go_wp2_with fail
 refine (turnRight_any x 17 _ hx (by omega) (by omega)).mono ?_
 rintro e w' ⟨rfl, rfl⟩
 go_wp2_with fail
 refine (turnRight_any x 19 _ hx (by omega) (by omega)).mono ?_
 rintro e w' ⟨rfl, rfl⟩
 go_wp2_with fail
 go_ret
 exact ⟨ret_int (uh H), rfl⟩
theorem wch {e f g : Nat} (h : e < 4294967296) (h2 : f < 4294967296) (h3 : g < 4294967296) :
  bits BinOp.or IntKind.u32 (bits BinOp.and IntKind.u32 (e : Int) (f : Int)) (bits BinOp.and IntKind.u32 (bits BinOp.xor IntKind.u32 IntKind.u32.max (e : Int)) (g : Int)) = ((ch e f g : Nat) : Int) := by
 rw [wnot h, wand h h2, wand (not_lt h) h3, wor (and_lt h) (and_lt (not_lt h))]; rfl
theorem wmaj {a b c : Nat} (h : a < 4294967296) (h2 : b < 4294967296) (h3 : c < 4294967296) :
  bits BinOp.or IntKind.u32 (bits BinOp.or IntKind.u32 (bits BinOp.and IntKind.u32 (a : Int) (b : Int)) (bits BinOp.and IntKind.u32 (a : Int) (c : Int))) (bits BinOp.and IntKind.u32 (b : Int) (c : Int)) = ((maj a b c : Nat) : Int) := by
 rw [wand h h2, wand h h3, wand h2 h3, wor (and_lt h) (and_lt h), wor (or_lt (and_lt h) (and_lt h)) (and_lt h2)]; rfl
theorem choose_any (e f g : Nat) (w : World) (h : e < 4294967296) (h2 : f < 4294967296) (h3 : g < 4294967296) :
  Calls Tryz.prog 139 #[.int .u32 e, .int .u32 f, .int .u32 g] w fun r w' => r = .returned (.int .u32 (ch e f g)) ∧ w' = w := by
 have H := Hd (wch h h2 h3)
 go_enter Tryz.func139, Tryz.ntmps139
 go_wp2
 go_ret
 exact ⟨ret_int (uh H), rfl⟩
theorem majority_any (a b c : Nat) (w : World) (h : a < 4294967296) (h2 : b < 4294967296) (h3 : c < 4294967296) :
  Calls Tryz.prog 141 #[.int .u32 a, .int .u32 b, .int .u32 c] w fun r w' => r = .returned (.int .u32 (maj a b c)) ∧ w' = w := by
 have H := Hd (wmaj h h2 h3)
 go_enter Tryz.func141, Tryz.ntmps141
 go_wp2
 go_ret
 exact ⟨ret_int (uh H), rfl⟩
end Go.Proofs.YtbchnheinnileaaGreatDoor.Sha
