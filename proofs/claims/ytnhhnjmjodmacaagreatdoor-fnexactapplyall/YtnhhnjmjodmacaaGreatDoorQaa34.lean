/- What the proof of the claim needs (joined by program): SpB ApV. -/
import Derived.Test.YtnhhnjmjodmacaaGreatDoorQaa24
import Derived.Test.YtnhhnjmjodmacaaGreatDoorQaa33
import Derived.Test.YtnhhnjmjodmacaaGreatDoorQaa02
import Derived.Test.YtnhhnjmjodmacaaGreatDoorQaa00
import Derived.Test.YtnhhnjmjodmacaaGreatDoorQaa11
import Derived.Deep.RegionHeld3
namespace Go.Proofs.YtnhhnjmjodmacaaGreatDoor
set_option maxRecDepth 100000
set_option maxHeartbeats 8000000
open Go.ChangeShapes Go.WideShapes Go.ChangeAt Go.RowKit
set_option linter.unusedVariables false
theorem own_text {B n1 n2 : Nat} {w w1 w2 : World} {v v1 v2 : Value} {l : List Int} {s : ByteArray} (hl : OwnB B w v l) (h1 : w1.ownsRow B 5 1 v1 n1 (l.map (Value.int .u8) ++ [Value.int .u8 (s.size : Int)])) (hs : s.size ≤ 255)
  (h2 : w2.ownsRow B 5 1 v2 n2 ((l.map (Value.int .u8) ++ [Value.int .u8 (s.size : Int)]) ++ Lib.strCells s)) : OwnB B w2 v2 (l ++ textsL [s]) := by
 have e : (l.map (Value.int .u8) ++ [Value.int .u8 (s.size : Int)]) ++ Lib.strCells s = (l ++ textsL [s]).map (Value.int .u8) := by
  rw [strCells_eq]; simp [textsL]
 rw [e] at h2
 have hn : (l ++ textsL [s]).length = n2 := by have := h2.1; simpa using this
 subst hn
 refine ⟨h2, range_append hl.2 (fun i => ?_)⟩
 cases i with
 | zero => simp [textsL]; omega
 | succ i => simpa [textsL] using bytesI_range s i
theorem textsL_two (a b : ByteArray) : textsL [a] ++ textsL [b] = textsL [a, b] := by simp [textsL]

theorem l02Bytes_any (k s q : Int) (key val : ByteArray) (w : World) (hk0 : 0 ≤ k) (hk1 : k ≤ 255) (hs0 : 0 ≤ s) (hs1 : s ≤ 65535) (hq0 : 0 ≤ q) (hq1 : q ≤ 65535) (hk : key.size ≤ 255) (hv : val.size ≤ 255) :
  Calls Tryz.prog 92 #[.agg #[.int .i64 k, .int .i64 s, .int .i64 q, .string key, .string val]] w fun e w' => ∃ v', e = .returned v' ∧ OwnB w.heap.size w' v' (cmdBytes k s q key val) ∧ Below w.heap.size w w' := by
 obtain ⟨i0, hi, hz0, hz1, hz2⟩ := info_parts info5
 have m1 : IntKind.u8.wrap k = k := by rw [wrapU]; omega
 have m2 : IntKind.u8.wrap (key.size : Int) = (key.size : Int) := by rw [wrapU]; omega
 have m3 : IntKind.u8.wrap (val.size : Int) = (val.size : Int) := by rw [wrapU]; omega
 go_enter Tryz.func92, Tryz.ntmps92
 go_wp2_with fail
 obtain ⟨c0, c1, c2, c3, c4⟩ := five_cell (w := w) (t := 44) (a := .int .i64 k) (b := .int .i64 s) (c := .int .i64 q) (d := .string key) (e := .string val) rfl (Below.refl _ _)
 have hB : w.heap.size < (w.alloc (.cells #[.int .i64 k, .int .i64 s, .int .i64 q, .string key, .string val] 44)).heap.size := by simp
 have HB0 := Hd (bal w (.cells #[.int .i64 k, .int .i64 s, .int .i64 q, .string key, .string val] 44))
 generalize w.alloc (.cells #[.int .i64 k, .int .i64 s, .int .i64 q, .string key, .string val] 44) = w0 at *
 obtain ⟨bx, hbx⟩ : ∃ bx, bx = w.heap.size := ⟨_, rfl⟩
 rw [← hbx] at hB c0 c1 c2 c3 c4 ⊢
 have HBX := Hd hbx
 clear hbx
 go_region_held3 (fun wx => wx.cell? ⟨bx, 0, none⟩ = some (.int .i64 k) ∧ wx.cell? ⟨bx, 1, none⟩ = some (.int .i64 s)) (go_keep)
  (first
   | (go_at_call 111; refine (l02Two_any _ _ hs0 (by omega)).mono ?_; rintro e w' ⟨rfl, rfl⟩)
   | (refine step_append_lies _ (by rfl) _ _ _ (by rfl) (bx + 1) 5 i0 _ 1 1 Tryz.underlying127 hi hz0 hz1 hz2 rfl (by omega) _ 1 _ (by rfl) (own_lit (by first | (refine (heap_old ?_).trans (heap_new ?_) <;> simp <;> done) | (refine heap_new ?_; simp <;> done)) (by omega) rfl (by unfold maxLen; omega)) _ 2 2 [_, _] (by rfl) (by rfl) (World.news_of_block (cs := #[_, _]) (t := 5) (fr := (0, 0)) (by first | (refine (heap_old ?_).trans (heap_new ?_) <;> simp <;> done) | (refine heap_new ?_; simp <;> done))) (by simp [Value.oneCell']) (by omega) (by unfold maxLen; omega) (by omega) (by simp; omega) _ rfl ?_; intro gg capg w1 hown1 hgrow hat hlt1; have hb1 : Below (bx + 1) w0 w1 := ((((Below.refl (bx + 1) w0).alloc (by omega) _).alloc (by simp; omega) _).drew).grown hgrow (by simp; omega) (fun r hr => by simp [Value.ownBlock] at hr; omega); have k0 := (hb1.cell (p := ⟨bx, 0, none⟩) (by simp)).trans c0; have k1 := (hb1.cell (p := ⟨bx, 1, none⟩) (by simp)).trans c1))
 all_goals
  have O1 : Hid (OwnB (bx + 1) w1 (.slice (some ⟨gg, 0, none⟩) 3 capg) [k, s / 256 % 256, s % 256]) := Hd ⟨hown1, fun i => by
   match i with
   | 0 => simp; omega
   | 1 => simp; omega
   | 2 => simp; omega
   | i + 3 => simp⟩
  have HB1 := Hd hb1
  have k2 := (hb1.cell (p := ⟨bx, 2, none⟩) (by simp)).trans c2
  have hsz1 : bx < w1.heap.size := by have := hb1.size; omega
  clear hown1 hgrow hat hlt1 hb1
  rename_i hHeld
  clear hHeld
  go_wp2_with fail
  refine (l02Two_any q w1 hq0 (by omega)).mono ?_
  rintro e w' ⟨rfl, rfl⟩
  go_wp2_with (at_builtin; refine wpList_append_lies _ rfl _ _ _ rfl (bx + 1) 5 i0 _ 1 1 Tryz.underlying127 hi hz0 hz1 hz2 rfl (by omega) _ 3 _ rfl ((uh O1).1.alloc _) ⟨w1.heap.size, 0, none⟩ 2 2 [_, _] rfl rfl (World.news_of_block (cs := #[_, _]) (t := 5) (fr := (0, 0)) (heap_alloc_new w1 _)) (by simp [Value.oneCell']) (by omega) (by unfold maxLen; omega) (by omega) (by simp; omega) _ rfl ?_; intro g2 cap2 w2 hown2 hgrow2 hat2 hlt2)
  have O2 : Hid (OwnB (bx + 1) w2 (.slice (some ⟨g2, 0, none⟩) 5 cap2) [k, s / 256 % 256, s % 256, q / 256 % 256, q % 256]) := Hd ⟨hown2, fun i => by
   match i with
   | 0 => simp; omega
   | 1 => simp; omega
   | 2 => simp; omega
   | 3 => simp; omega
   | 4 => simp; omega
   | i + 5 => simp⟩
  have hb2 : Below (bx + 1) w0 w2 := ((uh HB1).alloc (by omega) _).grown hgrow2 (by simp; omega) (fun r hr => ((uh O1).1.lt r hr).1)
  have HB2 := Hd hb2
  have k3 := (hb2.cell (p := ⟨bx, 3, none⟩) (by simp)).trans c3
  have hsz2 : bx < w2.heap.size := by have := hb2.size; omega
  clear hown2 hgrow2 hat2 hlt2 hb2 k0 k1 k2
  have P2 : Hid (w2.ownsRow (bx + 1) 5 1 (.slice (some ⟨g2, 0, none⟩) 5 cap2) 5 (List.map (Value.int .u8) [k, s / 256 % 256, s % 256, q / 256 % 256, q % 256])) := Hd (uh O2).1
  go_region_held3 (fun wx => wx.cell? ⟨bx, 3, none⟩ = some (.string key)) (go_keep)
   (first
    | (refine step_append_str _ rfl _ _ _ _ rfl (bx + 1) 5 i0 Tryz.underlying127 Tryz.underlying9 hi hz0 hz1 hz2 _ (5 + 1) _ rfl hown3 key rfl (by omega) (by omega) (by omega) ?_; intro g4 cap4 w4 hown4 hgrow4 hat4; have hb4 : Below (bx + 1) w0 w4 := hb3.grown hgrow4 (by omega) (fun r hr => (hown3.lt r hr).1); have k3'' := (hb4.cell (p := ⟨bx, 3, none⟩) (by simp)).trans c3)
    | (refine step_append_lies _ rfl _ _ _ rfl (bx + 1) 5 i0 _ 1 1 Tryz.underlying127 hi hz0 hz1 hz2 rfl (by omega) _ (5) _ rfl (((uh P2).alloc _).drew) ⟨w2.heap.size, 0, none⟩ 1 1 [_] rfl rfl (World.news_of_block (cs := #[_]) (t := 5) (fr := (0, 0)) (heap_alloc_new w2 _)) (by simp [Value.oneCell']) (by omega) (by unfold maxLen; omega) (by omega) (by simp; omega) _ rfl ?_; intro g3 cap3 w3 hown3 hgrow3 hat3 hlt3; have hb3 : Below (bx + 1) w0 w3 := (((uh HB2).alloc (by omega) _).drew).grown hgrow3 (by simp; omega) (fun r hr => ((uh P2).lt r hr).1); have hsz3 : bx < w3.heap.size := (by have := hb3.size; omega); have k3' := (hb3.cell (p := ⟨bx, 3, none⟩) (by simp)).trans c3))
  have O4 := Hd (own_text (uh O2) hown3 hk hown4)
  have HB4 := Hd hb4
  have k4 := (hb4.cell (p := ⟨bx, 4, none⟩) (by simp)).trans c4
  have hsz4 : bx < w4.heap.size := by have := hb4.size; omega
  have P4 := Hd hown4
  clear hown3 hgrow3 hat3 hlt3 hb3 k3 k3' hown4 hgrow4 hat4 hb4 k3''
  rename_i hHeld3
  clear hHeld3
  go_wp2_with fail
  have P5 : Hid (w4.ownsRow (bx + 1) 5 1 (.slice (some ⟨g4, 0, none⟩) (5 + 1 + key.size) cap4) (5 + 1 + key.size) (List.map (Value.int .u8) ([k, s / 256 % 256, s % 256, q / 256 % 256, q % 256] ++ textsL [key]))) := Hd (by
   have h := (uh O4).1
   have hn : ([k, s / 256 % 256, s % 256, q / 256 % 256, q % 256] ++ textsL [key]).length = 5 + 1 + key.size := by simp [textsL_len, sizes]; omega
   rw [hn] at h; exact h)
  go_region_held3 (fun wx => wx.cell? ⟨bx, 4, none⟩ = some (.string val)) (go_keep)
   (first
    | (refine step_append_str _ rfl _ _ _ _ rfl (bx + 1) 5 i0 Tryz.underlying127 Tryz.underlying9 hi hz0 hz1 hz2 _ (5 + 1 + key.size + 1) _ rfl hown5 val rfl (by omega) (by omega) (by omega) ?_; intro g6 cap6 w6 hown6 hgrow6 hat6; have hb6 : Below (bx + 1) w0 w6 := hb5.grown hgrow6 (by omega) (fun r hr => (hown5.lt r hr).1); have k4'' := (hb6.cell (p := ⟨bx, 4, none⟩) (by simp)).trans c4)
    | (refine step_append_lies _ rfl _ _ _ rfl (bx + 1) 5 i0 _ 1 1 Tryz.underlying127 hi hz0 hz1 hz2 rfl (by omega) _ (5 + 1 + key.size) _ rfl (((uh P5).alloc _).drew) ⟨w4.heap.size, 0, none⟩ 1 1 [_] rfl rfl (World.news_of_block (cs := #[_]) (t := 5) (fr := (0, 0)) (heap_alloc_new w4 _)) (by simp [Value.oneCell']) (by omega) (by unfold maxLen; omega) (by omega) (by simp; omega) _ rfl ?_; intro g5 cap5 w5 hown5 hgrow5 hat5 hlt5; have hb5 : Below (bx + 1) w0 w5 := (((uh HB4).alloc (by omega) _).drew).grown hgrow5 (by simp; omega) (fun r hr => ((uh P5).lt r hr).1); have hsz5 : bx < w5.heap.size := (by have := hb5.size; omega); have k4' := (hb5.cell (p := ⟨bx, 4, none⟩) (by simp)).trans c4))
  have O6 := Hd (own_text (uh O4) hown5 hv hown6)
  have HB6 := Hd hb6
  clear hown5 hgrow5 hat5 hlt5 hb5 k4 k4' hown6 hgrow6 hat6 hb6 k4''
  rename_i hHeld4
  clear hHeld4
  go_wp2_with fail
  go_ret
  rw [← uh HBX]
  refine ⟨_, rfl, ?_, by rw [uh HBX]; exact (uh HB0).trans ((uh HB6).mono (by have := uh HBX; omega))⟩
  have h := (uh O6).mono (B' := bx) (by omega)
  have e : [k, s / 256 % 256, s % 256, q / 256 % 256, q % 256] ++ textsL [key] ++ textsL [val] = cmdBytes k s q key val := by
   rw [List.append_assoc, textsL_two]; simp [cmdBytes, encN]; omega
  rw [e] at h
  exact h
end Go.Proofs.YtnhhnjmjodmacaaGreatDoor
namespace Go.Proofs.YtnhhnjmjodmacaaGreatDoor.Sha
set_option maxRecDepth 100000
set_option maxHeartbeats 8000000
open Go.ChangeShapes Go.WideShapes Go.ChangeAt Go.RowKit Go.Deep
set_option linter.unusedVariables false
set_option linter.unusedSimpArgs false
def Fin (w : World) (B n : Nat) : Prop := B < w.heap.size ∧ ∀ j, n ≤ j → w.cell? ⟨B, j, none⟩ = none
theorem Fin.new (w : World) (cs : Array Value) (t : TypeId) (B n : Nat) (hB : w.heap.size = B) (hn : cs.size ≤ n) : Fin (w.alloc (.cells cs t)) B n := by
 subst hB
 refine ⟨by simp, fun j hj => ?_⟩
 rw [World.cell?_alloc_at _ _ _ _ rfl]
 simp
 omega
theorem Fin.kept {T : Nat → Prop} {w w' : World} {B n : Nat} (h : Fin w B n) (ht : Touch T w w') (hn : ¬ T B) : Fin w' B n :=
 ⟨Nat.lt_of_lt_of_le h.1 ht.size, fun j hj => (ht.cell (p := ⟨B, j, none⟩) h.1 hn).trans (h.2 j hj)⟩
theorem Fin.below {w w' : World} {B n : Nat} (h : Fin w B n) (hb : Below w.heap.size w w') : Fin w' B n := h.kept (T := fun _ => False) (Touch.ofBelow hb) (fun h => h)
theorem Fin.alloc {w : World} {B n : Nat} (h : Fin w B n) (o : Obj) : Fin (w.alloc o) B n := h.kept (T := fun _ => False) ((Touch.refl _ _).alloc o) (fun h => h)
theorem Fin.set {w : World} {B n : Nat} (h : Fin w B n) (j : Nat) (v : Value) (hj : j < n) : Fin (w.setCell ⟨B, j, none⟩ v) B n :=
 ⟨by have := h.1; simpa using this, fun i hi => by rw [World.cell?_setCell_other _ _ _ _ (by simp; try omega)]; exact h.2 i hi⟩
theorem Brs.boundS {S : Nat → Prop} {w : World} {v : Value} {l : List Br} (h : Brs S w v l) : Brs (fun x => S x ∧ x < w.heap.size) w v l := by
 induction h with
 | nil a cap hc => exact .nil a cap hc
 | row b off cap l kv h0 h1 h2 h3 h4 h5 h6 h7 ih => exact .row b off cap l kv h0 h1 h2 h3 ⟨h4, h3⟩ h5 h6 ih
theorem Brs.small {S T : Nat → Prop} {w : World} (hT : ∀ k, T k → Fin w k 7) : ∀ (t : Tr) (v : Value), Brs S w v t.toBr.kids → Brs (fun x => S x ∧ ¬ T x) w v t.toBr.kids := by
 intro t
 induction t with
 | leaf k v =>
  intro v2 h
  have e : (Tr.leaf k v).toBr.kids = [] := rfl
  cases h with
  | nil a cap hc => exact .nil a cap hc
  | row b off cap l kv h0 h1 h2 h3 h4 h5 h6 h7 => exact absurd h0 (by rw [e]; simp)
 | fork a hh l r ihl ihr =>
  intro v h
  have e : (Tr.fork a hh l r).toBr.kids = [l.toBr, r.toBr] := rfl
  rw [e] at h ⊢
  cases h with
  | row b off cap l kv h0 h1 h2 h3 h4 h5 h6 h7 =>
   refine .row b off cap _ kv h0 h1 h2 h3 ⟨h4, fun ht => ?_⟩ h5 h6 (fun i hi => ?_)
   ·have := (h5 1 (by simp)).2.2.2
    rw [(hT b ht).2 _ (by omega)] at this
    cases this
   ·have hi2 : i = 0 ∨ i = 1 := by simp at hi; omega
    rcases hi2 with rfl | rfl
    ·exact ihl _ (h7 0 (by simp))
    ·exact ihr _ (h7 1 (by simp))
theorem Brs.smallO {S T : Nat → Prop} {w : World} (hT : ∀ k, T k → Fin w k 7) (o : Option Tr) (v : Value) (h : Brs S w v (brOf o).kids) : Brs (fun x => S x ∧ ¬ T x) w v (brOf o).kids := by
 cases o with
 | some t => exact Brs.small hT t v h
 | none =>
  have e : (brOf none).kids = [] := rfl
  rw [e] at h ⊢
  cases h with
  | nil a cap hc => exact .nil a cap hc
  | row b off cap l kv h0 h1 h2 h3 h4 h5 h6 h7 => exact absurd h0 (by simp)
def Fresh (H : Nat) (v0 v : Value) : Prop := v = v0 ∨ ∀ k, v.ownBlock = some k → H ≤ k
theorem own_fresh {B H : Nat} {e : TypeId} {sz n : Nat} {w : World} {v v0 : Value} {xs : List Value} (h : w.ownsRow B e sz v n xs) (hH : H ≤ B) : Fresh H v0 v := .inr (fun k hk => Nat.le_trans hH (World.ownsRow.lt h k hk).1)
end Go.Proofs.YtnhhnjmjodmacaaGreatDoor.Sha
