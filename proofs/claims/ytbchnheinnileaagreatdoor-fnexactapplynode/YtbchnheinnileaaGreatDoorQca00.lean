/- What the proof of the claim needs (joined by program): Base Bytes Wr Blk StrO Str LawG. -/
import Derived.Test.YtbchnheinnileaaGreatDoorRows
import Derived.WalkKit
import Derived.ProofKit
import Derived.OpenShut
import Derived.ShutString
import Derived.ChangeOld
import Derived.Below
import Derived.Laws.BytesArg
import Derived.Deep.AppendLies
import Derived.WalkSpells
import Derived.Deep.QuietTactic
import Derived.BigQuiet
import Derived.Lib.AppendStr
import Derived.Deep.RegionHeld3
namespace Go.Proofs.YtbchnheinnileaaGreatDoor
set_option maxRecDepth 100000
set_option maxHeartbeats 8000000
open Go.ChangeShapes Go.WideShapes Go.ChangeAt Go.RowKit
theorem hide {p : Prop} (h : p) : Hid p := h
theorem uh {p : Prop} (h : Hid p) : p := h
theorem Hd {p : Prop} (h : p) : Hid p := h
theorem hbt {a b c : World} (h : Hid (Below a.heap.size a b)) (k : Below b.heap.size b c) : Hid (Below a.heap.size a c) := hide ((uh h).trans (k.mono (uh h).size))
theorem bal (w : World) (o : Obj) : Below w.heap.size w (w.alloc o) := (Below.refl _ w).alloc (Nat.le_refl _) o
theorem ret_bool {a b : Bool} (h : a = b) : Ending.returned (.bool a) = .returned (.bool b) := by rw [h]
theorem ret_int {k : IntKind} {a b : Int} (h : a = b) : Ending.returned (.int k a) = .returned (.int k b) := by rw [h]

def bAt (s : ByteArray) (i : Nat) : Int := ((s.data.toList.getD i 0).toNat : Int)
theorem bAt_eq (s : ByteArray) (i : Nat) (h : i < s.size) : (s[i].toNat : Int) = bAt s i := by
 have h' : i < s.data.size := h
 have e : s[i] = s.data[i] := rfl
 unfold bAt; rw [e, List.getD_eq_getElem?_getD, Array.getElem?_toList, Array.getElem?_eq_getElem h']; rfl
theorem bAt_lo (s : ByteArray) (i : Nat) : 0 ≤ bAt s i := by unfold bAt; omega
theorem bAt_hi (s : ByteArray) (i : Nat) : bAt s i ≤ 255 := by
 unfold bAt; have := (s.data.toList.getD i 0).toNat_lt; omega

theorem conv_own {P : Program} {w : World} {base : Nat} {v : Value} {n : Nat} {ns : List Int} (src dst e : TypeId)
  (hs : P.underlying src = some (.slice e)) (he : P.underlying e = some (.int .u8)) (hd : P.underlying dst = some .string)
  (h : w.ownsRow base e 1 v n (ns.map (Value.int .u8))) : (convert src dst v).run P w = .ok (.string (strOfNums ns)) w := by
 obtain ⟨hl, ⟨rfl, rfl⟩ | ⟨g, cap, cur, rfl, hb, hg, hn, hc, hz, ht⟩⟩ := h
 ·have : ns = [] := by simpa using hl
  subst this
  exact run_convert_bytes_nil w src e hs he 0 0 dst hd
 ·have hl' : ns.length = n := by simpa using hl
  have hown : w.ownsRow base e 1 (.slice (some ⟨g, 0, none⟩) n cap) n (ns.map (Value.int .u8)) := ⟨hl, .inr ⟨g, cap, cur, rfl, hb, hg, hn, hc, hz, ht⟩⟩
  refine run_convert_bytes_arg w src e hs he g 0 n cap ns hl' (fun i hi => ?_) dst hd
  rw [Nat.zero_add, hown.cellAt i (by omega)]
  have hi' : i < ns.length := by omega
  simp [List.getD, List.getElem?_eq_getElem hi']
end Go.Proofs.YtbchnheinnileaaGreatDoor
namespace Go.Proofs.YtbchnheinnileaaGreatDoor
set_option maxRecDepth 100000
set_option maxHeartbeats 8000000
open Go.ChangeShapes Go.WideShapes Go.ChangeAt Go.RowKit
set_option linter.unusedVariables false
theorem info5 : (Tryz.prog.info? 5).map (fun i => (i.zero, i.size, i.bytes)) = some (some (.int .u8 0), 1, 1) := by kernel_rfl
theorem below_drewN {B : Nat} {a w : World} (h : Below B a w) (n : Nat) : Below B a (w.drewN n) := h.trans ⟨rfl, rfl, rfl, Nat.le_refl _, fun _ _ => rfl⟩

def Bytes (w : World) (v : Value) (l : List Int) : Prop :=
 ∃ a cap, v = .slice a l.length cap ∧ l.length ≤ maxLen ∧ (l.length = 0 ∨ ∃ b off, a = some ⟨b, off, none⟩ ∧ b < w.heap.size ∧ ∀ i, i < l.length → w.cell? ⟨b, off + i, none⟩ = some (.int .u8 (l.getD i 0))) ∧ ∀ i, 0 ≤ l.getD i 0 ∧ l.getD i 0 ≤ 255

theorem Bytes.below {w w' : World} {v : Value} {l : List Int} (h : Bytes w v l) (hb : Below w.heap.size w w') : Bytes w' v l := by
 obtain ⟨a, cap, hv, hm, hc, hr⟩ := h
 refine ⟨a, cap, hv, hm, ?_, hr⟩
 rcases hc with h0 | ⟨b, off, ha, hlt, hc⟩
 ·exact .inl h0
 ·refine .inr ⟨b, off, ha, Nat.lt_of_lt_of_le hlt hb.size, fun i hi => ?_⟩
  rw [hb.cell (p := ⟨b, off + i, none⟩) hlt]
  exact hc i hi

structure Touch (T : Nat → Prop) (w w' : World) : Prop where
 os : w'.os = w.os
 tape : w'.tape = w.tape
 output : w'.output = w.output
 size : w.heap.size ≤ w'.heap.size
 block : ∀ k, k < w.heap.size → ¬ T k → w'.heap[k]? = w.heap[k]?
theorem Touch.refl (T : Nat → Prop) (w : World) : Touch T w w := ⟨rfl, rfl, rfl, Nat.le_refl _, fun _ _ _ => rfl⟩
theorem Touch.trans {T T' : Nat → Prop} {a b c : World} (h : Touch T a b) (k : Touch T' b c) (hs : ∀ j, j < a.heap.size → T' j → T j) : Touch T a c :=
 ⟨k.os.trans h.os, k.tape.trans h.tape, k.output.trans h.output, Nat.le_trans h.size k.size, fun j hj hn => (k.block j (Nat.lt_of_lt_of_le hj h.size) (fun ht => hn (hs j hj ht))).trans (h.block j hj hn)⟩
theorem Touch.drew {T : Nat → Prop} {a w : World} (h : Touch T a w) : Touch T a w.drew := ⟨h.os, h.tape, h.output, h.size, h.block⟩
theorem Touch.drewN {T : Nat → Prop} {a w : World} (h : Touch T a w) (n : Nat) : Touch T a (w.drewN n) := h.trans (T' := T) ⟨rfl, rfl, rfl, Nat.le_refl _, fun _ _ _ => rfl⟩ (fun _ _ h => h)
theorem Touch.alloc {T : Nat → Prop} {a w : World} (h : Touch T a w) (o : Obj) : Touch T a (w.alloc o) :=
 h.trans (T' := T) ⟨rfl, rfl, rfl, by simp, fun k hk _ => Below.heap_alloc _ _ _ hk⟩ (fun _ _ h => h)
theorem Touch.setCell {T : Nat → Prop} {a w : World} (h : Touch T a w) (p : Addr) (u : Value) (hp : p.block < a.heap.size → T p.block) : Touch T a (w.setCell p u) :=
 h.trans (T' := fun k => k = p.block) ⟨rfl, rfl, rfl, by simp [World.setCell], fun k _ hn => Below.heap_setCell _ _ _ _ hn⟩ (fun j hj e => by subst e; exact hp hj)
theorem Touch.grown {T : Nat → Prop} {a w w' : World} {row : Option Nat} (h : Touch T a w) (hg : w.grownBy w' row) (hr : ∀ k, row = some k → k < a.heap.size → T k) : Touch T a w' :=
 h.trans (T' := fun k => row = some k) ⟨hg.os, hg.tape, hg.output, hg.size, fun k hk hn => hg.block k hk (fun e => hn e.symm)⟩ (fun j hj e => hr j e hj)
theorem Touch.below {T : Nat → Prop} {B : Nat} {w w' : World} (h : Touch T w w') (hB : B ≤ w.heap.size) (hT : ∀ k, k < B → ¬ T k) : Below B w w' :=
 ⟨h.os, h.tape, h.output, h.size, fun k hk => h.block k (Nat.lt_of_lt_of_le hk hB) (hT k hk)⟩
theorem Touch.cell {T : Nat → Prop} {w w' : World} (h : Touch T w w') {p : Addr} (hp : p.block < w.heap.size) (hn : ¬ T p.block) : w'.cell? p = w.cell? p := World.cell?_of_block (w := w) (h.block p.block hp hn)
theorem Touch.frozen {T : Nat → Prop} {w w' : World} (h : Touch T w w') {p : Addr} (hp : p.block < w.heap.size) (hn : ¬ T p.block) : w'.frozen? p = w.frozen? p := World.frozen?_of_block (w := w) (h.block p.block hp hn)
theorem Touch.ofBelow {T : Nat → Prop} {w w' : World} (h : Below w.heap.size w w') : Touch T w w' := ⟨h.os, h.tape, h.output, h.size, fun k hk _ => h.block k hk⟩

def Wr (w : World) (b : Nat) (v : Value) (xs : List Int) : Prop :=
 w.cell? ⟨b, 0, none⟩ = some v ∧ w.frozen? ⟨b, 0, none⟩ = false ∧ b < w.heap.size ∧ w.ownsRow (b + 1) 5 1 v xs.length (xs.map (Value.int .u8)) ∧ ∀ i, 0 ≤ xs.getD i 0 ∧ xs.getD i 0 ≤ 255
def WT (b : Nat) (v : Value) (k : Nat) : Prop := k = b ∨ v.ownBlock = some k
def Lies (v v' : Value) (n : Nat) : Prop := ∀ k, v'.ownBlock = some k → v.ownBlock = some k ∨ n ≤ k
theorem Lies.refl (v : Value) (n : Nat) : Lies v v n := fun _ h => .inl h
theorem Lies.trans {v v' v'' : Value} {n n' : Nat} (h : Lies v v' n) (k : Lies v' v'' n') (hn : n ≤ n') : Lies v v'' n := fun j hj => by
 rcases k j hj with h1 | h1
 ·exact h j h1
 ·exact .inr (Nat.le_trans hn h1)
theorem Touch.wr {b : Nat} {v v' : Value} {w w' w'' : World} (h : Touch (WT b v) w w') (hl : Lies v v' w.heap.size) (k : Touch (WT b v') w' w'') : Touch (WT b v) w w'' :=
 h.trans k (fun j hj ht => by
  rcases ht with h1 | h1
  ·exact .inl h1
  ·rcases hl j h1 with h2 | h2
   ·exact .inr h2
   ·omega)
theorem Wr.lt {w : World} {b : Nat} {v : Value} {xs : List Int} (h : Wr w b v xs) : b < w.heap.size := h.2.2.1
theorem Wr.row {w : World} {b : Nat} {v : Value} {xs : List Int} (h : Wr w b v xs) : ∀ k, v.ownBlock = some k → b < k ∧ k < w.heap.size := fun k hk => by
 have := h.2.2.2.1.lt k hk; omega
theorem Wr.below {w w' : World} {b B : Nat} {v : Value} {xs : List Int} (h : Wr w b v xs) (ht : Touch (WT b v) w w') (hB : B ≤ b) : Below B w w' :=
 ht.below (by have := h.lt; omega) (fun k hk hT => by
  rcases hT with h1 | h1
  ·omega
  ·have := h.row k h1; omega)
theorem Wr.kept {w w' : World} {b : Nat} {v : Value} {xs : List Int} {T : Nat → Prop} (h : Wr w b v xs) (ht : Touch T w w') (h1 : ¬ T b) (h2 : ∀ k, v.ownBlock = some k → ¬ T k) : Wr w' b v xs := by
 obtain ⟨c, f, l, o, r⟩ := h
 refine ⟨(ht.cell l h1).trans c, (ht.frozen l h1).trans f, Nat.lt_of_lt_of_le l ht.size, ?_, r⟩
 obtain ⟨hl, hc⟩ := o
 refine ⟨hl, ?_⟩
 rcases hc with hn | ⟨g, cap, cur, rfl, hb, hgg, rest⟩
 ·exact .inl hn
 ·exact .inr ⟨g, cap, cur, rfl, hb, (ht.block g (Array.getElem?_eq_some_iff.1 hgg).1 (h2 g rfl)).trans hgg, rest⟩
theorem Wr.alloc {w : World} {b : Nat} {v : Value} {xs : List Int} (h : Wr w b v xs) (o : Obj) : Wr (w.alloc o) b v xs :=
 h.kept (T := fun _ => False) ((Touch.refl _ _).alloc o) (fun h => h) (fun _ _ h => h)
theorem Wr.drew {w : World} {b : Nat} {v : Value} {xs : List Int} (h : Wr w b v xs) : Wr w.drew b v xs :=
 h.kept (T := fun _ => False) ((Touch.refl _ _).drew) (fun h => h) (fun _ _ h => h)
theorem Wr.drewN {w : World} {b : Nat} {v : Value} {xs : List Int} (h : Wr w b v xs) (n : Nat) : Wr (w.drewN n) b v xs :=
 h.kept (T := fun _ => False) ((Touch.refl _ _).drewN n) (fun h => h) (fun _ _ h => h)
theorem range_append {xs ys : List Int} (h : ∀ i, 0 ≤ xs.getD i 0 ∧ xs.getD i 0 ≤ 255) (k : ∀ i, 0 ≤ ys.getD i 0 ∧ ys.getD i 0 ≤ 255) : ∀ i, 0 ≤ (xs ++ ys).getD i 0 ∧ (xs ++ ys).getD i 0 ≤ 255 := by
 intro i
 by_cases hi : i < xs.length
 ·rw [List.getD_eq_getElem?_getD, List.getElem?_append_left hi, ← List.getD_eq_getElem?_getD]; exact h i
 ·rw [List.getD_eq_getElem?_getD, List.getElem?_append_right (by omega), ← List.getD_eq_getElem?_getD]; exact k _

theorem Wr.appended {w w1 : World} {b n : Nat} {v v' : Value} {xs ys : List Int} (h : Wr w b v xs) (h1 : w1.ownsRow (b + 1) 5 1 v' n ((xs ++ ys).map (Value.int .u8))) (hg : w.grownBy w1 v.ownBlock)
  (hl : v'.ownBlock = v.ownBlock ∨ v'.ownBlock = some w.heap.size) (hr : ∀ i, 0 ≤ ys.getD i 0 ∧ ys.getD i 0 ≤ 255) :
  Wr (w1.setCell ⟨b, 0, none⟩ v') b v' (xs ++ ys) ∧ Touch (WT b v) w (w1.setCell ⟨b, 0, none⟩ v') ∧ Lies v v' w.heap.size := by
 obtain ⟨c, f, l, o, r⟩ := h
 have hne : some b ≠ v.ownBlock := fun e => by have := (o.lt b e.symm).1; omega
 have hcell : w1.cell? ⟨b, 0, none⟩ = some v := (hg.cell_far ⟨b, 0, none⟩ l hne).trans c
 have hn : n = (xs ++ ys).length := by have := h1.1; simpa using this.symm
 subst hn
 refine ⟨⟨World.cell?_setCell_same _ _ _ hcell, ?_, ?_, ownsRow_setCell_below h1 (by show b < b + 1; omega) _, range_append r hr⟩, ?_, ?_⟩
 ·rw [World.frozen?_setCell]; exact (hg.frozen_far ⟨b, 0, none⟩ l hne).trans f
 ·have := hg.size; simp; omega
 ·exact ((Touch.refl _ _).grown hg (fun k hk _ => .inr hk)).setCell _ _ (fun _ => .inl rfl)
 ·intro k hk
  rcases hl with e | e
  ·exact .inl (e ▸ hk)
  ·right; rw [e] at hk; cases hk; exact Nat.le_refl _

theorem Wr.pushed {w w1 : World} {b n gg capg : Nat} {u : Value} {zs : List Int} {x : Int} {o : Obj} (h : Wr w b u zs)
  (h1 : w1.ownsRow (b + 1) 5 1 (.slice (some ⟨gg, 0, none⟩) n capg) n (zs.map (Value.int .u8) ++ [Value.int .u8 x])) (hg : (w.alloc o).drew.grownBy w1 u.ownBlock) (hat : u.ownBlock = some gg ∨ gg = w.heap.size + 1)
  (hx0 : 0 ≤ x) (hx1 : x ≤ 255) :
  Wr (w1.setCell ⟨b, 0, none⟩ (.slice (some ⟨gg, 0, none⟩) n capg)) b (.slice (some ⟨gg, 0, none⟩) n capg) (zs ++ [x]) ∧ Touch (WT b u) w (w1.setCell ⟨b, 0, none⟩ (.slice (some ⟨gg, 0, none⟩) n capg)) ∧ Lies u (.slice (some ⟨gg, 0, none⟩) n capg) w.heap.size := by
 have h2 := ((h.alloc o).drew).appended (ys := [x]) (by simpa using h1) hg (by
  rcases hat with e | e
  ·left; rw [e]; rfl
  ·right; rw [e]; simp [Value.ownBlock]) (fun i => by
  cases i with
  | zero => simp; omega
  | succ i => simp)
 refine ⟨h2.1, (((Touch.refl (WT b u) w).alloc o).drew).trans h2.2.1 (fun _ _ h => h), fun k hk => ?_⟩
 rcases h2.2.2 k hk with e | e
 ·exact .inl e
 ·right; simp at e; omega

theorem str_lies {P : Program} {w w' : World} {base : Nat} {t u ty e : TypeId} {i : TypeInfo} (ht : P.underlying t = some (.slice e)) (hu : P.underlying u = some .string) (hi : P.info? e = some i) (hz : i.zero = some (.int .u8 0))
  (hsize : i.size = 1) (hby : i.bytes = 1) {v v' : Value} {n : Nat} {xs : List Value} (hown : w.ownsRow base e 1 v n xs) {s : ByteArray} (hb : n + s.size ≤ 140737488355328)
  (hr : (Builtin.append_ #[t, u] ty #[v, .string s]).run P w = .ok v' w') (hn : v' = .slice none 0 0 ↔ v = .slice none 0 0 ∧ s.size = 0) : v'.ownBlock = v.ownBlock ∨ v'.ownBlock = some w.heap.size := by
 have hxl : xs.length = n := by simpa using hown.1
 rcases hown.2 with ⟨rfl, rfl⟩ | ⟨g, cap, cur, rfl, hbg, hg, hnc, hcm, hcs, htake⟩
 ·by_cases h0 : s.size = 0
  ·rw [hn.2 ⟨rfl, h0⟩]; exact .inl rfl
  ·have hq := run_append_nil_string (P := P) w t u ty e i (.int .u8 0) ht hu hi hz s (by omega) (by omega) (by rw [hby]; omega)
   rw [hq] at hr
   cases hr
   exact .inr rfl
 ·by_cases hroom : n + s.size ≤ cap
  ·have hq := Lib.run_append_room_string (P := P) w t u ty e i ht hu hi hsize g n cap cur hg s hroom (by omega)
   rw [hq] at hr
   cases hr
   exact .inl rfl
  ·have holds : ∀ j u, xs[j]? = some u → w.cell? ((⟨g, 0, none⟩ : Addr).add j) = some u := hown.cells (g := g) rfl
   have hq := Lib.run_append_grow_string (P := P) w t u ty e i (.int .u8 0) ht hu hi hz ⟨g, 0, none⟩ n cap xs (by rw [hsize]; simpa using hxl) holds s (by omega) (by omega) (by rw [hby]; exact growslice_fits (by omega) (by omega))
   rw [hq] at hr
   cases hr
   exact .inr rfl
def OwnB (B : Nat) (w : World) (v : Value) (l : List Int) : Prop := w.ownsRow B 5 1 v l.length (l.map (Value.int .u8)) ∧ ∀ i, 0 ≤ l.getD i 0 ∧ l.getD i 0 ≤ 255
theorem OwnB.nil (B : Nat) (w : World) : OwnB B w (.slice none 0 0) [] := ⟨World.ownsRow_nil w B 5 1, fun i => by simp⟩
theorem OwnB.mono {B B' : Nat} {w : World} {v : Value} {l : List Int} (h : OwnB B w v l) (hB : B' ≤ B) : OwnB B' w v l := by
 obtain ⟨⟨hl, hc⟩, r⟩ := h
 refine ⟨⟨hl, ?_⟩, r⟩
 rcases hc with hn | ⟨g, cap, cur, hv, hb, rest⟩
 ·exact .inl hn
 ·exact .inr ⟨g, cap, cur, hv, by omega, rest⟩
theorem OwnB.kept {T : Nat → Prop} {B : Nat} {w w' : World} {v : Value} {l : List Int} (h : OwnB B w v l) (ht : Touch T w w') (hn : ∀ k, v.ownBlock = some k → ¬ T k) : OwnB B w' v l := by
 obtain ⟨⟨hl, hc⟩, r⟩ := h
 refine ⟨⟨hl, ?_⟩, r⟩
 rcases hc with h0 | ⟨g, cap, cur, rfl, hb, hgg, rest⟩
 ·exact .inl h0
 ·exact .inr ⟨g, cap, cur, rfl, hb, (ht.block g (Array.getElem?_eq_some_iff.1 hgg).1 (hn g rfl)).trans hgg, rest⟩
theorem OwnB.below {B : Nat} {w w' : World} {v : Value} {l : List Int} (h : OwnB B w v l) (hb : Below w.heap.size w w') : OwnB B w' v l := h.kept (T := fun _ => False) (Touch.ofBelow hb) (fun _ _ h => h)
theorem OwnB.drewN {B : Nat} {w : World} {v : Value} {l : List Int} (h : OwnB B w v l) (n : Nat) : OwnB B (w.drewN n) v l := h.kept (T := fun _ => False) ((Touch.refl _ _).drewN n) (fun _ _ h => h)
theorem OwnB.lt {B : Nat} {w : World} {v : Value} {l : List Int} (h : OwnB B w v l) : ∀ k, v.ownBlock = some k → B ≤ k ∧ k < w.heap.size := h.1.lt
theorem OwnB.len {B : Nat} {w : World} {v : Value} {l : List Int} (h : OwnB B w v l) : l.length ≤ maxLen := by
 rcases h.1.2 with ⟨_, h0⟩ | ⟨g, cap, cur, _, _, _, hn, hc, _⟩
 ·rw [h0]; unfold maxLen; omega
 ·omega
theorem OwnB.shape {B : Nat} {w : World} {v : Value} {l : List Int} (h : OwnB B w v l) : (v = .slice none 0 0 ∧ l = []) ∨ ∃ g cap, v = .slice (some ⟨g, 0, none⟩) l.length cap ∧ B ≤ g ∧ g < w.heap.size := by
 rcases h.1.2 with ⟨hv, h0⟩ | ⟨g, cap, cur, hv, hb, hg, _⟩
 ·exact .inl ⟨hv, List.eq_nil_of_length_eq_zero h0⟩
 ·exact .inr ⟨g, cap, hv, hb, (Array.getElem?_eq_some_iff.1 hg).1⟩
theorem OwnB.cell {B : Nat} {w : World} {g cap n : Nat} {l : List Int} (h : OwnB B w (.slice (some ⟨g, 0, none⟩) n cap) l) (i : Nat) (hi : i < l.length) : w.cell? ⟨g, i, none⟩ = some (.int .u8 (l.getD i 0)) := by
 have hn : n = l.length := by
  rcases h.1.2 with ⟨hv, _⟩ | ⟨g', cap', cur, hv, _⟩
  ·cases hv
  ·cases hv; rfl
 subst hn
 rw [h.1.cellAt i (by omega)]
 simp [List.getD, hi]
theorem OwnB.bytes {B : Nat} {w : World} {v : Value} {l : List Int} (h : OwnB B w v l) : Bytes w v l := by
 rcases h.shape with ⟨rfl, rfl⟩ | ⟨g, cap, rfl, hb, hlt⟩
 ·exact ⟨none, 0, rfl, by unfold maxLen; simp, .inl rfl, fun i => by simp⟩
 ·exact ⟨_, _, rfl, h.len, .inr ⟨g, 0, rfl, hlt, fun i hi => by rw [Nat.zero_add]; exact h.cell i hi⟩, h.2⟩
def Blk (w : World) (B : Nat) (vs : List Value) : Prop := B < w.heap.size ∧ (∀ i v, vs[i]? = some v → w.cell? ⟨B, i, none⟩ = some v) ∧ ∀ j, w.frozen? ⟨B, j, none⟩ = false
theorem Blk.cell {w : World} {B : Nat} {vs : List Value} (h : Blk w B vs) (i : Nat) {v : Value} (hv : vs[i]? = some v) : w.cell? ⟨B, i, none⟩ = some v := h.2.1 i v hv
theorem Blk.fro {w : World} {B : Nat} {vs : List Value} (h : Blk w B vs) (i : Nat) : w.frozen? ⟨B, i, none⟩ = false := h.2.2 i
theorem Blk.kept {T : Nat → Prop} {w w' : World} {B : Nat} {vs : List Value} (h : Blk w B vs) (ht : Touch T w w') (hn : ¬ T B) : Blk w' B vs :=
 ⟨Nat.lt_of_lt_of_le h.1 ht.size, fun i v hv => (ht.cell (p := ⟨B, i, none⟩) h.1 hn).trans (h.2.1 i v hv), fun j => (ht.frozen (p := ⟨B, j, none⟩) h.1 hn).trans (h.2.2 j)⟩
theorem Blk.below {w w' : World} {B : Nat} {vs : List Value} (h : Blk w B vs) (hb : Below w.heap.size w w') : Blk w' B vs := h.kept (T := fun _ => False) (Touch.ofBelow hb) (fun h => h)
theorem Blk.alloc {w : World} {B : Nat} {vs : List Value} (h : Blk w B vs) (o : Obj) : Blk (w.alloc o) B vs := h.kept (T := fun _ => False) ((Touch.refl _ _).alloc o) (fun h => h)
theorem Blk.drewN {w : World} {B : Nat} {vs : List Value} (h : Blk w B vs) (n : Nat) : Blk (w.drewN n) B vs := h.kept (T := fun _ => False) ((Touch.refl _ _).drewN n) (fun h => h)
theorem Blk.new (w : World) (cs : Array Value) (t : TypeId) (B : Nat) (hB : w.heap.size = B) : Blk (w.alloc (.cells cs t)) B cs.toList := by
 subst hB
 refine ⟨by simp, fun i v hv => ?_, fun j => by simp⟩
 rw [World.cell?_alloc_at _ _ _ _ rfl]
 simpa using hv
theorem Blk.set {w : World} {B : Nat} {vs : List Value} (h : Blk w B vs) (j : Nat) (v : Value) (hj : j < vs.length) : Blk (w.setCell ⟨B, j, none⟩ v) B (vs.set j v) := by
 refine ⟨by simpa using h.1, fun i u hu => ?_, fun i => by rw [World.frozen?_setCell]; exact h.2.2 i⟩
 by_cases e : i = j
 ·subst e
  rw [List.getElem?_set_self hj] at hu
  cases hu
  exact World.cell?_setCell_same _ _ _ (h.2.1 i _ (List.getElem?_eq_getElem hj))
 ·rw [List.getElem?_set_ne (fun x => e x.symm)] at hu
  rw [World.cell?_setCell_other _ _ _ _ (fun x => e (by simpa using (congrArg Addr.off x).symm))]
  exact h.2.1 i u hu
theorem Blk.other {w : World} {B C : Nat} {vs : List Value} (h : Blk w B vs) (j : Nat) (v : Value) (hne : C ≠ B) : Blk (w.setCell ⟨C, j, none⟩ v) B vs :=
 h.kept (T := fun k => k = C) ((Touch.refl _ _).setCell _ _ (fun _ => rfl)) (fun e => hne e.symm)
theorem own_kept {T : Nat → Prop} {B : Nat} {e : TypeId} {sz n : Nat} {w w' : World} {v : Value} {xs : List Value} (h : w.ownsRow B e sz v n xs) (ht : Touch T w w') (hn : ∀ k, v.ownBlock = some k → ¬ T k) : w'.ownsRow B e sz v n xs := by
 obtain ⟨hl, hc⟩ := h
 refine ⟨hl, ?_⟩
 rcases hc with h0 | ⟨g, cap, cur, rfl, hb, hgg, rest⟩
 ·exact .inl h0
 ·exact .inr ⟨g, cap, cur, rfl, hb, (ht.block g (Array.getElem?_eq_some_iff.1 hgg).1 (hn g rfl)).trans hgg, rest⟩
theorem own_shape {B : Nat} {e : TypeId} {sz n : Nat} {w : World} {v : Value} {xs : List Value} (h : w.ownsRow B e sz v n xs) : (v = .slice none 0 0 ∧ n = 0) ∨ ∃ g cap, v = .slice (some ⟨g, 0, none⟩) n cap ∧ B ≤ g ∧ g < w.heap.size ∧ n ≤ cap ∧ cap ≤ maxLen := by
 rcases h.2 with h0 | ⟨g, cap, cur, hv, hb, hg, hn, hm, _⟩
 ·exact .inl h0
 ·exact .inr ⟨g, cap, hv, hb, (Array.getElem?_eq_some_iff.1 hg).1, hn, hm⟩

def Strs (w : World) (v : Value) (l : List ByteArray) : Prop :=
 ∃ a cap, v = .slice a l.length cap ∧ l.length ≤ maxLen ∧ (l.length = 0 ∨ ∃ b off, a = some ⟨b, off, none⟩ ∧ b < w.heap.size ∧ ∀ i, i < l.length → w.cell? ⟨b, off + i, none⟩ = some (.string (l.getD i ByteArray.empty)))
def OwnS (B : Nat) (w : World) (v : Value) (l : List ByteArray) : Prop := w.ownsRow B 9 1 v l.length (l.map Value.string)
theorem OwnS.nil (B : Nat) (w : World) : OwnS B w (.slice none 0 0) [] := World.ownsRow_nil w B 9 1
theorem OwnS.cell {B : Nat} {w : World} {g cap n : Nat} {l : List ByteArray} (h : OwnS B w (.slice (some ⟨g, 0, none⟩) n cap) l) (i : Nat) (hi : i < l.length) : w.cell? ⟨g, i, none⟩ = some (.string (l.getD i ByteArray.empty)) := by
 have hn : n = l.length := by
  rcases h.2 with ⟨hv, _⟩ | ⟨g', cap', cur, hv, _⟩
  ·cases hv
  ·cases hv; rfl
 subst hn
 rw [h.cellAt i (by omega)]
 simp [List.getD, hi]
theorem OwnS.strs {B : Nat} {w : World} {v : Value} {l : List ByteArray} (h : OwnS B w v l) : Strs w v l := by
 rcases own_shape h with ⟨rfl, h0⟩ | ⟨g, cap, rfl, hb, hlt, hn, hm⟩
 ·obtain rfl := List.eq_nil_of_length_eq_zero h0
  exact ⟨none, 0, rfl, by unfold maxLen; simp, .inl rfl⟩
 ·exact ⟨_, _, rfl, by omega, .inr ⟨g, 0, rfl, hlt, fun i hi => by rw [Nat.zero_add]; exact h.cell i hi⟩⟩
theorem Strs.below {w w' : World} {v : Value} {l : List ByteArray} (h : Strs w v l) (hb : Below w.heap.size w w') : Strs w' v l := by
 obtain ⟨a, cap, hv, hm, hc⟩ := h
 refine ⟨a, cap, hv, hm, ?_⟩
 rcases hc with h0 | ⟨b, off, ha, hlt, hc⟩
 ·exact .inl h0
 ·exact .inr ⟨b, off, ha, Nat.lt_of_lt_of_le hlt hb.size, fun i hi => (hb.cell (p := ⟨b, off + i, none⟩) hlt).trans (hc i hi)⟩
theorem OwnS.kept {T : Nat → Prop} {B : Nat} {w w' : World} {v : Value} {l : List ByteArray} (h : OwnS B w v l) (ht : Touch T w w') (hn : ∀ k, v.ownBlock = some k → ¬ T k) : OwnS B w' v l := own_kept h ht hn
theorem OwnS.below {B : Nat} {w w' : World} {v : Value} {l : List ByteArray} (h : OwnS B w v l) (hb : Below w.heap.size w w') : OwnS B w' v l := h.kept (T := fun _ => False) (Touch.ofBelow hb) (fun _ _ h => h)
theorem OwnS.drewN {B : Nat} {w : World} {v : Value} {l : List ByteArray} (h : OwnS B w v l) (n : Nat) : OwnS B (w.drewN n) v l := h.kept (T := fun _ => False) ((Touch.refl _ _).drewN n) (fun _ _ h => h)
theorem OwnS.lt {B : Nat} {w : World} {v : Value} {l : List ByteArray} (h : OwnS B w v l) : ∀ k, v.ownBlock = some k → B ≤ k ∧ k < w.heap.size := World.ownsRow.lt h

theorem ret_str2 {a b : ByteArray} (h : a = b) : Ending.returned (.string a) = .returned (.string b) := by rw [h]
def mtxR (k : Nat) (out : ByteArray) : ByteArray := if h : k = 0 then out else mtxR (k / 10) (strOfNums [48 + ((k % 10 : Nat) : Int)] ++ out)
termination_by k
decreasing_by omega
def mtx (k : Nat) : ByteArray := strOfNums [109] ++ mtxR k (strOfNums [])

theorem markText_any (k : Nat) (w : World) (h0 : 0 < k) (h1 : k ≤ 4294967296) :
  Calls Tryz.prog 56 #[.int .i64 k] w fun e w' => e = .returned (.string (mtx k)) ∧ Below w.heap.size w w' := by
 go_enter Tryz.func56, Tryz.ntmps56
 go_wp2_with fail
 go_loopw [0, 3] (fun kk o wr => ∃ (j : Nat) (out : ByteArray), j ≤ k ∧ kk = .int .i64 j ∧ o = .string out ∧ out.size + j ≤ k ∧ mtxR j out = mtxR k (strOfNums []) ∧ Below w.heap.size w wr) (fun kk _ _ => (intOf kk).toNat)
 case atStart => exact ⟨k, strOfNums [], Nat.le_refl _, rfl, rfl, by simp [strOfNums_size], rfl, Below.refl _ _⟩
 case round =>
  obtain ⟨j, out, hj, rfl, rfl, hsz, hm, hb⟩ := hrel
  by_cases hj0 : 0 < j
  ·have hE : Hid (mtxR (j / 10) (strOfNums [48 + ((j % 10 : Nat) : Int)] ++ out) = mtxR k (strOfNums [])) := Hd (by rw [← hm]; conv => rhs; rw [mtxR, dif_neg (by omega)])
   have HB := Hd hb
   have hr4 : 10 * (j / 10) ≤ j := by omega
   have hcv : (convert 80 9 (.slice (some ⟨wr.heap.size, 0, none⟩) 1 1)).run Tryz.prog (wr.alloc (.cells #[.int .u8 (48 + (j : Int) % 10)] 5)) = .ok (.string (strOfNums [48 + (j : Int) % 10])) (wr.alloc (.cells #[.int .u8 (48 + (j : Int) % 10)] 5)) :=
    run_convert_bytes_arg _ 80 5 Tryz.underlying80 Tryz.underlying5 wr.heap.size 0 1 1 [48 + (j : Int) % 10] rfl (fun i hi => by
     obtain rfl : i = 0 := by omega
     rw [World.cell?_alloc_at _ _ _ _ rfl]; rfl) 9 Tryz.underlying9
   have HB2 := Hd ((uh HB).alloc (uh HB).size (.cells #[.int .u8 (48 + (j : Int) % 10)] 5))
   have hs1 : (strOfNums [48 + (j : Int) % 10]).size = 1 := strOfNums_size _
   rw [show ((j % 10 : Nat) : Int) = (j : Int) % 10 by omega] at hE
   generalize strOfNums [48 + (j : Int) % 10] = d at *
   clear hm hb HB
   go_wp2_with fail
   refine ⟨⟨j / 10, d ++ out, by omega, by go_num, rfl, by rw [ByteArray.size_append]; omega, uh hE, uh HB2⟩, ?_⟩
   simp [intOf]; omega
  ·obtain rfl : j = 0 := by omega
   have hE : Hid (out = mtxR k (strOfNums [])) := Hd (by rw [← hm, mtxR, dif_pos rfl])
   have HB := Hd hb
   clear hm hb
   go_wp2_with fail
   go_ret
   exact ⟨ret_str2 (by rw [uh hE]; rfl), uh HB⟩

theorem markText_int (ki : Int) (k : Nat) (hk : ki = (k : Int)) (w : World) (h0 : 0 < k) (h1 : k ≤ 4294967296) :
  Calls Tryz.prog 56 #[.int .i64 ki] w fun e w' => e = .returned (.string (mtx k)) ∧ Below w.heap.size w w' := by
 subst hk; exact markText_any k w h0 h1

def markS (l : List ByteArray) (k : Nat) : List ByteArray := (List.range l.length).map fun j => if j < k then mtx (1 + j) else l.getD j ByteArray.empty
theorem markS_len (l : List ByteArray) (k : Nat) : (markS l k).length = l.length := by simp [markS]
theorem markS_zero (l : List ByteArray) : markS l 0 = l := by
 apply List.ext_getElem?
 intro j
 by_cases hj : j < l.length
 ·simp [markS, hj, List.getD_eq_getElem?_getD]
 ·simp [markS, hj]
theorem markS_set (l : List ByteArray) (k : Nat) (hk : k < l.length) : ((markS l k).map Value.string).set k (.string (mtx (1 + k))) = (markS l (k + 1)).map Value.string := by
 apply List.ext_getElem?
 intro j
 rw [List.getElem?_set]
 simp only [List.length_map, markS_len, List.getElem?_map]
 by_cases e : k = j
 ·subst e
  rw [if_pos rfl, if_pos hk]
  simp [markS, hk]
 ·rw [if_neg e]
  by_cases hj : j < l.length
  ·by_cases h1 : j < k
   ·simp [markS, hj, h1, show j < k + 1 by omega]
   ·simp [markS, hj, h1, show ¬ j < k + 1 by omega]
  ·simp [markS, hj]
def marksS (n : Nat) : List ByteArray := (List.range n).map fun j => mtx (1 + j)
theorem marksS_len (n : Nat) : (marksS n).length = n := by simp [marksS]
theorem marksS_get (n j : Nat) (h : j < n) : (marksS n).getD j ByteArray.empty = mtx (1 + j) := by simp [marksS, List.getD_eq_getElem?_getD, h]
theorem markS_all (l : List ByteArray) : markS l l.length = marksS l.length := by
 apply List.ext_getElem?
 intro j
 by_cases hj : j < l.length
 ·simp [markS, marksS, hj]
 ·simp [markS, marksS, hj]

theorem markStringS_any (B : Nat) (v : Value) (l : List ByteArray) (w : World) (h : OwnS B w v l) (hl : l.length ≤ 1048576) :
  Calls Tryz.prog 30 #[v, .int .i64 1] w fun e w' => e = .returned (.int .i64 (1 + (l.length : Int))) ∧ OwnS B w' v (marksS l.length) ∧ Touch (fun k => v.ownBlock = some k) w w' := by
 rcases own_shape h with ⟨rfl, h0⟩ | ⟨g, cap, rfl, hB, hlt0, hn, hm⟩
 ·obtain rfl := List.eq_nil_of_length_eq_zero h0
  have H := Hd h
  clear h
  go_enter Tryz.func30, Tryz.ntmps30
  go_wp2_with fail
  go_loopw [1, 5] (fun k i wr => k = .int .i64 1 ∧ i = .int .i64 0 ∧ wr = w) (fun _ _ _ => 0)
  case atStart => exact ⟨rfl, rfl, rfl⟩
  case round =>
   obtain ⟨rfl, rfl, rfl⟩ := hrel
   go_wp2_with fail
   go_ret
   exact ⟨rfl, uh H, Touch.refl _ _⟩
 ·have H := Hd h
  clear h
  go_enter Tryz.func30, Tryz.ntmps30
  go_wp2_with fail
  go_loopw [1, 5] (fun k i wr => ∃ j : Nat, j ≤ l.length ∧ k = .int .i64 (1 + (j : Int)) ∧ i = .int .i64 j ∧ wr.ownsRow B 9 1 (.slice (some ⟨g, 0, none⟩) l.length cap) l.length ((markS l j).map Value.string) ∧ Touch (fun k => k = g) w wr) (fun _ i _ => l.length - (intOf i).toNat)
  case atStart => exact ⟨0, Nat.zero_le _, rfl, rfl, by rw [markS_zero]; exact uh H, Touch.refl _ _⟩
  case round =>
   obtain ⟨j, hj, rfl, rfl, hL, hT⟩ := hrel
   by_cases hlt2 : j < l.length
   ·have p0 : (0 : Int) ≤ (j : Int) := by omega
    have p1 : (j : Int) < (l.length : Int) := by omega
    have HL := Hd (And.intro hL hT)
    clear hL hT
    go_wp2_with fail
    refine (markText_int _ (1 + j) (by omega) wr (by omega) (by omega)).mono ?_
    rintro e w2 ⟨rfl, hb2⟩
    have hO := own_kept (T := fun _ => False) (uh HL).1 (Touch.ofBelow hb2) (fun _ _ h => h)
    have hT2 : Touch (fun k => k = g) w w2 := (uh HL).2.trans (T' := fun _ => False) (Touch.ofBelow hb2) (fun _ _ h => h.elim)
    have hc0 := hO.cellAt j (by omega)
    rw [List.getElem?_map, List.getElem?_eq_getElem (by rw [markS_len]; exact hlt2)] at hc0
    simp only [Option.map_some] at hc0
    have hf0 := hO.frozenAt j
    have R := Hd (And.intro (hO.stored j (.string (mtx (1 + j)))).1 (hT2.setCell ⟨g, j, none⟩ (.string (mtx (1 + j))) (fun _ => rfl)))
    rw [markS_set l j hlt2] at R
    clear hb2 hO hT2 HL
    generalize mtx (1 + j) = x at *
    go_wp2_with fail
    refine ⟨⟨j + 1, by omega, by go_num, by go_num, (uh R).1, (uh R).2⟩, ?_⟩
    simp [intOf]; omega
   ·obtain rfl : j = l.length := by omega
    have R := Hd (And.intro hL hT)
    clear hL hT
    go_wp2_with fail
    go_ret
    refine ⟨rfl, ?_, ?_⟩
    ·have hh := (uh R).1
     rw [markS_all] at hh
     unfold OwnS
     rw [marksS_len]
     exact hh
    ·exact (Touch.refl (fun k => (Value.slice (some ⟨g, 0, none⟩) l.length cap).ownBlock = some k) w).trans (uh R).2 (fun k _ e => by subst e; rfl)

theorem heldStringS_any (B : Nat) (v : Value) (n : Nat) (w : World) (h : OwnS B w v (marksS n)) (hn : n ≤ 1048576) :
  Calls Tryz.prog 33 #[v, .int .i64 1] w fun e w' => e = .returned (.int .i64 (1 + (n : Int))) ∧ Below w.heap.size w w' := by
 rcases own_shape h with ⟨rfl, h0⟩ | ⟨g, cap, rfl, hB, hlt0, hn1, hm⟩
 ·rw [marksS_len] at h0
  subst h0
  clear h
  go_enter Tryz.func33, Tryz.ntmps33
  go_wp2_with fail
  go_loop [1, 5] (fun k i => k = .int .i64 1 ∧ i = .int .i64 0) (fun _ _ => 0)
  case atStart => exact ⟨rfl, rfl⟩
  case round =>
   obtain ⟨rfl, rfl⟩ := hrel
   go_wp2_with fail
   go_ret
   exact ⟨rfl, Below.refl _ _⟩
 ·have HC := Hd (fun j hj => h.cell j hj)
  have hml := marksS_len n
  rw [hml]
  clear h
  go_enter Tryz.func33, Tryz.ntmps33
  go_wp2_with fail
  go_loopw [1, 5] (fun k i wr => ∃ j : Nat, j ≤ n ∧ k = .int .i64 (1 + (j : Int)) ∧ i = .int .i64 j ∧ Below w.heap.size w wr) (fun _ i _ => n - (intOf i).toNat)
  case atStart => exact ⟨0, Nat.zero_le _, rfl, rfl, Below.refl _ _⟩
  case round =>
   obtain ⟨j, hj, rfl, rfl, hb⟩ := hrel
   by_cases hlt2 : j < n
   ·have c1 := (hb.cell (p := ⟨g, j, none⟩) hlt0).trans (uh HC j (by omega))
    simp only [marksS_get n j hlt2] at c1
    have p0 : (0 : Int) ≤ (j : Int) := by omega
    have p1 : (j : Int) < (n : Int) := by omega
    have HB := Hd hb
    have hz := hb.size
    clear hb
    go_wp2_with fail
    go_region_held3 (fun wx => wx.cell? ⟨g, j, none⟩ = some (.string (mtx (1 + j)))) (first | go_keep | exact (hb2.cell (p := ⟨g, j, none⟩) (by simp; omega)).trans (by assumption)) ((go_at_call 56; refine (markText_int _ (1 + j) (by omega) _ (by omega) (by omega)).mono ?_; rintro e w2 ⟨rfl, hb2⟩))
    all_goals
     have HB2 := Hd ((uh HB).trans (show Below w.heap.size wr w2 from (below_drewN (Below.refl _ wr) 1).trans (hb2.mono (by simpa using hz))))
     clear hb2 HB
     go_wp2_with fail
     refine ⟨⟨j + 1, by omega, by go_num, by go_num, uh HB2⟩, ?_⟩
     simp [intOf]; omega
   ·obtain rfl : j = n := by omega
    have R := Hd hb
    clear hb
    go_wp2_with fail
    go_ret
    exact ⟨rfl, uh R⟩

theorem eqStringS_any (v v2 : Value) (l : List ByteArray) (w : World) (h : Strs w v l) (h2 : Strs w v2 l) (hs : l.length ≤ 1048576) :
  Calls Tryz.prog 23 #[v, v2] w fun e w' => e = .returned (.bool true) ∧ ∃ n, w' = w.drewN n := by
 obtain ⟨a, cap, rfl, hm, hc⟩ := h
 obtain ⟨a2, cap2, rfl, hm2, hc2⟩ := h2
 have HC := Hd hc
 have HC2 := Hd hc2
 clear hc hm hc2 hm2
 go_enter Tryz.func23, Tryz.ntmps23
 go_wp2_with fail
 go_loopw [5] (fun i wr => ∃ k n : Nat, k ≤ l.length ∧ i = .int .i64 k ∧ wr = w.drewN n) (fun i _ => l.length - (intOf i).toNat)
 case atStart => exact ⟨0, 0, Nat.zero_le _, rfl, rfl⟩
 case round =>
  obtain ⟨k, n, hk, rfl, rfl⟩ := hrel
  by_cases hlt : k < l.length
  ·obtain ⟨b, off, rfl, hbl, hsrc⟩ : ∃ b off, a = some ⟨b, off, none⟩ ∧ b < w.heap.size ∧ ∀ i, i < l.length → w.cell? ⟨b, off + i, none⟩ = some (.string (l.getD i ByteArray.empty)) := by
    rcases uh HC with h0 | h1
    ·omega
    ·exact h1
   obtain ⟨b2, off2, rfl, hbl2, hsrc2⟩ : ∃ b off, a2 = some ⟨b, off, none⟩ ∧ b < w.heap.size ∧ ∀ i, i < l.length → w.cell? ⟨b, off + i, none⟩ = some (.string (l.getD i ByteArray.empty)) := by
    rcases uh HC2 with h0 | h1
    ·omega
    ·exact h1
   have hs1 : w.cell? ⟨b, off + k, none⟩ = some (.string (l.getD k ByteArray.empty)) := hsrc k hlt
   have hs2 : w.cell? ⟨b2, off2 + k, none⟩ = some (.string (l.getD k ByteArray.empty)) := hsrc2 k hlt
   have hk0 : (0 : Int) ≤ (k : Int) := by omega
   have hk1 : (k : Int) < (l.length : Int) := by omega
   clear hsrc hsrc2
   generalize l.getD k ByteArray.empty = x at *
   go_wp2_with fail
   go_quiet (fail)
   go_wp2_with fail
   refine ⟨⟨k + 1, n + nq, by omega, by go_num, rfl⟩, ?_⟩
   simp [intOf]; omega
  ·go_wp2_with fail
   go_ret
   exact ⟨rfl, n, rfl⟩
end Go.Proofs.YtbchnheinnileaaGreatDoor
namespace Go.Proofs.YtbchnheinnileaaGreatDoor
set_option maxRecDepth 100000
set_option maxHeartbeats 8000000
theorem get_some {α : Type} {l : List α} {i n : Nat} (hl : l.length = n) (hi : i < n) : ∃ x, l[i]? = some x := by
 subst hl; exact ⟨l[i], List.getElem?_eq_getElem hi⟩
end Go.Proofs.YtbchnheinnileaaGreatDoor
