/- What the proof of the claim needs (joined by program): Base Bytes Wr Blk StrO Ses In Qb ApQ Res Cs Sha. -/
import Derived.Test.YtlbcdngidfjogaaGreatDoorRows
import Derived.WalkKit
import Derived.ProofKit
import Derived.OpenShut
import Derived.ShutString
import Derived.ChangeOld
import Derived.Below
import Derived.Laws.BytesArg
import Derived.Deep.AppendLies
import Derived.WalkSpells
import Derived.Deep.QuietTactic
import Derived.BigQuiet
import Derived.Lib.AppendStr
import Derived.Deep.Fields
import Derived.Deep.Slices
import Derived.Deep.RegionHeld3
import Derived.Deep.Quiet
namespace Go.Proofs.YtlbcdngidfjogaaGreatDoor
set_option maxRecDepth 100000
set_option maxHeartbeats 8000000
open Go.ChangeShapes Go.WideShapes Go.ChangeAt Go.RowKit
theorem hide {p : Prop} (h : p) : Hid p := h
theorem uh {p : Prop} (h : Hid p) : p := h
theorem Hd {p : Prop} (h : p) : Hid p := h
theorem hbt {a b c : World} (h : Hid (Below a.heap.size a b)) (k : Below b.heap.size b c) : Hid (Below a.heap.size a c) := hide ((uh h).trans (k.mono (uh h).size))
theorem bal (w : World) (o : Obj) : Below w.heap.size w (w.alloc o) := (Below.refl _ w).alloc (Nat.le_refl _) o
theorem ret_bool {a b : Bool} (h : a = b) : Ending.returned (.bool a) = .returned (.bool b) := by rw [h]
theorem ret_int {k : IntKind} {a b : Int} (h : a = b) : Ending.returned (.int k a) = .returned (.int k b) := by rw [h]

def bAt (s : ByteArray) (i : Nat) : Int := ((s.data.toList.getD i 0).toNat : Int)
theorem bAt_eq (s : ByteArray) (i : Nat) (h : i < s.size) : (s[i].toNat : Int) = bAt s i := by
 have h' : i < s.data.size := h
 have e : s[i] = s.data[i] := rfl
 unfold bAt; rw [e, List.getD_eq_getElem?_getD, Array.getElem?_toList, Array.getElem?_eq_getElem h']; rfl
theorem bAt_lo (s : ByteArray) (i : Nat) : 0 ≤ bAt s i := by unfold bAt; omega
theorem bAt_hi (s : ByteArray) (i : Nat) : bAt s i ≤ 255 := by
 unfold bAt; have := (s.data.toList.getD i 0).toNat_lt; omega

theorem conv_own {P : Program} {w : World} {base : Nat} {v : Value} {n : Nat} {ns : List Int} (src dst e : TypeId)
  (hs : P.underlying src = some (.slice e)) (he : P.underlying e = some (.int .u8)) (hd : P.underlying dst = some .string)
  (h : w.ownsRow base e 1 v n (ns.map (Value.int .u8))) : (convert src dst v).run P w = .ok (.string (strOfNums ns)) w := by
 obtain ⟨hl, ⟨rfl, rfl⟩ | ⟨g, cap, cur, rfl, hb, hg, hn, hc, hz, ht⟩⟩ := h
 ·have : ns = [] := by simpa using hl
  subst this
  exact run_convert_bytes_nil w src e hs he 0 0 dst hd
 ·have hl' : ns.length = n := by simpa using hl
  have hown : w.ownsRow base e 1 (.slice (some ⟨g, 0, none⟩) n cap) n (ns.map (Value.int .u8)) := ⟨hl, .inr ⟨g, cap, cur, rfl, hb, hg, hn, hc, hz, ht⟩⟩
  refine run_convert_bytes_arg w src e hs he g 0 n cap ns hl' (fun i hi => ?_) dst hd
  rw [Nat.zero_add, hown.cellAt i (by omega)]
  have hi' : i < ns.length := by omega
  simp [List.getD, List.getElem?_eq_getElem hi']
end Go.Proofs.YtlbcdngidfjogaaGreatDoor
namespace Go.Proofs.YtlbcdngidfjogaaGreatDoor
set_option maxRecDepth 100000
set_option maxHeartbeats 8000000
open Go.ChangeShapes Go.WideShapes Go.ChangeAt Go.RowKit
set_option linter.unusedVariables false
theorem info5 : (Tryz.prog.info? 5).map (fun i => (i.zero, i.size, i.bytes)) = some (some (.int .u8 0), 1, 1) := by kernel_rfl
theorem below_drewN {B : Nat} {a w : World} (h : Below B a w) (n : Nat) : Below B a (w.drewN n) := h.trans ⟨rfl, rfl, rfl, Nat.le_refl _, fun _ _ => rfl⟩

def Bytes (w : World) (v : Value) (l : List Int) : Prop :=
 ∃ a cap, v = .slice a l.length cap ∧ l.length ≤ maxLen ∧ (l.length = 0 ∨ ∃ b off, a = some ⟨b, off, none⟩ ∧ b < w.heap.size ∧ ∀ i, i < l.length → w.cell? ⟨b, off + i, none⟩ = some (.int .u8 (l.getD i 0))) ∧ ∀ i, 0 ≤ l.getD i 0 ∧ l.getD i 0 ≤ 255

theorem Bytes.below {w w' : World} {v : Value} {l : List Int} (h : Bytes w v l) (hb : Below w.heap.size w w') : Bytes w' v l := by
 obtain ⟨a, cap, hv, hm, hc, hr⟩ := h
 refine ⟨a, cap, hv, hm, ?_, hr⟩
 rcases hc with h0 | ⟨b, off, ha, hlt, hc⟩
 ·exact .inl h0
 ·refine .inr ⟨b, off, ha, Nat.lt_of_lt_of_le hlt hb.size, fun i hi => ?_⟩
  rw [hb.cell (p := ⟨b, off + i, none⟩) hlt]
  exact hc i hi

def IsRow (k : IntKind) (w : World) (a : Option Addr) (len cap : Nat) (zs : List Int) : Prop :=
 (a = none ∧ len = 0 ∧ cap = 0 ∧ zs = []) ∨
 ∃ x, a = some x ∧ len ≤ cap ∧ cap ≤ maxLen ∧ zs.length = cap ∧ (∀ i, i < zs.length → w.cell? (x.add i) = some (.int k (zs.getD i 0))) ∧ ∀ n ∈ zs, (Lit.int k n).wf = true

theorem bytes_of_row {w : World} {a : Option Addr} {len cap : Nat} {zs : List Int} (h : IsRow .u8 w a len cap zs) : Bytes w (.slice a len cap) (zs.take len) := by
 rcases h with ⟨rfl, rfl, rfl, rfl⟩ | ⟨x, rfl, hl, hm, hz, hcell, hwz⟩
 ·exact ⟨none, 0, rfl, by unfold maxLen; simp, .inl rfl, fun i => by simp⟩
 ·have hlen : (zs.take len).length = len := by rw [List.length_take]; omega
  have hget : ∀ i, i < len → (zs.take len).getD i 0 = zs.getD i 0 := fun i hi => by
   simp [List.getD_eq_getElem?_getD, hi]
  refine ⟨some x, cap, by rw [hlen], by rw [hlen]; omega, ?_, fun i => ?_⟩
  ·by_cases h0 : len = 0
   ·exact .inl (by rw [hlen]; exact h0)
   ·obtain ⟨b, off, spot⟩ := x
    have hc := hcell 0 (by omega)
    have hspot : spot = none := by simpa [Addr.add] using World.cell?_spot hc
    subst hspot
    have hblk := World.block_lt_of_cell? w _ hc
    have e0 : ∀ i, (⟨b, off, none⟩ : Addr).add i = ⟨b, off + i, none⟩ := fun i => by unfold Addr.add; split <;> simp_all
    rw [e0] at hblk
    refine .inr ⟨b, off, rfl, hblk, fun i hi => ?_⟩
    rw [hlen] at hi
    rw [hget i hi, ← e0, hcell i (by omega)]
  ·by_cases hi : i < len
   ·rw [hget i hi]
    have hi' : i < zs.length := by omega
    have hm' : zs.getD i 0 ∈ zs := by
     rw [List.getD_eq_getElem?_getD, List.getElem?_eq_getElem hi']; exact List.getElem_mem hi'
    have := hwz _ hm'
    simp [Lit.wf] at this
    exact bounds_u8 (hwz _ hm')
   ·have : (zs.take len)[i]? = none := List.getElem?_eq_none (by omega)
    rw [List.getD_eq_getElem?_getD, this]; simp

structure Touch (T : Nat → Prop) (w w' : World) : Prop where
 os : w'.os = w.os
 tape : w'.tape = w.tape
 output : w'.output = w.output
 size : w.heap.size ≤ w'.heap.size
 block : ∀ k, k < w.heap.size → ¬ T k → w'.heap[k]? = w.heap[k]?
theorem Touch.refl (T : Nat → Prop) (w : World) : Touch T w w := ⟨rfl, rfl, rfl, Nat.le_refl _, fun _ _ _ => rfl⟩
theorem Touch.trans {T T' : Nat → Prop} {a b c : World} (h : Touch T a b) (k : Touch T' b c) (hs : ∀ j, j < a.heap.size → T' j → T j) : Touch T a c :=
 ⟨k.os.trans h.os, k.tape.trans h.tape, k.output.trans h.output, Nat.le_trans h.size k.size, fun j hj hn => (k.block j (Nat.lt_of_lt_of_le hj h.size) (fun ht => hn (hs j hj ht))).trans (h.block j hj hn)⟩
theorem Touch.drew {T : Nat → Prop} {a w : World} (h : Touch T a w) : Touch T a w.drew := ⟨h.os, h.tape, h.output, h.size, h.block⟩
theorem Touch.drewN {T : Nat → Prop} {a w : World} (h : Touch T a w) (n : Nat) : Touch T a (w.drewN n) := h.trans (T' := T) ⟨rfl, rfl, rfl, Nat.le_refl _, fun _ _ _ => rfl⟩ (fun _ _ h => h)
theorem Touch.alloc {T : Nat → Prop} {a w : World} (h : Touch T a w) (o : Obj) : Touch T a (w.alloc o) :=
 h.trans (T' := T) ⟨rfl, rfl, rfl, by simp, fun k hk _ => Below.heap_alloc _ _ _ hk⟩ (fun _ _ h => h)
theorem Touch.setCell {T : Nat → Prop} {a w : World} (h : Touch T a w) (p : Addr) (u : Value) (hp : p.block < a.heap.size → T p.block) : Touch T a (w.setCell p u) :=
 h.trans (T' := fun k => k = p.block) ⟨rfl, rfl, rfl, by simp [World.setCell], fun k _ hn => Below.heap_setCell _ _ _ _ hn⟩ (fun j hj e => by subst e; exact hp hj)
theorem Touch.grown {T : Nat → Prop} {a w w' : World} {row : Option Nat} (h : Touch T a w) (hg : w.grownBy w' row) (hr : ∀ k, row = some k → k < a.heap.size → T k) : Touch T a w' :=
 h.trans (T' := fun k => row = some k) ⟨hg.os, hg.tape, hg.output, hg.size, fun k hk hn => hg.block k hk (fun e => hn e.symm)⟩ (fun j hj e => hr j e hj)
theorem Touch.below {T : Nat → Prop} {B : Nat} {w w' : World} (h : Touch T w w') (hB : B ≤ w.heap.size) (hT : ∀ k, k < B → ¬ T k) : Below B w w' :=
 ⟨h.os, h.tape, h.output, h.size, fun k hk => h.block k (Nat.lt_of_lt_of_le hk hB) (hT k hk)⟩
theorem Touch.cell {T : Nat → Prop} {w w' : World} (h : Touch T w w') {p : Addr} (hp : p.block < w.heap.size) (hn : ¬ T p.block) : w'.cell? p = w.cell? p := World.cell?_of_block (w := w) (h.block p.block hp hn)
theorem Touch.frozen {T : Nat → Prop} {w w' : World} (h : Touch T w w') {p : Addr} (hp : p.block < w.heap.size) (hn : ¬ T p.block) : w'.frozen? p = w.frozen? p := World.frozen?_of_block (w := w) (h.block p.block hp hn)
theorem Touch.ofBelow {T : Nat → Prop} {w w' : World} (h : Below w.heap.size w w') : Touch T w w' := ⟨h.os, h.tape, h.output, h.size, fun k hk _ => h.block k hk⟩

def Wr (w : World) (b : Nat) (v : Value) (xs : List Int) : Prop :=
 w.cell? ⟨b, 0, none⟩ = some v ∧ w.frozen? ⟨b, 0, none⟩ = false ∧ b < w.heap.size ∧ w.ownsRow (b + 1) 5 1 v xs.length (xs.map (Value.int .u8)) ∧ ∀ i, 0 ≤ xs.getD i 0 ∧ xs.getD i 0 ≤ 255
def WT (b : Nat) (v : Value) (k : Nat) : Prop := k = b ∨ v.ownBlock = some k
def Lies (v v' : Value) (n : Nat) : Prop := ∀ k, v'.ownBlock = some k → v.ownBlock = some k ∨ n ≤ k
theorem Lies.refl (v : Value) (n : Nat) : Lies v v n := fun _ h => .inl h
theorem Lies.trans {v v' v'' : Value} {n n' : Nat} (h : Lies v v' n) (k : Lies v' v'' n') (hn : n ≤ n') : Lies v v'' n := fun j hj => by
 rcases k j hj with h1 | h1
 ·exact h j h1
 ·exact .inr (Nat.le_trans hn h1)
theorem Touch.wr {b : Nat} {v v' : Value} {w w' w'' : World} (h : Touch (WT b v) w w') (hl : Lies v v' w.heap.size) (k : Touch (WT b v') w' w'') : Touch (WT b v) w w'' :=
 h.trans k (fun j hj ht => by
  rcases ht with h1 | h1
  ·exact .inl h1
  ·rcases hl j h1 with h2 | h2
   ·exact .inr h2
   ·omega)
theorem Wr.lt {w : World} {b : Nat} {v : Value} {xs : List Int} (h : Wr w b v xs) : b < w.heap.size := h.2.2.1
theorem Wr.row {w : World} {b : Nat} {v : Value} {xs : List Int} (h : Wr w b v xs) : ∀ k, v.ownBlock = some k → b < k ∧ k < w.heap.size := fun k hk => by
 have := h.2.2.2.1.lt k hk; omega
theorem Wr.below {w w' : World} {b B : Nat} {v : Value} {xs : List Int} (h : Wr w b v xs) (ht : Touch (WT b v) w w') (hB : B ≤ b) : Below B w w' :=
 ht.below (by have := h.lt; omega) (fun k hk hT => by
  rcases hT with h1 | h1
  ·omega
  ·have := h.row k h1; omega)
theorem Wr.kept {w w' : World} {b : Nat} {v : Value} {xs : List Int} {T : Nat → Prop} (h : Wr w b v xs) (ht : Touch T w w') (h1 : ¬ T b) (h2 : ∀ k, v.ownBlock = some k → ¬ T k) : Wr w' b v xs := by
 obtain ⟨c, f, l, o, r⟩ := h
 refine ⟨(ht.cell l h1).trans c, (ht.frozen l h1).trans f, Nat.lt_of_lt_of_le l ht.size, ?_, r⟩
 obtain ⟨hl, hc⟩ := o
 refine ⟨hl, ?_⟩
 rcases hc with hn | ⟨g, cap, cur, rfl, hb, hgg, rest⟩
 ·exact .inl hn
 ·exact .inr ⟨g, cap, cur, rfl, hb, (ht.block g (Array.getElem?_eq_some_iff.1 hgg).1 (h2 g rfl)).trans hgg, rest⟩
theorem Wr.alloc {w : World} {b : Nat} {v : Value} {xs : List Int} (h : Wr w b v xs) (o : Obj) : Wr (w.alloc o) b v xs :=
 h.kept (T := fun _ => False) ((Touch.refl _ _).alloc o) (fun h => h) (fun _ _ h => h)
theorem Wr.drew {w : World} {b : Nat} {v : Value} {xs : List Int} (h : Wr w b v xs) : Wr w.drew b v xs :=
 h.kept (T := fun _ => False) ((Touch.refl _ _).drew) (fun h => h) (fun _ _ h => h)
theorem Wr.drewN {w : World} {b : Nat} {v : Value} {xs : List Int} (h : Wr w b v xs) (n : Nat) : Wr (w.drewN n) b v xs :=
 h.kept (T := fun _ => False) ((Touch.refl _ _).drewN n) (fun h => h) (fun _ _ h => h)
theorem range_append {xs ys : List Int} (h : ∀ i, 0 ≤ xs.getD i 0 ∧ xs.getD i 0 ≤ 255) (k : ∀ i, 0 ≤ ys.getD i 0 ∧ ys.getD i 0 ≤ 255) : ∀ i, 0 ≤ (xs ++ ys).getD i 0 ∧ (xs ++ ys).getD i 0 ≤ 255 := by
 intro i
 by_cases hi : i < xs.length
 ·rw [List.getD_eq_getElem?_getD, List.getElem?_append_left hi, ← List.getD_eq_getElem?_getD]; exact h i
 ·rw [List.getD_eq_getElem?_getD, List.getElem?_append_right (by omega), ← List.getD_eq_getElem?_getD]; exact k _

theorem Wr.appended {w w1 : World} {b n : Nat} {v v' : Value} {xs ys : List Int} (h : Wr w b v xs) (h1 : w1.ownsRow (b + 1) 5 1 v' n ((xs ++ ys).map (Value.int .u8))) (hg : w.grownBy w1 v.ownBlock)
  (hl : v'.ownBlock = v.ownBlock ∨ v'.ownBlock = some w.heap.size) (hr : ∀ i, 0 ≤ ys.getD i 0 ∧ ys.getD i 0 ≤ 255) :
  Wr (w1.setCell ⟨b, 0, none⟩ v') b v' (xs ++ ys) ∧ Touch (WT b v) w (w1.setCell ⟨b, 0, none⟩ v') ∧ Lies v v' w.heap.size := by
 obtain ⟨c, f, l, o, r⟩ := h
 have hne : some b ≠ v.ownBlock := fun e => by have := (o.lt b e.symm).1; omega
 have hcell : w1.cell? ⟨b, 0, none⟩ = some v := (hg.cell_far ⟨b, 0, none⟩ l hne).trans c
 have hn : n = (xs ++ ys).length := by have := h1.1; simpa using this.symm
 subst hn
 refine ⟨⟨World.cell?_setCell_same _ _ _ hcell, ?_, ?_, ownsRow_setCell_below h1 (by show b < b + 1; omega) _, range_append r hr⟩, ?_, ?_⟩
 ·rw [World.frozen?_setCell]; exact (hg.frozen_far ⟨b, 0, none⟩ l hne).trans f
 ·have := hg.size; simp; omega
 ·exact ((Touch.refl _ _).grown hg (fun k hk _ => .inr hk)).setCell _ _ (fun _ => .inl rfl)
 ·intro k hk
  rcases hl with e | e
  ·exact .inl (e ▸ hk)
  ·right; rw [e] at hk; cases hk; exact Nat.le_refl _

theorem Wr.pushed {w w1 : World} {b n gg capg : Nat} {u : Value} {zs : List Int} {x : Int} {o : Obj} (h : Wr w b u zs)
  (h1 : w1.ownsRow (b + 1) 5 1 (.slice (some ⟨gg, 0, none⟩) n capg) n (zs.map (Value.int .u8) ++ [Value.int .u8 x])) (hg : (w.alloc o).drew.grownBy w1 u.ownBlock) (hat : u.ownBlock = some gg ∨ gg = w.heap.size + 1)
  (hx0 : 0 ≤ x) (hx1 : x ≤ 255) :
  Wr (w1.setCell ⟨b, 0, none⟩ (.slice (some ⟨gg, 0, none⟩) n capg)) b (.slice (some ⟨gg, 0, none⟩) n capg) (zs ++ [x]) ∧ Touch (WT b u) w (w1.setCell ⟨b, 0, none⟩ (.slice (some ⟨gg, 0, none⟩) n capg)) ∧ Lies u (.slice (some ⟨gg, 0, none⟩) n capg) w.heap.size := by
 have h2 := ((h.alloc o).drew).appended (ys := [x]) (by simpa using h1) hg (by
  rcases hat with e | e
  ·left; rw [e]; rfl
  ·right; rw [e]; simp [Value.ownBlock]) (fun i => by
  cases i with
  | zero => simp; omega
  | succ i => simp)
 refine ⟨h2.1, (((Touch.refl (WT b u) w).alloc o).drew).trans h2.2.1 (fun _ _ h => h), fun k hk => ?_⟩
 rcases h2.2.2 k hk with e | e
 ·exact .inl e
 ·right; simp at e; omega

theorem str_lies {P : Program} {w w' : World} {base : Nat} {t u ty e : TypeId} {i : TypeInfo} (ht : P.underlying t = some (.slice e)) (hu : P.underlying u = some .string) (hi : P.info? e = some i) (hz : i.zero = some (.int .u8 0))
  (hsize : i.size = 1) (hby : i.bytes = 1) {v v' : Value} {n : Nat} {xs : List Value} (hown : w.ownsRow base e 1 v n xs) {s : ByteArray} (hb : n + s.size ≤ 140737488355328)
  (hr : (Builtin.append_ #[t, u] ty #[v, .string s]).run P w = .ok v' w') (hn : v' = .slice none 0 0 ↔ v = .slice none 0 0 ∧ s.size = 0) : v'.ownBlock = v.ownBlock ∨ v'.ownBlock = some w.heap.size := by
 have hxl : xs.length = n := by simpa using hown.1
 rcases hown.2 with ⟨rfl, rfl⟩ | ⟨g, cap, cur, rfl, hbg, hg, hnc, hcm, hcs, htake⟩
 ·by_cases h0 : s.size = 0
  ·rw [hn.2 ⟨rfl, h0⟩]; exact .inl rfl
  ·have hq := run_append_nil_string (P := P) w t u ty e i (.int .u8 0) ht hu hi hz s (by omega) (by omega) (by rw [hby]; omega)
   rw [hq] at hr
   cases hr
   exact .inr rfl
 ·by_cases hroom : n + s.size ≤ cap
  ·have hq := Lib.run_append_room_string (P := P) w t u ty e i ht hu hi hsize g n cap cur hg s hroom (by omega)
   rw [hq] at hr
   cases hr
   exact .inl rfl
  ·have holds : ∀ j u, xs[j]? = some u → w.cell? ((⟨g, 0, none⟩ : Addr).add j) = some u := hown.cells (g := g) rfl
   have hq := Lib.run_append_grow_string (P := P) w t u ty e i (.int .u8 0) ht hu hi hz ⟨g, 0, none⟩ n cap xs (by rw [hsize]; simpa using hxl) holds s (by omega) (by omega) (by rw [hby]; exact growslice_fits (by omega) (by omega))
   rw [hq] at hr
   cases hr
   exact .inr rfl
def OwnB (B : Nat) (w : World) (v : Value) (l : List Int) : Prop := w.ownsRow B 5 1 v l.length (l.map (Value.int .u8)) ∧ ∀ i, 0 ≤ l.getD i 0 ∧ l.getD i 0 ≤ 255
theorem OwnB.nil (B : Nat) (w : World) : OwnB B w (.slice none 0 0) [] := ⟨World.ownsRow_nil w B 5 1, fun i => by simp⟩
theorem OwnB.mono {B B' : Nat} {w : World} {v : Value} {l : List Int} (h : OwnB B w v l) (hB : B' ≤ B) : OwnB B' w v l := by
 obtain ⟨⟨hl, hc⟩, r⟩ := h
 refine ⟨⟨hl, ?_⟩, r⟩
 rcases hc with hn | ⟨g, cap, cur, hv, hb, rest⟩
 ·exact .inl hn
 ·exact .inr ⟨g, cap, cur, hv, by omega, rest⟩
theorem OwnB.kept {T : Nat → Prop} {B : Nat} {w w' : World} {v : Value} {l : List Int} (h : OwnB B w v l) (ht : Touch T w w') (hn : ∀ k, v.ownBlock = some k → ¬ T k) : OwnB B w' v l := by
 obtain ⟨⟨hl, hc⟩, r⟩ := h
 refine ⟨⟨hl, ?_⟩, r⟩
 rcases hc with h0 | ⟨g, cap, cur, rfl, hb, hgg, rest⟩
 ·exact .inl h0
 ·exact .inr ⟨g, cap, cur, rfl, hb, (ht.block g (Array.getElem?_eq_some_iff.1 hgg).1 (hn g rfl)).trans hgg, rest⟩
theorem OwnB.below {B : Nat} {w w' : World} {v : Value} {l : List Int} (h : OwnB B w v l) (hb : Below w.heap.size w w') : OwnB B w' v l := h.kept (T := fun _ => False) (Touch.ofBelow hb) (fun _ _ h => h)
theorem OwnB.drewN {B : Nat} {w : World} {v : Value} {l : List Int} (h : OwnB B w v l) (n : Nat) : OwnB B (w.drewN n) v l := h.kept (T := fun _ => False) ((Touch.refl _ _).drewN n) (fun _ _ h => h)
theorem OwnB.lt {B : Nat} {w : World} {v : Value} {l : List Int} (h : OwnB B w v l) : ∀ k, v.ownBlock = some k → B ≤ k ∧ k < w.heap.size := h.1.lt
theorem OwnB.len {B : Nat} {w : World} {v : Value} {l : List Int} (h : OwnB B w v l) : l.length ≤ maxLen := by
 rcases h.1.2 with ⟨_, h0⟩ | ⟨g, cap, cur, _, _, _, hn, hc, _⟩
 ·rw [h0]; unfold maxLen; omega
 ·omega
theorem OwnB.shape {B : Nat} {w : World} {v : Value} {l : List Int} (h : OwnB B w v l) : (v = .slice none 0 0 ∧ l = []) ∨ ∃ g cap, v = .slice (some ⟨g, 0, none⟩) l.length cap ∧ B ≤ g ∧ g < w.heap.size := by
 rcases h.1.2 with ⟨hv, h0⟩ | ⟨g, cap, cur, hv, hb, hg, _⟩
 ·exact .inl ⟨hv, List.eq_nil_of_length_eq_zero h0⟩
 ·exact .inr ⟨g, cap, hv, hb, (Array.getElem?_eq_some_iff.1 hg).1⟩
theorem OwnB.cell {B : Nat} {w : World} {g cap n : Nat} {l : List Int} (h : OwnB B w (.slice (some ⟨g, 0, none⟩) n cap) l) (i : Nat) (hi : i < l.length) : w.cell? ⟨g, i, none⟩ = some (.int .u8 (l.getD i 0)) := by
 have hn : n = l.length := by
  rcases h.1.2 with ⟨hv, _⟩ | ⟨g', cap', cur, hv, _⟩
  ·cases hv
  ·cases hv; rfl
 subst hn
 rw [h.1.cellAt i (by omega)]
 simp [List.getD, hi]
theorem OwnB.bytes {B : Nat} {w : World} {v : Value} {l : List Int} (h : OwnB B w v l) : Bytes w v l := by
 rcases h.shape with ⟨rfl, rfl⟩ | ⟨g, cap, rfl, hb, hlt⟩
 ·exact ⟨none, 0, rfl, by unfold maxLen; simp, .inl rfl, fun i => by simp⟩
 ·exact ⟨_, _, rfl, h.len, .inr ⟨g, 0, rfl, hlt, fun i hi => by rw [Nat.zero_add]; exact h.cell i hi⟩, h.2⟩
def Blk (w : World) (B : Nat) (vs : List Value) : Prop := B < w.heap.size ∧ (∀ i v, vs[i]? = some v → w.cell? ⟨B, i, none⟩ = some v) ∧ ∀ j, w.frozen? ⟨B, j, none⟩ = false
theorem Blk.cell {w : World} {B : Nat} {vs : List Value} (h : Blk w B vs) (i : Nat) {v : Value} (hv : vs[i]? = some v) : w.cell? ⟨B, i, none⟩ = some v := h.2.1 i v hv
theorem Blk.fro {w : World} {B : Nat} {vs : List Value} (h : Blk w B vs) (i : Nat) : w.frozen? ⟨B, i, none⟩ = false := h.2.2 i
theorem Blk.kept {T : Nat → Prop} {w w' : World} {B : Nat} {vs : List Value} (h : Blk w B vs) (ht : Touch T w w') (hn : ¬ T B) : Blk w' B vs :=
 ⟨Nat.lt_of_lt_of_le h.1 ht.size, fun i v hv => (ht.cell (p := ⟨B, i, none⟩) h.1 hn).trans (h.2.1 i v hv), fun j => (ht.frozen (p := ⟨B, j, none⟩) h.1 hn).trans (h.2.2 j)⟩
theorem Blk.below {w w' : World} {B : Nat} {vs : List Value} (h : Blk w B vs) (hb : Below w.heap.size w w') : Blk w' B vs := h.kept (T := fun _ => False) (Touch.ofBelow hb) (fun h => h)
theorem Blk.alloc {w : World} {B : Nat} {vs : List Value} (h : Blk w B vs) (o : Obj) : Blk (w.alloc o) B vs := h.kept (T := fun _ => False) ((Touch.refl _ _).alloc o) (fun h => h)
theorem Blk.drewN {w : World} {B : Nat} {vs : List Value} (h : Blk w B vs) (n : Nat) : Blk (w.drewN n) B vs := h.kept (T := fun _ => False) ((Touch.refl _ _).drewN n) (fun h => h)
theorem Blk.new (w : World) (cs : Array Value) (t : TypeId) (B : Nat) (hB : w.heap.size = B) : Blk (w.alloc (.cells cs t)) B cs.toList := by
 subst hB
 refine ⟨by simp, fun i v hv => ?_, fun j => by simp⟩
 rw [World.cell?_alloc_at _ _ _ _ rfl]
 simpa using hv
theorem Blk.set {w : World} {B : Nat} {vs : List Value} (h : Blk w B vs) (j : Nat) (v : Value) (hj : j < vs.length) : Blk (w.setCell ⟨B, j, none⟩ v) B (vs.set j v) := by
 refine ⟨by simpa using h.1, fun i u hu => ?_, fun i => by rw [World.frozen?_setCell]; exact h.2.2 i⟩
 by_cases e : i = j
 ·subst e
  rw [List.getElem?_set_self hj] at hu
  cases hu
  exact World.cell?_setCell_same _ _ _ (h.2.1 i _ (List.getElem?_eq_getElem hj))
 ·rw [List.getElem?_set_ne (fun x => e x.symm)] at hu
  rw [World.cell?_setCell_other _ _ _ _ (fun x => e (by simpa using (congrArg Addr.off x).symm))]
  exact h.2.1 i u hu
theorem Blk.other {w : World} {B C : Nat} {vs : List Value} (h : Blk w B vs) (j : Nat) (v : Value) (hne : C ≠ B) : Blk (w.setCell ⟨C, j, none⟩ v) B vs :=
 h.kept (T := fun k => k = C) ((Touch.refl _ _).setCell _ _ (fun _ => rfl)) (fun e => hne e.symm)
theorem own_kept {T : Nat → Prop} {B : Nat} {e : TypeId} {sz n : Nat} {w w' : World} {v : Value} {xs : List Value} (h : w.ownsRow B e sz v n xs) (ht : Touch T w w') (hn : ∀ k, v.ownBlock = some k → ¬ T k) : w'.ownsRow B e sz v n xs := by
 obtain ⟨hl, hc⟩ := h
 refine ⟨hl, ?_⟩
 rcases hc with h0 | ⟨g, cap, cur, rfl, hb, hgg, rest⟩
 ·exact .inl h0
 ·exact .inr ⟨g, cap, cur, rfl, hb, (ht.block g (Array.getElem?_eq_some_iff.1 hgg).1 (hn g rfl)).trans hgg, rest⟩
theorem own_shape {B : Nat} {e : TypeId} {sz n : Nat} {w : World} {v : Value} {xs : List Value} (h : w.ownsRow B e sz v n xs) : (v = .slice none 0 0 ∧ n = 0) ∨ ∃ g cap, v = .slice (some ⟨g, 0, none⟩) n cap ∧ B ≤ g ∧ g < w.heap.size ∧ n ≤ cap ∧ cap ≤ maxLen := by
 rcases h.2 with h0 | ⟨g, cap, cur, hv, hb, hg, hn, hm, _⟩
 ·exact .inl h0
 ·exact .inr ⟨g, cap, hv, hb, (Array.getElem?_eq_some_iff.1 hg).1, hn, hm⟩

def Strs (w : World) (v : Value) (l : List ByteArray) : Prop :=
 ∃ a cap, v = .slice a l.length cap ∧ l.length ≤ maxLen ∧ (l.length = 0 ∨ ∃ b off, a = some ⟨b, off, none⟩ ∧ b < w.heap.size ∧ ∀ i, i < l.length → w.cell? ⟨b, off + i, none⟩ = some (.string (l.getD i ByteArray.empty)))
def OwnS (B : Nat) (w : World) (v : Value) (l : List ByteArray) : Prop := w.ownsRow B 9 1 v l.length (l.map Value.string)
theorem OwnS.nil (B : Nat) (w : World) : OwnS B w (.slice none 0 0) [] := World.ownsRow_nil w B 9 1
theorem OwnS.cell {B : Nat} {w : World} {g cap n : Nat} {l : List ByteArray} (h : OwnS B w (.slice (some ⟨g, 0, none⟩) n cap) l) (i : Nat) (hi : i < l.length) : w.cell? ⟨g, i, none⟩ = some (.string (l.getD i ByteArray.empty)) := by
 have hn : n = l.length := by
  rcases h.2 with ⟨hv, _⟩ | ⟨g', cap', cur, hv, _⟩
  ·cases hv
  ·cases hv; rfl
 subst hn
 rw [h.cellAt i (by omega)]
 simp [List.getD, hi]
theorem OwnS.strs {B : Nat} {w : World} {v : Value} {l : List ByteArray} (h : OwnS B w v l) : Strs w v l := by
 rcases own_shape h with ⟨rfl, h0⟩ | ⟨g, cap, rfl, hb, hlt, hn, hm⟩
 ·obtain rfl := List.eq_nil_of_length_eq_zero h0
  exact ⟨none, 0, rfl, by unfold maxLen; simp, .inl rfl⟩
 ·exact ⟨_, _, rfl, by omega, .inr ⟨g, 0, rfl, hlt, fun i hi => by rw [Nat.zero_add]; exact h.cell i hi⟩⟩
theorem Strs.below {w w' : World} {v : Value} {l : List ByteArray} (h : Strs w v l) (hb : Below w.heap.size w w') : Strs w' v l := by
 obtain ⟨a, cap, hv, hm, hc⟩ := h
 refine ⟨a, cap, hv, hm, ?_⟩
 rcases hc with h0 | ⟨b, off, ha, hlt, hc⟩
 ·exact .inl h0
 ·exact .inr ⟨b, off, ha, Nat.lt_of_lt_of_le hlt hb.size, fun i hi => (hb.cell (p := ⟨b, off + i, none⟩) hlt).trans (hc i hi)⟩
theorem OwnS.kept {T : Nat → Prop} {B : Nat} {w w' : World} {v : Value} {l : List ByteArray} (h : OwnS B w v l) (ht : Touch T w w') (hn : ∀ k, v.ownBlock = some k → ¬ T k) : OwnS B w' v l := own_kept h ht hn
theorem OwnS.below {B : Nat} {w w' : World} {v : Value} {l : List ByteArray} (h : OwnS B w v l) (hb : Below w.heap.size w w') : OwnS B w' v l := h.kept (T := fun _ => False) (Touch.ofBelow hb) (fun _ _ h => h)
theorem OwnS.drewN {B : Nat} {w : World} {v : Value} {l : List ByteArray} (h : OwnS B w v l) (n : Nat) : OwnS B (w.drewN n) v l := h.kept (T := fun _ => False) ((Touch.refl _ _).drewN n) (fun _ _ h => h)
theorem OwnS.lt {B : Nat} {w : World} {v : Value} {l : List ByteArray} (h : OwnS B w v l) : ∀ k, v.ownBlock = some k → B ≤ k ∧ k < w.heap.size := World.ownsRow.lt h

end Go.Proofs.YtlbcdngidfjogaaGreatDoor
namespace Go.Proofs.YtlbcdngidfjogaaGreatDoor
set_option maxRecDepth 100000
set_option maxHeartbeats 8000000
open Go.ChangeShapes Go.WideShapes Go.ChangeAt Go.RowKit Go.Deep
set_option linter.unusedVariables false
set_option linter.unusedSimpArgs false
structure Se where
 id : Int
 sq : Int
 kd : Int
 pl : Int
 vl : ByteArray
deriving Inhabited
def seC (f : Se) : List Value := [.int .i64 f.id, .int .i64 f.sq, .int .i64 f.kd, .int .i64 f.pl, .string f.vl]
def sesC (l : List Se) : List Value := l.flatMap seC
def Sess (w : World) (v : Value) (l : List Se) : Prop :=
 ∃ a cap, v = .slice a l.length cap ∧ l.length ≤ cap ∧ cap ≤ maxLen ∧ (l.length = 0 ∨ ∃ b off, a = some ⟨b, off, none⟩ ∧ b < w.heap.size ∧ ∀ i, i < l.length → w.cell? ⟨b, off + i * 5, none⟩ = some (.int .i64 (l.getD i default).id) ∧ w.cell? ⟨b, off + i * 5 + 1, none⟩ = some (.int .i64 (l.getD i default).sq) ∧ w.cell? ⟨b, off + i * 5 + 2, none⟩ = some (.int .i64 (l.getD i default).kd) ∧ w.cell? ⟨b, off + i * 5 + 3, none⟩ = some (.int .i64 (l.getD i default).pl) ∧ w.cell? ⟨b, off + i * 5 + 4, none⟩ = some (.string (l.getD i default).vl))
theorem Sess.below {w w' : World} {v : Value} {l : List Se} (h : Sess w v l) (hb : Below w.heap.size w w') : Sess w' v l := by
 obtain ⟨a, cap, hv, hn, hm, hc⟩ := h
 refine ⟨a, cap, hv, hn, hm, ?_⟩
 rcases hc with h0 | ⟨b, off, ha, hlt, hc⟩
 ·exact .inl h0
 ·exact .inr ⟨b, off, ha, Nat.lt_of_lt_of_le hlt hb.size, fun i hi => ⟨(hb.cell (p := ⟨b, off + i * 5, none⟩) hlt).trans (hc i hi).1, (hb.cell (p := ⟨b, off + i * 5 + 1, none⟩) hlt).trans (hc i hi).2.1, (hb.cell (p := ⟨b, off + i * 5 + 2, none⟩) hlt).trans (hc i hi).2.2.1, (hb.cell (p := ⟨b, off + i * 5 + 3, none⟩) hlt).trans (hc i hi).2.2.2.1, (hb.cell (p := ⟨b, off + i * 5 + 4, none⟩) hlt).trans (hc i hi).2.2.2.2⟩⟩
theorem sesC_len (l : List Se) : (sesC l).length = l.length * 5 := by
 induction l with
 | nil => rfl
 | cons f r ih => simp only [sesC, List.flatMap_cons, List.length_append, List.length_cons] at ih ⊢; rw [ih]; simp [seC]; omega
theorem sesC_app (x y : List Se) : sesC (x ++ y) = sesC x ++ sesC y := by simp [sesC]
theorem sesC_get : ∀ (l : List Se) (i : Nat), i < l.length → (sesC l)[i * 5]? = some (.int .i64 (l.getD i default).id) ∧ (sesC l)[i * 5 + 1]? = some (.int .i64 (l.getD i default).sq) ∧ (sesC l)[i * 5 + 2]? = some (.int .i64 (l.getD i default).kd) ∧ (sesC l)[i * 5 + 3]? = some (.int .i64 (l.getD i default).pl) ∧ (sesC l)[i * 5 + 4]? = some (.string (l.getD i default).vl)
 | [], i, h => by simp at h
 | f :: r, 0, h => ⟨rfl, rfl, rfl, rfl, rfl⟩
 | f :: r, i + 1, h => by
  have ih := sesC_get r i (by simpa using h)
  have e : sesC (f :: r) = .int .i64 f.id :: .int .i64 f.sq :: .int .i64 f.kd :: .int .i64 f.pl :: .string f.vl :: sesC r := rfl
  rw [e, show (i + 1) * 5 = i * 5 + 1 + 1 + 1 + 1 + 1 by omega, show i * 5 + 1 + 1 + 1 + 1 + 1 + 1 = (i * 5 + 1) + 1 + 1 + 1 + 1 + 1 by omega, show i * 5 + 1 + 1 + 1 + 1 + 1 + 2 = (i * 5 + 2) + 1 + 1 + 1 + 1 + 1 by omega, show i * 5 + 1 + 1 + 1 + 1 + 1 + 3 = (i * 5 + 3) + 1 + 1 + 1 + 1 + 1 by omega, show i * 5 + 1 + 1 + 1 + 1 + 1 + 4 = (i * 5 + 4) + 1 + 1 + 1 + 1 + 1 by omega]
  simp only [List.getElem?_cons_succ, List.getD_cons_succ]
  exact ih
theorem sesC_set : ∀ (l : List Se) (k : Nat) (f : Se), k < l.length → ((((((sesC l).set (k * 5) (.int .i64 f.id)).set (k * 5 + 1) (.int .i64 f.sq)).set (k * 5 + 2) (.int .i64 f.kd)).set (k * 5 + 3) (.int .i64 f.pl)).set (k * 5 + 4) (.string f.vl)) = sesC (l.set k f)
 | [], k, f, h => by simp at h
 | g :: r, 0, f, h => rfl
 | g :: r, k + 1, f, h => by
  have ih := sesC_set r k f (by simpa using h)
  have e : ∀ (g : Se) (r : List Se), sesC (g :: r) = .int .i64 g.id :: .int .i64 g.sq :: .int .i64 g.kd :: .int .i64 g.pl :: .string g.vl :: sesC r := fun _ _ => rfl
  rw [List.set_cons_succ, e, e, ← ih, show (k + 1) * 5 = k * 5 + 1 + 1 + 1 + 1 + 1 by omega, show k * 5 + 1 + 1 + 1 + 1 + 1 + 1 = (k * 5 + 1) + 1 + 1 + 1 + 1 + 1 by omega, show k * 5 + 1 + 1 + 1 + 1 + 1 + 2 = (k * 5 + 2) + 1 + 1 + 1 + 1 + 1 by omega, show k * 5 + 1 + 1 + 1 + 1 + 1 + 3 = (k * 5 + 3) + 1 + 1 + 1 + 1 + 1 by omega, show k * 5 + 1 + 1 + 1 + 1 + 1 + 4 = (k * 5 + 4) + 1 + 1 + 1 + 1 + 1 by omega]
  simp only [List.set_cons_succ]
def OwnSe (B : Nat) (w : World) (v : Value) (l : List Se) : Prop := w.ownsRow B 77 5 v l.length (sesC l)
theorem OwnSe.cells {B : Nat} {w : World} {g cap n : Nat} {l : List Se} (h : w.ownsRow B 77 5 (.slice (some ⟨g, 0, none⟩) n cap) n (sesC l)) (i : Nat) (hi : i < l.length) (hn : n = l.length) :
  w.cell? ⟨g, i * 5, none⟩ = some (.int .i64 (l.getD i default).id) ∧ w.cell? ⟨g, i * 5 + 1, none⟩ = some (.int .i64 (l.getD i default).sq) ∧ w.cell? ⟨g, i * 5 + 2, none⟩ = some (.int .i64 (l.getD i default).kd) ∧ w.cell? ⟨g, i * 5 + 3, none⟩ = some (.int .i64 (l.getD i default).pl) ∧ w.cell? ⟨g, i * 5 + 4, none⟩ = some (.string (l.getD i default).vl) := by
 obtain ⟨e0, e1, e2, e3, e4⟩ := sesC_get l i hi
 exact ⟨(h.cellAt _ (by omega)).trans e0, (h.cellAt _ (by omega)).trans e1, (h.cellAt _ (by omega)).trans e2, (h.cellAt _ (by omega)).trans e3, (h.cellAt _ (by omega)).trans e4⟩
theorem OwnSe.read {B : Nat} {w : World} {v : Value} {l : List Se} (h : OwnSe B w v l) : Sess w v l := by
 rcases h.2 with ⟨rfl, h0⟩ | ⟨g, cap, cur, rfl, hb, hg, hn, hm, _⟩
 ·obtain rfl := List.eq_nil_of_length_eq_zero h0
  exact ⟨none, 0, rfl, Nat.le_refl _, by unfold maxLen; omega, .inl rfl⟩
 ·refine ⟨_, _, rfl, hn, hm, .inr ⟨g, 0, rfl, (Array.getElem?_eq_some_iff.1 hg).1, fun i hi => ?_⟩⟩
  have := OwnSe.cells h i hi rfl
  simpa using this
theorem OwnSe.kept {T : Nat → Prop} {B : Nat} {w w' : World} {v : Value} {l : List Se} (h : OwnSe B w v l) (ht : Touch T w w') (hn : ∀ k, v.ownBlock = some k → ¬ T k) : OwnSe B w' v l := own_kept h ht hn
theorem OwnSe.below {B : Nat} {w w' : World} {v : Value} {l : List Se} (h : OwnSe B w v l) (hb : Below w.heap.size w w') : OwnSe B w' v l := h.kept (T := fun _ => False) (Touch.ofBelow hb) (fun _ _ h => h)
theorem OwnSe.lt {B : Nat} {w : World} {v : Value} {l : List Se} (h : OwnSe B w v l) : ∀ k, v.ownBlock = some k → B ≤ k ∧ k < w.heap.size := World.ownsRow.lt h
theorem OwnSe.down {B B' : Nat} {w : World} {v : Value} {l : List Se} (h : OwnSe B w v l) (hB : B' ≤ B) : OwnSe B' w v l := by
 obtain ⟨hl, hc⟩ := h
 refine ⟨hl, ?_⟩
 rcases hc with h0 | ⟨g, cap, cur, hv, hg, rest⟩
 ·exact .inl h0
 ·exact .inr ⟨g, cap, cur, hv, by omega, rest⟩
theorem OwnSe.nil (B : Nat) (w : World) : OwnSe B w (.slice none 0 0) [] := World.ownsRow_nil w B 77 5
theorem infoSe : (Tryz.prog.info? 77).map (fun i => (i.zero, i.size, i.bytes)) = some (some (.agg #[.int .i64 0, .int .i64 0, .int .i64 0, .int .i64 0, .string ⟨#[]⟩]), 5, 48) := by kernel_rfl
theorem wrapSe (n : Int) (h0 : 0 ≤ n) (h1 : n < 9223372036854775808) : IntKind.i64.wrap n = n := by
 simp only [IntKind.wrap, IntKind.bits, IntKind.signed]
 simp
 omega
end Go.Proofs.YtlbcdngidfjogaaGreatDoor
namespace Go.Proofs.YtlbcdngidfjogaaGreatDoor
set_option maxRecDepth 100000
set_option maxHeartbeats 8000000
open Go.ChangeShapes Go.WideShapes Go.ChangeAt Go.RowKit
set_option linter.unusedVariables false
def inB (n lo hi : Int) : Bool := decide (lo ≤ n) && decide (n ≤ hi)
theorem inB_iff {n lo hi : Int} : inB n lo hi = true ↔ lo ≤ n ∧ n ≤ hi := by simp [inB]
theorem within_any (n lo hi : Int) (w : World) :
  Calls Tryz.prog 20 #[.int .i64 n, .int .i64 lo, .int .i64 hi] w fun e w' => e = .returned (.bool (inB n lo hi)) ∧ w' = w := by
 by_cases h1 : lo ≤ n
 ·by_cases h2 : n ≤ hi
  ·have H := Hd (show inB n lo hi = true from inB_iff.2 ⟨h1, h2⟩)
   go_enter Tryz.func20, Tryz.ntmps20
   go_wp2
   go_ret
   exact ⟨ret_bool (uh H).symm, rfl⟩
  ·have H := Hd (show inB n lo hi = false by simp [inB]; omega)
   go_enter Tryz.func20, Tryz.ntmps20
   go_wp2
   go_ret
   exact ⟨ret_bool (uh H).symm, rfl⟩
 ·have H := Hd (show inB n lo hi = false by simp [inB]; omega)
  go_enter Tryz.func20, Tryz.ntmps20
  go_wp2
  go_ret
  exact ⟨ret_bool (uh H).symm, rfl⟩
theorem l01In_any (n lo hi : Int) (w : World) :
  Calls Tryz.prog 22 #[.int .i64 n, .int .i64 lo, .int .i64 hi] w fun e w' => e = .returned (.bool (inB n lo hi)) ∧ w' = w := by
 by_cases h1 : lo ≤ n
 ·by_cases h2 : n ≤ hi
  ·have H := Hd (show inB n lo hi = true from inB_iff.2 ⟨h1, h2⟩)
   go_enter Tryz.func22, Tryz.ntmps22
   go_wp2
   go_ret
   exact ⟨ret_bool (uh H).symm, rfl⟩
  ·have H := Hd (show inB n lo hi = false by simp [inB]; omega)
   go_enter Tryz.func22, Tryz.ntmps22
   go_wp2
   go_ret
   exact ⟨ret_bool (uh H).symm, rfl⟩
 ·have H := Hd (show inB n lo hi = false by simp [inB]; omega)
  go_enter Tryz.func22, Tryz.ntmps22
  go_wp2
  go_ret
  exact ⟨ret_bool (uh H).symm, rfl⟩

theorem five_cell {w wx : World} {B : Nat} {a b c d e : Value} {t : TypeId} (hB : B = w.heap.size) (h : Below (w.heap.size + 1) (w.alloc (.cells #[a, b, c, d, e] t)) wx) :
  wx.cell? ⟨B, 0, none⟩ = some a ∧ wx.cell? ⟨B, 1, none⟩ = some b ∧ wx.cell? ⟨B, 2, none⟩ = some c ∧ wx.cell? ⟨B, 3, none⟩ = some d ∧ wx.cell? ⟨B, 4, none⟩ = some e := by
 subst hB
 refine ⟨?_, ?_, ?_, ?_, ?_⟩
 all_goals
  rw [h.cell (by simp), World.cell?_alloc_at _ _ _ _ rfl]; rfl

def emptyB (s : ByteArray) : Bool := s.toList.isEmpty
theorem emptyB_iff {s : ByteArray} : emptyB s = true ↔ s.size = 0 := by
 unfold emptyB; rw [List.isEmpty_iff, ByteArray.toList_eq]
 constructor
 ·intro h; have : s.data.toList.length = 0 := by rw [h]; rfl
  rw [Array.length_toList] at this; exact this
 ·intro h; apply List.eq_nil_of_length_eq_zero; rw [Array.length_toList]; exact h
theorem ret_two {a : Value} {x y : Int} (h : x = y) : Ending.returned (.tuple #[a, .int .i64 x]) = .returned (.tuple #[a, .int .i64 y]) := by rw [h]
structure Wb (w : World) where
 at_ : World
 below : Below w.heap.size w at_
instance (w : World) : Inhabited (Wb w) := ⟨⟨w, Below.refl _ _⟩⟩
theorem Wb.cell {w : World} {a : Addr} {v : Value} (h : w.cell? a = some v) (hb : a.block < w.heap.size) (p : Wb w) : p.at_.cell? a = some v := (p.below.cell hb).trans h
end Go.Proofs.YtlbcdngidfjogaaGreatDoor
namespace Go.Proofs.YtlbcdngidfjogaaGreatDoor
set_option maxRecDepth 100000
set_option maxHeartbeats 8000000
open Go.ChangeShapes Go.WideShapes Go.ChangeAt Go.RowKit Go.Deep
set_option linter.unusedVariables false
set_option linter.unusedSimpArgs false
def newS (id : Int) : Se := ⟨id, 0, 0, 0, ⟨#[]⟩⟩
structure IsPos (ss : List Se) (id : Int) (q : Nat) : Prop where
 le : q ≤ ss.length
 lo : ∀ i, i < q → (ss.getD i default).id < id
 hi : ∀ i, q ≤ i → i < ss.length → id ≤ (ss.getD i default).id
theorem IsPos.uniq {ss : List Se} {id : Int} {q r : Nat} (h : IsPos ss id q) (g : IsPos ss id r) : q = r := by
 rcases Nat.lt_trichotomy q r with e | e | e
 ·have h1 := g.lo q e
  have h2 := h.hi q (Nat.le_refl _) (by have := g.le; omega)
  omega
 ·exact e
 ·have h1 := h.lo r e
  have h2 := g.hi r (Nat.le_refl _) (by have := h.le; omega)
  omega
def posS : List Se → Int → Nat
 | [], _ => 0
 | s :: r, id => if s.id < id then posS r id + 1 else 0
def RiseS (ss : List Se) : Prop := ∀ i j, i < j → j < ss.length → (ss.getD i default).id < (ss.getD j default).id
theorem RiseS.tail {s : Se} {r : List Se} (h : RiseS (s :: r)) : RiseS r := fun i j hij hj => by
 have := h (i + 1) (j + 1) (by omega) (by simp; omega)
 simpa using this
theorem pos_is {id : Int} : ∀ {ss : List Se}, RiseS ss → IsPos ss id (posS ss id)
 | [], _ => ⟨Nat.le_refl _, fun i hi => by simp [posS] at hi, fun i _ hi => by simp at hi⟩
 | s :: r, h => by
  have ih := pos_is (id := id) h.tail
  unfold posS
  by_cases hs : s.id < id
  ·rw [if_pos hs]
   refine ⟨by simp; exact ih.le, fun i hi => ?_, fun i hi hl => ?_⟩
   ·cases i with
    | zero => simpa using hs
    | succ i => simpa using ih.lo i (by omega)
   ·cases i with
    | zero => omega
    | succ i => simpa using ih.hi i (by omega) (by simp at hl; omega)
  ·rw [if_neg hs]
   refine ⟨Nat.zero_le _, fun i hi => by omega, fun i _ hl => ?_⟩
   cases i with
   | zero => simp; omega
   | succ i =>
    have := h 0 (i + 1) (by omega) hl
    simp at this ⊢
    omega
def hasS (ss : List Se) (id : Int) : Bool := decide (posS ss id < ss.length ∧ (ss.getD (posS ss id) default).id = id)
def insS (ss : List Se) (q : Nat) (s : Se) : List Se := ss.take q ++ s :: ss.drop q
def delS (ss : List Se) (q : Nat) : List Se := ss.take q ++ ss.drop (q + 1)
theorem insS_len (ss : List Se) (q : Nat) (s : Se) (h : q ≤ ss.length) : (insS ss q s).length = ss.length + 1 := by
 unfold insS; simp; omega
theorem insS_get (ss : List Se) (q : Nat) (s : Se) (h : q ≤ ss.length) (i : Nat) : (insS ss q s).getD i default = if i < q then ss.getD i default else if i = q then s else ss.getD (i - 1) default := by
 unfold insS
 rw [List.getD_eq_getElem?_getD, List.getElem?_append]
 have hl : (ss.take q).length = q := by simp; omega
 rw [hl]
 by_cases h1 : i < q
 ·rw [if_pos h1, if_pos h1, List.getElem?_take_of_lt h1, ← List.getD_eq_getElem?_getD]
 ·rw [if_neg h1, if_neg h1]
  by_cases h2 : i = q
  ·subst h2; simp
  ·rw [if_neg h2, show i - q = (i - q - 1) + 1 by omega, List.getElem?_cons_succ, List.getElem?_drop, ← List.getD_eq_getElem?_getD, show q + (i - q - 1) = i - 1 by omega]
theorem delS_len (ss : List Se) (q : Nat) (h : q < ss.length) : (delS ss q).length = ss.length - 1 := by
 unfold delS; simp; omega
theorem delS_get (ss : List Se) (q : Nat) (h : q < ss.length) (i : Nat) : (delS ss q).getD i default = if i < q then ss.getD i default else ss.getD (i + 1) default := by
 unfold delS
 rw [List.getD_eq_getElem?_getD, List.getElem?_append]
 have hl : (ss.take q).length = q := by simp; omega
 rw [hl]
 by_cases h1 : i < q
 ·rw [if_pos h1, if_pos h1, List.getElem?_take_of_lt h1, ← List.getD_eq_getElem?_getD]
 ·rw [if_neg h1, if_neg h1, List.getElem?_drop, ← List.getD_eq_getElem?_getD, show q + 1 + (i - q) = i + 1 by omega]
theorem setS_get (ss : List Se) (q : Nat) (s : Se) (h : q < ss.length) (i : Nat) : (ss.set q s).getD i default = if i = q then s else ss.getD i default := by
 rw [List.getD_eq_getElem?_getD, List.getElem?_set]
 by_cases h1 : q = i
 ·subst h1; simp [h]
 ·rw [if_neg h1, if_neg (fun e => h1 e.symm), ← List.getD_eq_getElem?_getD]
theorem getD_mem {ss : List Se} {i : Nat} (h : i < ss.length) : ss.getD i default ∈ ss := by
 rw [List.getD_eq_getElem?_getD, List.getElem?_eq_getElem h]; exact List.getElem_mem h
theorem has_iff {ss : List Se} {id : Int} : hasS ss id = true ↔ posS ss id < ss.length ∧ (ss.getD (posS ss id) default).id = id := by unfold hasS; simp
theorem ins_rise {ss : List Se} {id : Int} (h : RiseS ss) (hn : hasS ss id = false) : RiseS (insS ss (posS ss id) (newS id)) := by
 have hp := pos_is (id := id) h
 have hn' : ¬ (posS ss id < ss.length ∧ (ss.getD (posS ss id) default).id = id) := fun e => by rw [has_iff.2 e] at hn; cases hn
 intro i j hij hj
 rw [insS_len _ _ _ hp.le] at hj
 rw [insS_get _ _ _ hp.le, insS_get _ _ _ hp.le]
 have hid : (newS id).id = id := rfl
 have hlo := hp.lo
 have hhi := hp.hi
 by_cases a1 : i < posS ss id
 ·rw [if_pos a1]
  by_cases b1 : j < posS ss id
  ·rw [if_pos b1]; exact h i j hij (by have := hp.le; omega)
  ·rw [if_neg b1]
   by_cases b2 : j = posS ss id
   ·rw [if_pos b2, hid]; exact hlo i a1
   ·rw [if_neg b2]
    have h1 := hlo i a1
    have h2 := hhi (j - 1) (by omega) (by omega)
    omega
 ·rw [if_neg a1, if_neg (by omega : ¬ j < posS ss id), if_neg (by omega : ¬ j = posS ss id)]
  by_cases a2 : i = posS ss id
  ·rw [if_pos a2, hid]
   have h2 := hhi (j - 1) (by omega) (by omega)
   by_cases e : j - 1 = posS ss id
   ·have : (ss.getD (j - 1) default).id ≠ id := fun e2 => hn' ⟨by omega, by rw [← e]; exact e2⟩
    omega
   ·have h3 := h (posS ss id) (j - 1) (by omega) (by omega)
    have h4 := hhi (posS ss id) (Nat.le_refl _) (by omega)
    omega
  ·rw [if_neg a2]; exact h (i - 1) (j - 1) (by omega) (by omega)
theorem del_rise {ss : List Se} {q : Nat} (h : RiseS ss) (hq : q < ss.length) : RiseS (delS ss q) := by
 intro i j hij hj
 rw [delS_len _ _ hq] at hj
 rw [delS_get _ _ hq, delS_get _ _ hq]
 split
 ·split
  ·exact h i j hij (by omega)
  ·exact h i (j + 1) (by omega) (by omega)
 ·rw [if_neg (by omega)]; exact h (i + 1) (j + 1) (by omega) (by omega)
theorem set_rise {ss : List Se} {q : Nat} {s : Se} (h : RiseS ss) (hq : q < ss.length) (hs : s.id = (ss.getD q default).id) : RiseS (ss.set q s) := by
 have e : ∀ i, ((ss.set q s).getD i default).id = (ss.getD i default).id := fun i => by
  rw [setS_get _ _ _ hq]
  split
  ·rename_i hi; rw [hi, hs]
  ·rfl
 intro i j hij hj
 rw [e, e]
 exact h i j hij (by simpa using hj)
structure Re where
 kd : Int
 pl : Int
 vl : ByteArray
deriving Inhabited
def reC (f : Re) : List Value := [.int .i64 f.kd, .int .i64 f.pl, .string f.vl]
def resC (l : List Re) : List Value := l.flatMap reC
def Ress (w : World) (v : Value) (l : List Re) : Prop :=
 ∃ a cap, v = .slice a l.length cap ∧ l.length ≤ cap ∧ cap ≤ maxLen ∧ (l.length = 0 ∨ ∃ b off, a = some ⟨b, off, none⟩ ∧ b < w.heap.size ∧ ∀ i, i < l.length → w.cell? ⟨b, off + i * 3, none⟩ = some (.int .i64 (l.getD i default).kd) ∧ w.cell? ⟨b, off + i * 3 + 1, none⟩ = some (.int .i64 (l.getD i default).pl) ∧ w.cell? ⟨b, off + i * 3 + 2, none⟩ = some (.string (l.getD i default).vl))
theorem Ress.below {w w' : World} {v : Value} {l : List Re} (h : Ress w v l) (hb : Below w.heap.size w w') : Ress w' v l := by
 obtain ⟨a, cap, hv, hn, hm, hc⟩ := h
 refine ⟨a, cap, hv, hn, hm, ?_⟩
 rcases hc with h0 | ⟨b, off, ha, hlt, hc⟩
 ·exact .inl h0
 ·exact .inr ⟨b, off, ha, Nat.lt_of_lt_of_le hlt hb.size, fun i hi => ⟨(hb.cell (p := ⟨b, off + i * 3, none⟩) hlt).trans (hc i hi).1, (hb.cell (p := ⟨b, off + i * 3 + 1, none⟩) hlt).trans (hc i hi).2.1, (hb.cell (p := ⟨b, off + i * 3 + 2, none⟩) hlt).trans (hc i hi).2.2⟩⟩
theorem resC_app (x y : List Re) : resC (x ++ y) = resC x ++ resC y := by simp [resC]
theorem resC_get : ∀ (l : List Re) (i : Nat), i < l.length → (resC l)[i * 3]? = some (.int .i64 (l.getD i default).kd) ∧ (resC l)[i * 3 + 1]? = some (.int .i64 (l.getD i default).pl) ∧ (resC l)[i * 3 + 2]? = some (.string (l.getD i default).vl)
 | [], i, h => by simp at h
 | f :: r, 0, h => ⟨rfl, rfl, rfl⟩
 | f :: r, i + 1, h => by
  have ih := resC_get r i (by simpa using h)
  have e : resC (f :: r) = .int .i64 f.kd :: .int .i64 f.pl :: .string f.vl :: resC r := rfl
  rw [e, show (i + 1) * 3 = i * 3 + 1 + 1 + 1 by omega, show i * 3 + 1 + 1 + 1 + 1 = (i * 3 + 1) + 1 + 1 + 1 by omega, show i * 3 + 1 + 1 + 1 + 2 = (i * 3 + 2) + 1 + 1 + 1 by omega]
  simp only [List.getElem?_cons_succ, List.getD_cons_succ]
  exact ih
def OwnRe (B : Nat) (w : World) (v : Value) (l : List Re) : Prop := w.ownsRow B 27 3 v l.length (resC l)
theorem OwnRe.cells {B : Nat} {w : World} {g cap n : Nat} {l : List Re} (h : w.ownsRow B 27 3 (.slice (some ⟨g, 0, none⟩) n cap) n (resC l)) (i : Nat) (hi : i < l.length) (hn : n = l.length) :
  w.cell? ⟨g, i * 3, none⟩ = some (.int .i64 (l.getD i default).kd) ∧ w.cell? ⟨g, i * 3 + 1, none⟩ = some (.int .i64 (l.getD i default).pl) ∧ w.cell? ⟨g, i * 3 + 2, none⟩ = some (.string (l.getD i default).vl) := by
 obtain ⟨e0, e1, e2⟩ := resC_get l i hi
 exact ⟨(h.cellAt _ (by omega)).trans e0, (h.cellAt _ (by omega)).trans e1, (h.cellAt _ (by omega)).trans e2⟩
theorem OwnRe.read {B : Nat} {w : World} {v : Value} {l : List Re} (h : OwnRe B w v l) : Ress w v l := by
 rcases h.2 with ⟨rfl, h0⟩ | ⟨g, cap, cur, rfl, hb, hg, hn, hm, _⟩
 ·obtain rfl := List.eq_nil_of_length_eq_zero h0
  exact ⟨none, 0, rfl, Nat.le_refl _, by unfold maxLen; omega, .inl rfl⟩
 ·refine ⟨_, _, rfl, hn, hm, .inr ⟨g, 0, rfl, (Array.getElem?_eq_some_iff.1 hg).1, fun i hi => ?_⟩⟩
  have := OwnRe.cells h i hi rfl
  simpa using this
theorem OwnRe.kept {T : Nat → Prop} {B : Nat} {w w' : World} {v : Value} {l : List Re} (h : OwnRe B w v l) (ht : Touch T w w') (hn : ∀ k, v.ownBlock = some k → ¬ T k) : OwnRe B w' v l := own_kept h ht hn
theorem OwnRe.below {B : Nat} {w w' : World} {v : Value} {l : List Re} (h : OwnRe B w v l) (hb : Below w.heap.size w w') : OwnRe B w' v l := h.kept (T := fun _ => False) (Touch.ofBelow hb) (fun _ _ h => h)
theorem OwnRe.lt {B : Nat} {w : World} {v : Value} {l : List Re} (h : OwnRe B w v l) : ∀ k, v.ownBlock = some k → B ≤ k ∧ k < w.heap.size := World.ownsRow.lt h
theorem OwnRe.down {B B' : Nat} {w : World} {v : Value} {l : List Re} (h : OwnRe B w v l) (hB : B' ≤ B) : OwnRe B' w v l := by
 obtain ⟨hl, hc⟩ := h
 refine ⟨hl, ?_⟩
 rcases hc with h0 | ⟨g, cap, cur, hv, hg, rest⟩
 ·exact .inl h0
 ·exact .inr ⟨g, cap, cur, hv, by omega, rest⟩
theorem OwnRe.nil (B : Nat) (w : World) : OwnRe B w (.slice none 0 0) [] := World.ownsRow_nil w B 27 3
theorem infoRe : (Tryz.prog.info? 27).map (fun i => (i.zero, i.size, i.bytes)) = some (some (.agg #[.int .i64 0, .int .i64 0, .string ⟨#[]⟩]), 3, 32) := by kernel_rfl
end Go.Proofs.YtlbcdngidfjogaaGreatDoor
namespace Go.Proofs.YtlbcdngidfjogaaGreatDoor
set_option maxRecDepth 100000
set_option maxHeartbeats 8000000
open Go.ChangeShapes Go.WideShapes Go.ChangeAt Go.RowKit
set_option linter.unusedVariables false
set_option linter.unusedSimpArgs false
structure Cm where
 kd : Int
 ss : Int
 sq : Int
 ky : ByteArray
 vl : ByteArray
deriving Inhabited
def cmC (f : Cm) : List Value := [.int .i64 f.kd, .int .i64 f.ss, .int .i64 f.sq, .string f.ky, .string f.vl]
def csC (l : List Cm) : List Value := l.flatMap cmC
def Css (w : World) (v : Value) (l : List Cm) : Prop :=
 ∃ a cap, v = .slice a l.length cap ∧ l.length ≤ cap ∧ cap ≤ maxLen ∧ (l.length = 0 ∨ ∃ b off, a = some ⟨b, off, none⟩ ∧ b < w.heap.size ∧ ∀ i, i < l.length → w.cell? ⟨b, off + i * 5, none⟩ = some (.int .i64 (l.getD i default).kd) ∧ w.cell? ⟨b, off + i * 5 + 1, none⟩ = some (.int .i64 (l.getD i default).ss) ∧ w.cell? ⟨b, off + i * 5 + 2, none⟩ = some (.int .i64 (l.getD i default).sq) ∧ w.cell? ⟨b, off + i * 5 + 3, none⟩ = some (.string (l.getD i default).ky) ∧ w.cell? ⟨b, off + i * 5 + 4, none⟩ = some (.string (l.getD i default).vl))
theorem Css.below {w w' : World} {v : Value} {l : List Cm} (h : Css w v l) (hb : Below w.heap.size w w') : Css w' v l := by
 obtain ⟨a, cap, hv, hn, hm, hc⟩ := h
 refine ⟨a, cap, hv, hn, hm, ?_⟩
 rcases hc with h0 | ⟨b, off, ha, hlt, hc⟩
 ·exact .inl h0
 ·exact .inr ⟨b, off, ha, Nat.lt_of_lt_of_le hlt hb.size, fun i hi => ⟨(hb.cell (p := ⟨b, off + i * 5, none⟩) hlt).trans (hc i hi).1, (hb.cell (p := ⟨b, off + i * 5 + 1, none⟩) hlt).trans (hc i hi).2.1, (hb.cell (p := ⟨b, off + i * 5 + 2, none⟩) hlt).trans (hc i hi).2.2.1, (hb.cell (p := ⟨b, off + i * 5 + 3, none⟩) hlt).trans (hc i hi).2.2.2.1, (hb.cell (p := ⟨b, off + i * 5 + 4, none⟩) hlt).trans (hc i hi).2.2.2.2⟩⟩
theorem csC_app (x y : List Cm) : csC (x ++ y) = csC x ++ csC y := by simp [csC]
theorem csC_get : ∀ (l : List Cm) (i : Nat), i < l.length → (csC l)[i * 5]? = some (.int .i64 (l.getD i default).kd) ∧ (csC l)[i * 5 + 1]? = some (.int .i64 (l.getD i default).ss) ∧ (csC l)[i * 5 + 2]? = some (.int .i64 (l.getD i default).sq) ∧ (csC l)[i * 5 + 3]? = some (.string (l.getD i default).ky) ∧ (csC l)[i * 5 + 4]? = some (.string (l.getD i default).vl)
 | [], i, h => by simp at h
 | f :: r, 0, h => ⟨rfl, rfl, rfl, rfl, rfl⟩
 | f :: r, i + 1, h => by
  have ih := csC_get r i (by simpa using h)
  have e : csC (f :: r) = .int .i64 f.kd :: .int .i64 f.ss :: .int .i64 f.sq :: .string f.ky :: .string f.vl :: csC r := rfl
  rw [e, show (i + 1) * 5 = i * 5 + 1 + 1 + 1 + 1 + 1 by omega, show i * 5 + 1 + 1 + 1 + 1 + 1 + 1 = (i * 5 + 1) + 1 + 1 + 1 + 1 + 1 by omega, show i * 5 + 1 + 1 + 1 + 1 + 1 + 2 = (i * 5 + 2) + 1 + 1 + 1 + 1 + 1 by omega, show i * 5 + 1 + 1 + 1 + 1 + 1 + 3 = (i * 5 + 3) + 1 + 1 + 1 + 1 + 1 by omega, show i * 5 + 1 + 1 + 1 + 1 + 1 + 4 = (i * 5 + 4) + 1 + 1 + 1 + 1 + 1 by omega]
  simp only [List.getElem?_cons_succ, List.getD_cons_succ]
  exact ih
def OwnC (B : Nat) (w : World) (v : Value) (l : List Cm) : Prop := w.ownsRow B 31 5 v l.length (csC l)
theorem OwnC.cells {B : Nat} {w : World} {g cap n : Nat} {l : List Cm} (h : w.ownsRow B 31 5 (.slice (some ⟨g, 0, none⟩) n cap) n (csC l)) (i : Nat) (hi : i < l.length) (hn : n = l.length) :
  w.cell? ⟨g, i * 5, none⟩ = some (.int .i64 (l.getD i default).kd) ∧ w.cell? ⟨g, i * 5 + 1, none⟩ = some (.int .i64 (l.getD i default).ss) ∧ w.cell? ⟨g, i * 5 + 2, none⟩ = some (.int .i64 (l.getD i default).sq) ∧ w.cell? ⟨g, i * 5 + 3, none⟩ = some (.string (l.getD i default).ky) ∧ w.cell? ⟨g, i * 5 + 4, none⟩ = some (.string (l.getD i default).vl) := by
 obtain ⟨e0, e1, e2, e3, e4⟩ := csC_get l i hi
 exact ⟨(h.cellAt _ (by omega)).trans e0, (h.cellAt _ (by omega)).trans e1, (h.cellAt _ (by omega)).trans e2, (h.cellAt _ (by omega)).trans e3, (h.cellAt _ (by omega)).trans e4⟩
theorem OwnC.read {B : Nat} {w : World} {v : Value} {l : List Cm} (h : OwnC B w v l) : Css w v l := by
 rcases h.2 with ⟨rfl, h0⟩ | ⟨g, cap, cur, rfl, hb, hg, hn, hm, _⟩
 ·obtain rfl := List.eq_nil_of_length_eq_zero h0
  exact ⟨none, 0, rfl, Nat.le_refl _, by unfold maxLen; omega, .inl rfl⟩
 ·refine ⟨_, _, rfl, hn, hm, .inr ⟨g, 0, rfl, (Array.getElem?_eq_some_iff.1 hg).1, fun i hi => ?_⟩⟩
  have := OwnC.cells h i hi rfl
  simpa using this
theorem OwnC.kept {T : Nat → Prop} {B : Nat} {w w' : World} {v : Value} {l : List Cm} (h : OwnC B w v l) (ht : Touch T w w') (hn : ∀ k, v.ownBlock = some k → ¬ T k) : OwnC B w' v l := own_kept h ht hn
theorem OwnC.below {B : Nat} {w w' : World} {v : Value} {l : List Cm} (h : OwnC B w v l) (hb : Below w.heap.size w w') : OwnC B w' v l := h.kept (T := fun _ => False) (Touch.ofBelow hb) (fun _ _ h => h)
theorem OwnC.lt {B : Nat} {w : World} {v : Value} {l : List Cm} (h : OwnC B w v l) : ∀ k, v.ownBlock = some k → B ≤ k ∧ k < w.heap.size := World.ownsRow.lt h
theorem OwnC.down {B B' : Nat} {w : World} {v : Value} {l : List Cm} (h : OwnC B w v l) (hB : B' ≤ B) : OwnC B' w v l := by
 obtain ⟨hl, hc⟩ := h
 refine ⟨hl, ?_⟩
 rcases hc with h0 | ⟨g, cap, cur, hv, hg, rest⟩
 ·exact .inl h0
 ·exact .inr ⟨g, cap, cur, hv, by omega, rest⟩
theorem OwnC.nil (B : Nat) (w : World) : OwnC B w (.slice none 0 0) [] := World.ownsRow_nil w B 31 5
theorem infoCm : (Tryz.prog.info? 31).map (fun i => (i.zero, i.size, i.bytes)) = some (some (.agg #[.int .i64 0, .int .i64 0, .int .i64 0, .string ⟨#[]⟩, .string ⟨#[]⟩]), 5, 56) := by kernel_rfl
theorem wrapCm (n : Int) (h0 : 0 ≤ n) (h1 : n < 9223372036854775808) : IntKind.i64.wrap n = n := by
 simp only [IntKind.wrap, IntKind.bits, IntKind.signed]
 simp
 omega
end Go.Proofs.YtlbcdngidfjogaaGreatDoor
namespace Go.Proofs.YtlbcdngidfjogaaGreatDoor.Sha
set_option maxRecDepth 100000
set_option maxHeartbeats 8000000
open Go.RowKit
set_option linter.unusedVariables false
def rotr (x n : Nat) : Nat := x / 2 ^ n ||| x * 2 ^ (32 - n) % 4294967296
theorem rotr_lt {x : Nat} (h : x < 4294967296) (n : Nat) : rotr x n < 4294967296 := by
 unfold rotr
 exact Nat.or_lt_two_pow (n := 32) (Nat.lt_of_le_of_lt (Nat.div_le_self _ _) h) (Nat.mod_lt _ (by omega))
theorem xor_lt {a b : Nat} (h : a < 4294967296) (h2 : b < 4294967296) : a ^^^ b < 4294967296 := Nat.xor_lt_two_pow (n := 32) h h2
theorem or_lt {a b : Nat} (h : a < 4294967296) (h2 : b < 4294967296) : a ||| b < 4294967296 := Nat.or_lt_two_pow (n := 32) h h2
theorem and_lt {a b : Nat} (h : a < 4294967296) : a &&& b < 4294967296 := Nat.lt_of_le_of_lt Nat.and_le_left h
theorem div_lt {a : Nat} (h : a < 4294967296) (n : Nat) : a / n < 4294967296 := Nat.lt_of_le_of_lt (Nat.div_le_self _ _) h

def add (a b : Nat) : Nat := (a + b) % 4294967296
theorem add_lt (a b : Nat) : add a b < 4294967296 := Nat.mod_lt _ (by omega)
theorem add_comm (a b : Nat) : add a b = add b a := by unfold add; rw [Nat.add_comm]
def s0 (x : Nat) : Nat := rotr x 7 ^^^ rotr x 18 ^^^ x / 8
def s1 (x : Nat) : Nat := rotr x 17 ^^^ rotr x 19 ^^^ x / 1024
def bE (x : Nat) : Nat := rotr x 6 ^^^ rotr x 11 ^^^ rotr x 25
def bA (x : Nat) : Nat := rotr x 2 ^^^ rotr x 13 ^^^ rotr x 22
def ch (e f g : Nat) : Nat := e &&& f ||| (4294967295 ^^^ e) &&& g
def maj (a b c : Nat) : Nat := a &&& b ||| a &&& c ||| b &&& c
theorem not_lt {x : Nat} (h : x < 4294967296) : 4294967295 ^^^ x < 4294967296 := xor_lt (by omega) h
theorem ch_xor {e : Nat} (f g : Nat) (h : e < 4294967296) : (e &&& f) ^^^ ((4294967295 ^^^ e) &&& g) = ch e f g := by
 unfold ch
 apply Nat.eq_of_testBit_eq
 intro i
 have hm : Nat.testBit 4294967295 i = decide (i < 32) := Nat.testBit_two_pow_sub_one 32 i
 simp only [Nat.testBit_xor, Nat.testBit_or, Nat.testBit_and, hm]
 by_cases hi : i < 32
 ·simp only [hi, decide_true]
  cases e.testBit i <;> cases f.testBit i <;> cases g.testBit i <;> rfl
 ·have he : e.testBit i = false := Nat.testBit_lt_two_pow (Nat.lt_of_lt_of_le (show e < 2 ^ 32 from h) (Nat.pow_le_pow_right (Nat.zero_lt_succ 1) (show 32 ≤ i by omega)))
  simp only [he, hi, decide_false]
  cases f.testBit i <;> cases g.testBit i <;> rfl
theorem maj_xor (a b c : Nat) : (a &&& b) ^^^ (a &&& c) ^^^ (b &&& c) = maj a b c := by
 unfold maj
 apply Nat.eq_of_testBit_eq
 intro i
 simp only [Nat.testBit_xor, Nat.testBit_or, Nat.testBit_and]
 cases a.testBit i <;> cases b.testBit i <;> cases c.testBit i <;> rfl

theorem wxor {a b : Nat} (h : a < 4294967296) (h2 : b < 4294967296) : bits BinOp.xor IntKind.u32 (a : Int) (b : Int) = ((a ^^^ b : Nat) : Int) := u32_xor_nat a b h h2
theorem wor {a b : Nat} (h : a < 4294967296) (h2 : b < 4294967296) : bits BinOp.or IntKind.u32 (a : Int) (b : Int) = ((a ||| b : Nat) : Int) := u32_or_nat a b h h2
theorem wand {a b : Nat} (h : a < 4294967296) (h2 : b < 4294967296) : bits BinOp.and IntKind.u32 (a : Int) (b : Int) = ((a &&& b : Nat) : Int) := u32_and_nat a b h h2
theorem wnot {a : Nat} (h : a < 4294967296) : bits BinOp.xor IntKind.u32 IntKind.u32.max (a : Int) = ((4294967295 ^^^ a : Nat) : Int) := u32_xor_nat 4294967295 a (by omega) h
theorem wadd (a b : Nat) : ((a : Int) + (b : Int)) % 4294967296 = ((add a b : Nat) : Int) := by unfold add; omega
theorem wrotr {x : Nat} (n : Nat) (h : x < 4294967296) : bits BinOp.or IntKind.u32 ((x : Int) / 2 ^ n) ((x : Int) * 2 ^ (32 - n) % 4294967296) = ((rotr x n : Nat) : Int) := by
 have e1 : (x : Int) / 2 ^ n = ((x / 2 ^ n : Nat) : Int) := by rw [Int.natCast_ediv, Int.natCast_pow]; rfl
 have e2 : (x : Int) * 2 ^ (32 - n) % 4294967296 = ((x * 2 ^ (32 - n) % 4294967296 : Nat) : Int) := by
  rw [Int.natCast_emod, Int.natCast_mul, Int.natCast_pow]; rfl
 rw [e1, e2, wor (div_lt h _) (Nat.mod_lt _ (by omega))]
 rfl
theorem wrotl {x : Nat} (n : Nat) (h : x < 4294967296) : bits BinOp.or IntKind.u32 ((x : Int) * 2 ^ (32 - n) % 4294967296) ((x : Int) / 2 ^ n) = ((rotr x n : Nat) : Int) := by
 have e1 : (x : Int) / 2 ^ n = ((x / 2 ^ n : Nat) : Int) := by rw [Int.natCast_ediv, Int.natCast_pow]; rfl
 have e2 : (x : Int) * 2 ^ (32 - n) % 4294967296 = ((x * 2 ^ (32 - n) % 4294967296 : Nat) : Int) := by
  rw [Int.natCast_emod, Int.natCast_mul, Int.natCast_pow]; rfl
 rw [e1, e2, wor (Nat.mod_lt _ (by omega)) (div_lt h _), Nat.or_comm]
 rfl
theorem wturn (n : Nat) (h1 : 1 ≤ n) (h2 : n ≤ 31) : bits BinOp.and IntKind.u64 (IntKind.u64.wrap (-(n : Int))) 31 = ((32 - n : Nat) : Int) := by
 have e : IntKind.u64.wrap (-(n : Int)) = ((18446744073709551616 - n : Nat) : Int) := by
  simp only [IntKind.wrap, IntKind.bits, IntKind.signed]
  simp; omega
 rw [e, show (31 : Int) = ((31 : Nat) : Int) from rfl, u64_and_nat _ 31 (by omega) (by omega)]
 have : (18446744073709551616 - n) &&& 31 = (18446744073709551616 - n) % 32 := Nat.and_two_pow_sub_one_eq_mod _ 5
 rw [this]; omega
end Go.Proofs.YtlbcdngidfjogaaGreatDoor.Sha
