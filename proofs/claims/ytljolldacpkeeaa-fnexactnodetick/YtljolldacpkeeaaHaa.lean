/- Small laws that the proofs of this seat share: facts kept out of the walk's sight, bytes gathered in a slice of the call's own and read as a text. Slices of bytes: what is told of one that can be read. A writer of bytes in a block of its own: what its cell and its row hold, and what a call on it leaves alone. A block that is known cell by cell. Numbers in their bounds; a struct's box; small laws. Entries of a state: slices of structs of three cells; what is told of one that can be read. What the laws do with disks: szEntry, szEntryS, szState; toEntry, toEntryS, toState; eqEntry, eqEntryS, eqState. A small law on lists. A state that came in, opened. A string's bytes; a string put behind a row of the call's own. Slices of numbers: what can be read, what is one's own. A row of numbers of the call's own, known cell by cell; marks laid into it and found there. laws.toIntS: a copy of a slice of numbers. laws.markIntS, laws.heldIntS, laws.eqIntS. Nodes: what can be read, what is one's own; the laws' szNode, toNode, eqNode; a node that came in, opened. (Written by py/nod.py.) Slices of texts. What a slice that can be read holds, put behind a row of the call's own: elements of any number of cells; the slice may be empty, the row too. slices.Clone of numbers and of entries. (Written by py/cln.py.) impl.copyNode, impl.newActor, walked. (Written by py/nodc.py.) Members: impl.membersFault and spec.l02Members, walked. impl.ReadMembers, walked. Whether an entry is right: impl.entryOK and spec.l02Entry, walked. -/
import Derived.Test.YtljolldacpkeeaaRows
import Derived.WalkKit
import Derived.ProofKit
import Derived.OpenShut
import Derived.ShutString
import Derived.ChangeOld
import Derived.Below
import Derived.Laws.BytesArg
import Derived.Deep.AppendLies
import Derived.WalkSpells
import Derived.Deep.QuietTactic
import Derived.BigQuiet
import Derived.Lib.AppendStr
import Derived.Deep.RegionHeld3
import Derived.Deep.Fields
import Derived.Deep.Slices
import Derived.Maps.AppendAt
import Derived.Deep.Upon
namespace Go.Proofs.Ytljolldacpkeeaa
open Go.ChangeShapes Go.WideShapes Go.ChangeAt Go.RowKit

theorem hide {p : Prop} (h : p) : Hid p := h
theorem unhide {p : Prop} (h : Hid p) : p := h
theorem ret_bool {a b : Bool} (h : a = b) : Ending.returned (.bool a) = .returned (.bool b) := by rw [h]
theorem ret_int {k : IntKind} {a b : Int} (h : a = b) : Ending.returned (.int k a) = .returned (.int k b) := by rw [h]

def bAt (s : ByteArray) (i : Nat) : Int := ((s.data.toList.getD i 0).toNat : Int)
theorem bAt_eq (s : ByteArray) (i : Nat) (h : i < s.size) : (s[i].toNat : Int) = bAt s i := by
  have h' : i < s.data.size := h
  have e : s[i] = s.data[i] := rfl
  unfold bAt; rw [e, List.getD_eq_getElem?_getD, Array.getElem?_toList, Array.getElem?_eq_getElem h']; rfl
theorem bAt_lo (s : ByteArray) (i : Nat) : 0 ≤ bAt s i := by unfold bAt; omega
theorem bAt_hi (s : ByteArray) (i : Nat) : bAt s i ≤ 255 := by
  unfold bAt; have := (s.data.toList.getD i 0).toNat_lt; omega

/-- What lies in a slice of bytes that the call itself made, read as a text. -/
theorem conv_own {P : Program} {w : World} {base : Nat} {v : Value} {n : Nat} {ns : List Int} (src dst e : TypeId)
    (hs : P.underlying src = some (.slice e)) (he : P.underlying e = some (.int .u8)) (hd : P.underlying dst = some .string)
    (h : w.ownsRow base e 1 v n (ns.map (Value.int .u8))) : (convert src dst v).run P w = .ok (.string (strOfNums ns)) w := by
  obtain ⟨hl, ⟨rfl, rfl⟩ | ⟨g, cap, cur, rfl, hb, hg, hn, hc, hz, ht⟩⟩ := h
  · have : ns = [] := by simpa using hl
    subst this
    exact run_convert_bytes_nil w src e hs he 0 0 dst hd
  · have hl' : ns.length = n := by simpa using hl
    have hown : w.ownsRow base e 1 (.slice (some ⟨g, 0, none⟩) n cap) n (ns.map (Value.int .u8)) := ⟨hl, .inr ⟨g, cap, cur, rfl, hb, hg, hn, hc, hz, ht⟩⟩
    refine run_convert_bytes_arg w src e hs he g 0 n cap ns hl' (fun i hi => ?_) dst hd
    rw [Nat.zero_add, hown.cellAt i (by omega)]
    have hi' : i < ns.length := by omega
    simp [List.getD, List.getElem?_eq_getElem hi']
theorem own_block_lt {w : World} {base : Nat} {e : TypeId} {size : Nat} {v : Value} {n : Nat} {xs : List Value} (h : w.ownsRow base e size v n xs) :
    ∀ k, v.ownBlock = some k → base ≤ k ∧ k < w.heap.size := h.lt
end Go.Proofs.Ytljolldacpkeeaa
namespace Go.Proofs.Ytljolldacpkeeaa
open Go.ChangeShapes Go.WideShapes Go.ChangeAt Go.RowKit
set_option linter.unusedVariables false

theorem info5 : (Try.prog.info? 5).map (fun i => (i.zero, i.size, i.bytes)) = some (some (.int .u8 0), 1, 1) := by kernel_rfl
theorem below_drewN {B : Nat} {a w : World} (h : Below B a w) (n : Nat) : Below B a (w.drewN n) := h.trans ⟨rfl, rfl, rfl, Nat.le_refl _, fun _ _ => rfl⟩

/-- The value is a slice that holds the bytes l. -/
def Bytes (w : World) (v : Value) (l : List Int) : Prop :=
  ∃ a cap, v = .slice a l.length cap ∧ l.length ≤ maxLen ∧ (l.length = 0 ∨ ∃ b off, a = some ⟨b, off, none⟩ ∧ b < w.heap.size ∧ ∀ i, i < l.length → w.cell? ⟨b, off + i, none⟩ = some (.int .u8 (l.getD i 0))) ∧ ∀ i, 0 ≤ l.getD i 0 ∧ l.getD i 0 ≤ 255

theorem Bytes.below {w w' : World} {v : Value} {l : List Int} (h : Bytes w v l) (hb : Below w.heap.size w w') : Bytes w' v l := by
  obtain ⟨a, cap, hv, hm, hc, hr⟩ := h
  refine ⟨a, cap, hv, hm, ?_, hr⟩
  rcases hc with h0 | ⟨b, off, ha, hlt, hc⟩
  · exact .inl h0
  · refine .inr ⟨b, off, ha, Nat.lt_of_lt_of_le hlt hb.size, fun i hi => ?_⟩
    rw [hb.cell (p := ⟨b, off + i, none⟩) hlt]
    exact hc i hi

/-- What the walk is told of a slice of integers that came in. -/
def IsRow (k : IntKind) (w : World) (a : Option Addr) (len cap : Nat) (zs : List Int) : Prop :=
  (a = none ∧ len = 0 ∧ cap = 0 ∧ zs = []) ∨
  ∃ x, a = some x ∧ len ≤ cap ∧ cap ≤ maxLen ∧ zs.length = cap ∧ (∀ i, i < zs.length → w.cell? (x.add i) = some (.int k (zs.getD i 0))) ∧ ∀ n ∈ zs, (Lit.int k n).wf = true

theorem bytes_of_row {w : World} {a : Option Addr} {len cap : Nat} {zs : List Int} (h : IsRow .u8 w a len cap zs) : Bytes w (.slice a len cap) (zs.take len) := by
  rcases h with ⟨rfl, rfl, rfl, rfl⟩ | ⟨x, rfl, hl, hm, hz, hcell, hwz⟩
  · exact ⟨none, 0, rfl, by unfold maxLen; simp, .inl rfl, fun i => by simp⟩
  · have hlen : (zs.take len).length = len := by rw [List.length_take]; omega
    have hget : ∀ i, i < len → (zs.take len).getD i 0 = zs.getD i 0 := fun i hi => by
      simp [List.getD_eq_getElem?_getD, hi]
    refine ⟨some x, cap, by rw [hlen], by rw [hlen]; omega, ?_, fun i => ?_⟩
    · by_cases h0 : len = 0
      · exact .inl (by rw [hlen]; exact h0)
      · obtain ⟨b, off, spot⟩ := x
        have hc := hcell 0 (by omega)
        have hspot : spot = none := by simpa [Addr.add] using World.cell?_spot hc
        subst hspot
        have hblk := World.block_lt_of_cell? w _ hc
        have e0 : ∀ i, (⟨b, off, none⟩ : Addr).add i = ⟨b, off + i, none⟩ := fun i => by unfold Addr.add; split <;> simp_all
        rw [e0] at hblk
        refine .inr ⟨b, off, rfl, hblk, fun i hi => ?_⟩
        rw [hlen] at hi
        rw [hget i hi, ← e0, hcell i (by omega)]
    · by_cases hi : i < len
      · rw [hget i hi]
        have hi' : i < zs.length := by omega
        have hm' : zs.getD i 0 ∈ zs := by
          rw [List.getD_eq_getElem?_getD, List.getElem?_eq_getElem hi']; exact List.getElem_mem hi'
        have := hwz _ hm'
        simp [Lit.wf] at this
        exact bounds_u8 (hwz _ hm')
      · have : (zs.take len)[i]? = none := List.getElem?_eq_none (by omega)
        rw [List.getD_eq_getElem?_getD, this]; simp

end Go.Proofs.Ytljolldacpkeeaa
namespace Go.Proofs.Ytljolldacpkeeaa
open Go.ChangeShapes Go.WideShapes Go.ChangeAt Go.RowKit
set_option linter.unusedVariables false

/-- Of the blocks that were there none but those in T is other than it was. -/
structure Touch (T : Nat → Prop) (w w' : World) : Prop where
  os : w'.os = w.os
  tape : w'.tape = w.tape
  output : w'.output = w.output
  size : w.heap.size ≤ w'.heap.size
  block : ∀ k, k < w.heap.size → ¬ T k → w'.heap[k]? = w.heap[k]?
theorem Touch.refl (T : Nat → Prop) (w : World) : Touch T w w := ⟨rfl, rfl, rfl, Nat.le_refl _, fun _ _ _ => rfl⟩
theorem Touch.trans {T T' : Nat → Prop} {a b c : World} (h : Touch T a b) (k : Touch T' b c) (hs : ∀ j, j < a.heap.size → T' j → T j) : Touch T a c :=
  ⟨k.os.trans h.os, k.tape.trans h.tape, k.output.trans h.output, Nat.le_trans h.size k.size, fun j hj hn => (k.block j (Nat.lt_of_lt_of_le hj h.size) (fun ht => hn (hs j hj ht))).trans (h.block j hj hn)⟩
theorem Touch.drew {T : Nat → Prop} {a w : World} (h : Touch T a w) : Touch T a w.drew := ⟨h.os, h.tape, h.output, h.size, h.block⟩
theorem Touch.drewN {T : Nat → Prop} {a w : World} (h : Touch T a w) (n : Nat) : Touch T a (w.drewN n) := h.trans (T' := T) ⟨rfl, rfl, rfl, Nat.le_refl _, fun _ _ _ => rfl⟩ (fun _ _ h => h)
theorem Touch.alloc {T : Nat → Prop} {a w : World} (h : Touch T a w) (o : Obj) : Touch T a (w.alloc o) :=
  h.trans (T' := T) ⟨rfl, rfl, rfl, by simp, fun k hk _ => Below.heap_alloc _ _ _ hk⟩ (fun _ _ h => h)
theorem Touch.setCell {T : Nat → Prop} {a w : World} (h : Touch T a w) (p : Addr) (u : Value) (hp : p.block < a.heap.size → T p.block) : Touch T a (w.setCell p u) :=
  h.trans (T' := fun k => k = p.block) ⟨rfl, rfl, rfl, by simp [World.setCell], fun k _ hn => Below.heap_setCell _ _ _ _ hn⟩ (fun j hj e => by subst e; exact hp hj)
theorem Touch.grown {T : Nat → Prop} {a w w' : World} {row : Option Nat} (h : Touch T a w) (hg : w.grownBy w' row) (hr : ∀ k, row = some k → k < a.heap.size → T k) : Touch T a w' :=
  h.trans (T' := fun k => row = some k) ⟨hg.os, hg.tape, hg.output, hg.size, fun k hk hn => hg.block k hk (fun e => hn e.symm)⟩ (fun j hj e => hr j e hj)
theorem Touch.below {T : Nat → Prop} {B : Nat} {w w' : World} (h : Touch T w w') (hB : B ≤ w.heap.size) (hT : ∀ k, k < B → ¬ T k) : Below B w w' :=
  ⟨h.os, h.tape, h.output, h.size, fun k hk => h.block k (Nat.lt_of_lt_of_le hk hB) (hT k hk)⟩
theorem Touch.cell {T : Nat → Prop} {w w' : World} (h : Touch T w w') {p : Addr} (hp : p.block < w.heap.size) (hn : ¬ T p.block) : w'.cell? p = w.cell? p := World.cell?_of_block (w := w) (h.block p.block hp hn)
theorem Touch.frozen {T : Nat → Prop} {w w' : World} (h : Touch T w w') {p : Addr} (hp : p.block < w.heap.size) (hn : ¬ T p.block) : w'.frozen? p = w.frozen? p := World.frozen?_of_block (w := w) (h.block p.block hp hn)
theorem Touch.ofBelow {T : Nat → Prop} {w w' : World} (h : Below w.heap.size w w') : Touch T w w' := ⟨h.os, h.tape, h.output, h.size, fun k hk _ => h.block k hk⟩

/-- The writer in block b holds the value v, which owns the bytes xs. -/
def Wr (w : World) (b : Nat) (v : Value) (xs : List Int) : Prop :=
  w.cell? ⟨b, 0, none⟩ = some v ∧ w.frozen? ⟨b, 0, none⟩ = false ∧ b < w.heap.size ∧ w.ownsRow (b + 1) 5 1 v xs.length (xs.map (Value.int .u8)) ∧ ∀ i, 0 ≤ xs.getD i 0 ∧ xs.getD i 0 ≤ 255
/-- What a call on the writer may write. -/
def WT (b : Nat) (v : Value) (k : Nat) : Prop := k = b ∨ v.ownBlock = some k
/-- The new value lies where the old one lay, or in a new block. -/
def Lies (v v' : Value) (n : Nat) : Prop := ∀ k, v'.ownBlock = some k → v.ownBlock = some k ∨ n ≤ k
theorem Lies.refl (v : Value) (n : Nat) : Lies v v n := fun _ h => .inl h
theorem Lies.trans {v v' v'' : Value} {n n' : Nat} (h : Lies v v' n) (k : Lies v' v'' n') (hn : n ≤ n') : Lies v v'' n := fun j hj => by
  rcases k j hj with h1 | h1
  · exact h j h1
  · exact .inr (Nat.le_trans hn h1)
theorem Touch.wr {b : Nat} {v v' : Value} {w w' w'' : World} (h : Touch (WT b v) w w') (hl : Lies v v' w.heap.size) (k : Touch (WT b v') w' w'') : Touch (WT b v) w w'' :=
  h.trans k (fun j hj ht => by
    rcases ht with h1 | h1
    · exact .inl h1
    · rcases hl j h1 with h2 | h2
      · exact .inr h2
      · omega)
theorem Wr.lt {w : World} {b : Nat} {v : Value} {xs : List Int} (h : Wr w b v xs) : b < w.heap.size := h.2.2.1
theorem Wr.row {w : World} {b : Nat} {v : Value} {xs : List Int} (h : Wr w b v xs) : ∀ k, v.ownBlock = some k → b < k ∧ k < w.heap.size := fun k hk => by
  have := h.2.2.2.1.lt k hk; omega
theorem Wr.below {w w' : World} {b B : Nat} {v : Value} {xs : List Int} (h : Wr w b v xs) (ht : Touch (WT b v) w w') (hB : B ≤ b) : Below B w w' :=
  ht.below (by have := h.lt; omega) (fun k hk hT => by
    rcases hT with h1 | h1
    · omega
    · have := h.row k h1; omega)
/-- A writer is kept by what touches neither its block nor its row. -/
theorem Wr.kept {w w' : World} {b : Nat} {v : Value} {xs : List Int} {T : Nat → Prop} (h : Wr w b v xs) (ht : Touch T w w') (h1 : ¬ T b) (h2 : ∀ k, v.ownBlock = some k → ¬ T k) : Wr w' b v xs := by
  obtain ⟨c, f, l, o, r⟩ := h
  refine ⟨(ht.cell l h1).trans c, (ht.frozen l h1).trans f, Nat.lt_of_lt_of_le l ht.size, ?_, r⟩
  obtain ⟨hl, hc⟩ := o
  refine ⟨hl, ?_⟩
  rcases hc with hn | ⟨g, cap, cur, rfl, hb, hgg, rest⟩
  · exact .inl hn
  · exact .inr ⟨g, cap, cur, rfl, hb, (ht.block g (Array.getElem?_eq_some_iff.1 hgg).1 (h2 g rfl)).trans hgg, rest⟩
theorem Wr.alloc {w : World} {b : Nat} {v : Value} {xs : List Int} (h : Wr w b v xs) (o : Obj) : Wr (w.alloc o) b v xs :=
  h.kept (T := fun _ => False) ((Touch.refl _ _).alloc o) (fun h => h) (fun _ _ h => h)
theorem Wr.drew {w : World} {b : Nat} {v : Value} {xs : List Int} (h : Wr w b v xs) : Wr w.drew b v xs :=
  h.kept (T := fun _ => False) ((Touch.refl _ _).drew) (fun h => h) (fun _ _ h => h)
theorem Wr.drewN {w : World} {b : Nat} {v : Value} {xs : List Int} (h : Wr w b v xs) (n : Nat) : Wr (w.drewN n) b v xs :=
  h.kept (T := fun _ => False) ((Touch.refl _ _).drewN n) (fun h => h) (fun _ _ h => h)
theorem range_append {xs ys : List Int} (h : ∀ i, 0 ≤ xs.getD i 0 ∧ xs.getD i 0 ≤ 255) (k : ∀ i, 0 ≤ ys.getD i 0 ∧ ys.getD i 0 ≤ 255) : ∀ i, 0 ≤ (xs ++ ys).getD i 0 ∧ (xs ++ ys).getD i 0 ≤ 255 := by
  intro i
  by_cases hi : i < xs.length
  · rw [List.getD_eq_getElem?_getD, List.getElem?_append_left hi, ← List.getD_eq_getElem?_getD]; exact h i
  · rw [List.getD_eq_getElem?_getD, List.getElem?_append_right (by omega), ← List.getD_eq_getElem?_getD]; exact k _

/-- One append on the writer, its store with it: what the law of append leaves is a writer again. -/
theorem Wr.appended {w w1 : World} {b n : Nat} {v v' : Value} {xs ys : List Int} (h : Wr w b v xs) (h1 : w1.ownsRow (b + 1) 5 1 v' n ((xs ++ ys).map (Value.int .u8))) (hg : w.grownBy w1 v.ownBlock)
    (hl : v'.ownBlock = v.ownBlock ∨ v'.ownBlock = some w.heap.size) (hr : ∀ i, 0 ≤ ys.getD i 0 ∧ ys.getD i 0 ≤ 255) :
    Wr (w1.setCell ⟨b, 0, none⟩ v') b v' (xs ++ ys) ∧ Touch (WT b v) w (w1.setCell ⟨b, 0, none⟩ v') ∧ Lies v v' w.heap.size := by
  obtain ⟨c, f, l, o, r⟩ := h
  have hne : some b ≠ v.ownBlock := fun e => by have := (o.lt b e.symm).1; omega
  have hcell : w1.cell? ⟨b, 0, none⟩ = some v := (hg.cell_far ⟨b, 0, none⟩ l hne).trans c
  have hn : n = (xs ++ ys).length := by have := h1.1; simpa using this.symm
  subst hn
  refine ⟨⟨World.cell?_setCell_same _ _ _ hcell, ?_, ?_, ownsRow_setCell_below h1 (by show b < b + 1; omega) _, range_append r hr⟩, ?_, ?_⟩
  · rw [World.frozen?_setCell]; exact (hg.frozen_far ⟨b, 0, none⟩ l hne).trans f
  · have := hg.size; simp; omega
  · exact ((Touch.refl _ _).grown hg (fun k hk _ => .inr hk)).setCell _ _ (fun _ => .inl rfl)
  · intro k hk
    rcases hl with e | e
    · exact .inl (e ▸ hk)
    · right; rw [e] at hk; cases hk; exact Nat.le_refl _

/-- One byte put behind: the block that holds it laid, and a draw, between. -/
theorem Wr.pushed {w w1 : World} {b n gg capg : Nat} {u : Value} {zs : List Int} {x : Int} {o : Obj} (h : Wr w b u zs)
    (h1 : w1.ownsRow (b + 1) 5 1 (.slice (some ⟨gg, 0, none⟩) n capg) n (zs.map (Value.int .u8) ++ [Value.int .u8 x])) (hg : (w.alloc o).drew.grownBy w1 u.ownBlock) (hat : u.ownBlock = some gg ∨ gg = w.heap.size + 1)
    (hx0 : 0 ≤ x) (hx1 : x ≤ 255) :
    Wr (w1.setCell ⟨b, 0, none⟩ (.slice (some ⟨gg, 0, none⟩) n capg)) b (.slice (some ⟨gg, 0, none⟩) n capg) (zs ++ [x]) ∧ Touch (WT b u) w (w1.setCell ⟨b, 0, none⟩ (.slice (some ⟨gg, 0, none⟩) n capg)) ∧ Lies u (.slice (some ⟨gg, 0, none⟩) n capg) w.heap.size := by
  have h2 := ((h.alloc o).drew).appended (ys := [x]) (by simpa using h1) hg (by
    rcases hat with e | e
    · left; rw [e]; rfl
    · right; rw [e]; simp [Value.ownBlock]) (fun i => by
    cases i with
    | zero => simp; omega
    | succ i => simp)
  refine ⟨h2.1, (((Touch.refl (WT b u) w).alloc o).drew).trans h2.2.1 (fun _ _ h => h), fun k hk => ?_⟩
  rcases h2.2.2 k hk with e | e
  · exact .inl e
  · right; simp at e; omega

/-- Where a string's bytes go. -/
theorem str_lies {P : Program} {w w' : World} {base : Nat} {t u ty e : TypeId} {i : TypeInfo} (ht : P.underlying t = some (.slice e)) (hu : P.underlying u = some .string) (hi : P.info? e = some i) (hz : i.zero = some (.int .u8 0))
    (hsize : i.size = 1) (hby : i.bytes = 1) {v v' : Value} {n : Nat} {xs : List Value} (hown : w.ownsRow base e 1 v n xs) {s : ByteArray} (hb : n + s.size ≤ 140737488355328)
    (hr : (Builtin.append_ #[t, u] ty #[v, .string s]).run P w = .ok v' w') (hn : v' = .slice none 0 0 ↔ v = .slice none 0 0 ∧ s.size = 0) : v'.ownBlock = v.ownBlock ∨ v'.ownBlock = some w.heap.size := by
  have hxl : xs.length = n := by simpa using hown.1
  rcases hown.2 with ⟨rfl, rfl⟩ | ⟨g, cap, cur, rfl, hbg, hg, hnc, hcm, hcs, htake⟩
  · by_cases h0 : s.size = 0
    · rw [hn.2 ⟨rfl, h0⟩]; exact .inl rfl
    · have hq := run_append_nil_string (P := P) w t u ty e i (.int .u8 0) ht hu hi hz s (by omega) (by omega) (by rw [hby]; omega)
      rw [hq] at hr
      cases hr
      exact .inr rfl
  · by_cases hroom : n + s.size ≤ cap
    · have hq := Lib.run_append_room_string (P := P) w t u ty e i ht hu hi hsize g n cap cur hg s hroom (by omega)
      rw [hq] at hr
      cases hr
      exact .inl rfl
    · have holds : ∀ j u, xs[j]? = some u → w.cell? ((⟨g, 0, none⟩ : Addr).add j) = some u := hown.cells (g := g) rfl
      have hq := Lib.run_append_grow_string (P := P) w t u ty e i (.int .u8 0) ht hu hi hz ⟨g, 0, none⟩ n cap xs (by rw [hsize]; simpa using hxl) holds s (by omega) (by omega) (by rw [hby]; exact growslice_fits (by omega) (by omega))
      rw [hq] at hr
      cases hr
      exact .inr rfl
/-- The value is a slice of the call's own, from block B on, that holds the bytes l. -/
def OwnB (B : Nat) (w : World) (v : Value) (l : List Int) : Prop := w.ownsRow B 5 1 v l.length (l.map (Value.int .u8)) ∧ ∀ i, 0 ≤ l.getD i 0 ∧ l.getD i 0 ≤ 255
theorem OwnB.nil (B : Nat) (w : World) : OwnB B w (.slice none 0 0) [] := ⟨World.ownsRow_nil w B 5 1, fun i => by simp⟩
theorem OwnB.mono {B B' : Nat} {w : World} {v : Value} {l : List Int} (h : OwnB B w v l) (hB : B' ≤ B) : OwnB B' w v l := by
  obtain ⟨⟨hl, hc⟩, r⟩ := h
  refine ⟨⟨hl, ?_⟩, r⟩
  rcases hc with hn | ⟨g, cap, cur, hv, hb, rest⟩
  · exact .inl hn
  · exact .inr ⟨g, cap, cur, hv, by omega, rest⟩
theorem OwnB.kept {T : Nat → Prop} {B : Nat} {w w' : World} {v : Value} {l : List Int} (h : OwnB B w v l) (ht : Touch T w w') (hn : ∀ k, v.ownBlock = some k → ¬ T k) : OwnB B w' v l := by
  obtain ⟨⟨hl, hc⟩, r⟩ := h
  refine ⟨⟨hl, ?_⟩, r⟩
  rcases hc with h0 | ⟨g, cap, cur, rfl, hb, hgg, rest⟩
  · exact .inl h0
  · exact .inr ⟨g, cap, cur, rfl, hb, (ht.block g (Array.getElem?_eq_some_iff.1 hgg).1 (hn g rfl)).trans hgg, rest⟩
theorem OwnB.below {B : Nat} {w w' : World} {v : Value} {l : List Int} (h : OwnB B w v l) (hb : Below w.heap.size w w') : OwnB B w' v l := h.kept (T := fun _ => False) (Touch.ofBelow hb) (fun _ _ h => h)
theorem OwnB.drewN {B : Nat} {w : World} {v : Value} {l : List Int} (h : OwnB B w v l) (n : Nat) : OwnB B (w.drewN n) v l := h.kept (T := fun _ => False) ((Touch.refl _ _).drewN n) (fun _ _ h => h)
theorem OwnB.lt {B : Nat} {w : World} {v : Value} {l : List Int} (h : OwnB B w v l) : ∀ k, v.ownBlock = some k → B ≤ k ∧ k < w.heap.size := h.1.lt
theorem OwnB.len {B : Nat} {w : World} {v : Value} {l : List Int} (h : OwnB B w v l) : l.length ≤ maxLen := by
  rcases h.1.2 with ⟨_, h0⟩ | ⟨g, cap, cur, _, _, _, hn, hc, _⟩
  · rw [h0]; unfold maxLen; omega
  · omega
/-- The value's shape: nothing at all, or a block's head. -/
theorem OwnB.shape {B : Nat} {w : World} {v : Value} {l : List Int} (h : OwnB B w v l) : (v = .slice none 0 0 ∧ l = []) ∨ ∃ g cap, v = .slice (some ⟨g, 0, none⟩) l.length cap ∧ B ≤ g ∧ g < w.heap.size := by
  rcases h.1.2 with ⟨hv, h0⟩ | ⟨g, cap, cur, hv, hb, hg, _⟩
  · exact .inl ⟨hv, List.eq_nil_of_length_eq_zero h0⟩
  · exact .inr ⟨g, cap, hv, hb, (Array.getElem?_eq_some_iff.1 hg).1⟩
theorem OwnB.cell {B : Nat} {w : World} {g cap n : Nat} {l : List Int} (h : OwnB B w (.slice (some ⟨g, 0, none⟩) n cap) l) (i : Nat) (hi : i < l.length) : w.cell? ⟨g, i, none⟩ = some (.int .u8 (l.getD i 0)) := by
  have hn : n = l.length := by
    rcases h.1.2 with ⟨hv, _⟩ | ⟨g', cap', cur, hv, _⟩
    · cases hv
    · cases hv; rfl
  subst hn
  rw [h.1.cellAt i (by omega)]
  simp [List.getD, hi]
theorem OwnB.bytes {B : Nat} {w : World} {v : Value} {l : List Int} (h : OwnB B w v l) : Bytes w v l := by
  rcases h.shape with ⟨rfl, rfl⟩ | ⟨g, cap, rfl, hb, hlt⟩
  · exact ⟨none, 0, rfl, by unfold maxLen; simp, .inl rfl, fun i => by simp⟩
  · exact ⟨_, _, rfl, h.len, .inr ⟨g, 0, rfl, hlt, fun i hi => by rw [Nat.zero_add]; exact h.cell i hi⟩, h.2⟩
end Go.Proofs.Ytljolldacpkeeaa
namespace Go.Proofs.Ytljolldacpkeeaa
open Go.ChangeShapes Go.WideShapes Go.ChangeAt Go.RowKit
set_option linter.unusedVariables false

def Blk (w : World) (B : Nat) (vs : List Value) : Prop := B < w.heap.size ∧ (∀ i v, vs[i]? = some v → w.cell? ⟨B, i, none⟩ = some v) ∧ ∀ j, w.frozen? ⟨B, j, none⟩ = false
theorem Blk.cell {w : World} {B : Nat} {vs : List Value} (h : Blk w B vs) (i : Nat) {v : Value} (hv : vs[i]? = some v) : w.cell? ⟨B, i, none⟩ = some v := h.2.1 i v hv
theorem Blk.fro {w : World} {B : Nat} {vs : List Value} (h : Blk w B vs) (i : Nat) : w.frozen? ⟨B, i, none⟩ = false := h.2.2 i
theorem Blk.kept {T : Nat → Prop} {w w' : World} {B : Nat} {vs : List Value} (h : Blk w B vs) (ht : Touch T w w') (hn : ¬ T B) : Blk w' B vs :=
  ⟨Nat.lt_of_lt_of_le h.1 ht.size, fun i v hv => (ht.cell (p := ⟨B, i, none⟩) h.1 hn).trans (h.2.1 i v hv), fun j => (ht.frozen (p := ⟨B, j, none⟩) h.1 hn).trans (h.2.2 j)⟩
theorem Blk.below {w w' : World} {B : Nat} {vs : List Value} (h : Blk w B vs) (hb : Below w.heap.size w w') : Blk w' B vs := h.kept (T := fun _ => False) (Touch.ofBelow hb) (fun h => h)
theorem Blk.alloc {w : World} {B : Nat} {vs : List Value} (h : Blk w B vs) (o : Obj) : Blk (w.alloc o) B vs := h.kept (T := fun _ => False) ((Touch.refl _ _).alloc o) (fun h => h)
theorem Blk.drewN {w : World} {B : Nat} {vs : List Value} (h : Blk w B vs) (n : Nat) : Blk (w.drewN n) B vs := h.kept (T := fun _ => False) ((Touch.refl _ _).drewN n) (fun h => h)
theorem Blk.new (w : World) (cs : Array Value) (t : TypeId) (B : Nat) (hB : w.heap.size = B) : Blk (w.alloc (.cells cs t)) B cs.toList := by
  subst hB
  refine ⟨by simp, fun i v hv => ?_, fun j => by simp⟩
  rw [World.cell?_alloc_at _ _ _ _ rfl]
  simpa using hv
theorem Blk.set {w : World} {B : Nat} {vs : List Value} (h : Blk w B vs) (j : Nat) (v : Value) (hj : j < vs.length) : Blk (w.setCell ⟨B, j, none⟩ v) B (vs.set j v) := by
  refine ⟨by simpa using h.1, fun i u hu => ?_, fun i => by rw [World.frozen?_setCell]; exact h.2.2 i⟩
  by_cases e : i = j
  · subst e
    rw [List.getElem?_set_self hj] at hu
    cases hu
    exact World.cell?_setCell_same _ _ _ (h.2.1 i _ (List.getElem?_eq_getElem hj))
  · rw [List.getElem?_set_ne (fun x => e x.symm)] at hu
    rw [World.cell?_setCell_other _ _ _ _ (fun x => e (by simpa using (congrArg Addr.off x).symm))]
    exact h.2.1 i u hu
theorem Blk.other {w : World} {B C : Nat} {vs : List Value} (h : Blk w B vs) (j : Nat) (v : Value) (hne : C ≠ B) : Blk (w.setCell ⟨C, j, none⟩ v) B vs :=
  h.kept (T := fun k => k = C) ((Touch.refl _ _).setCell _ _ (fun _ => rfl)) (fun e => hne e.symm)
end Go.Proofs.Ytljolldacpkeeaa
namespace Go.Proofs.Ytljolldacpkeeaa
open Go.ChangeShapes Go.WideShapes Go.ChangeAt Go.RowKit
set_option linter.unusedVariables false

def inB (n lo hi : Int) : Bool := decide (lo ≤ n) && decide (n ≤ hi)
theorem inB_iff {n lo hi : Int} : inB n lo hi = true ↔ lo ≤ n ∧ n ≤ hi := by simp [inB]
theorem inB_no {n lo hi : Int} (h : inB n lo hi = false) : n < lo ∨ hi < n := by
  simp [inB] at h; omega
theorem within_any (n lo hi : Int) (w : World) :
    Calls Try.prog 26 #[.int .i64 n, .int .i64 lo, .int .i64 hi] w fun e w' => e = .returned (.bool (inB n lo hi)) ∧ w' = w := by
  by_cases h1 : lo ≤ n
  · by_cases h2 : n ≤ hi
    · have H := hide (show inB n lo hi = true from inB_iff.2 ⟨h1, h2⟩)
      go_enter Try.func26, Try.ntmps26
      go_wp2
      go_ret
      exact ⟨ret_bool (unhide H).symm, rfl⟩
    · have H := hide (show inB n lo hi = false by simp [inB]; omega)
      go_enter Try.func26, Try.ntmps26
      go_wp2
      go_ret
      exact ⟨ret_bool (unhide H).symm, rfl⟩
  · have H := hide (show inB n lo hi = false by simp [inB]; omega)
    go_enter Try.func26, Try.ntmps26
    go_wp2
    go_ret
    exact ⟨ret_bool (unhide H).symm, rfl⟩
theorem l01In_any (n lo hi : Int) (w : World) :
    Calls Try.prog 20 #[.int .i64 n, .int .i64 lo, .int .i64 hi] w fun e w' => e = .returned (.bool (inB n lo hi)) ∧ w' = w := by
  by_cases h1 : lo ≤ n
  · by_cases h2 : n ≤ hi
    · have H := hide (show inB n lo hi = true from inB_iff.2 ⟨h1, h2⟩)
      go_enter Try.func20, Try.ntmps20
      go_wp2
      go_ret
      exact ⟨ret_bool (unhide H).symm, rfl⟩
    · have H := hide (show inB n lo hi = false by simp [inB]; omega)
      go_enter Try.func20, Try.ntmps20
      go_wp2
      go_ret
      exact ⟨ret_bool (unhide H).symm, rfl⟩
  · have H := hide (show inB n lo hi = false by simp [inB]; omega)
    go_enter Try.func20, Try.ntmps20
    go_wp2
    go_ret
    exact ⟨ret_bool (unhide H).symm, rfl⟩

theorem five_cell {w wx : World} {B : Nat} {a b c d e : Value} {t : TypeId} (hB : B = w.heap.size) (h : Below (w.heap.size + 1) (w.alloc (.cells #[a, b, c, d, e] t)) wx) :
    wx.cell? ⟨B, 0, none⟩ = some a ∧ wx.cell? ⟨B, 1, none⟩ = some b ∧ wx.cell? ⟨B, 2, none⟩ = some c ∧ wx.cell? ⟨B, 3, none⟩ = some d ∧ wx.cell? ⟨B, 4, none⟩ = some e := by
  subst hB
  refine ⟨?_, ?_, ?_, ?_, ?_⟩
  all_goals
    rw [h.cell (by simp), World.cell?_alloc_at _ _ _ _ rfl]; rfl

def emptyB (s : ByteArray) : Bool := s.toList.isEmpty
theorem emptyB_iff {s : ByteArray} : emptyB s = true ↔ s.size = 0 := by
  unfold emptyB; rw [List.isEmpty_iff, ByteArray.toList_eq]
  constructor
  · intro h; have : s.data.toList.length = 0 := by rw [h]; rfl
    rw [Array.length_toList] at this; exact this
  · intro h; apply List.eq_nil_of_length_eq_zero; rw [Array.length_toList]; exact h
theorem ret_two {a : Value} {x y : Int} (h : x = y) : Ending.returned (.tuple #[a, .int .i64 x]) = .returned (.tuple #[a, .int .i64 y]) := by rw [h]
end Go.Proofs.Ytljolldacpkeeaa
namespace Go.Proofs.Ytljolldacpkeeaa
open Go.ChangeShapes Go.WideShapes Go.ChangeAt Go.RowKit
set_option linter.unusedVariables false

/-- An entry: term, kind, data. -/
structure En where
  t : Int
  k : Int
  d : ByteArray
deriving Inhabited
def enC (f : En) : List Value := [.int .i64 f.t, .int .i64 f.k, .string f.d]
def ensC (l : List En) : List Value := l.flatMap enC
/-- The value is a slice that holds these entries. -/
def Ens (w : World) (v : Value) (l : List En) : Prop :=
  ∃ a cap, v = .slice a l.length cap ∧ l.length ≤ cap ∧ cap ≤ maxLen ∧ (l.length = 0 ∨ ∃ b off, a = some ⟨b, off, none⟩ ∧ b < w.heap.size ∧ ∀ i, i < l.length → w.cell? ⟨b, off + i * 3, none⟩ = some (.int .i64 (l.getD i default).t) ∧ w.cell? ⟨b, off + i * 3 + 1, none⟩ = some (.int .i64 (l.getD i default).k) ∧ w.cell? ⟨b, off + i * 3 + 2, none⟩ = some (.string (l.getD i default).d))
theorem Ens.below {w w' : World} {v : Value} {l : List En} (h : Ens w v l) (hb : Below w.heap.size w w') : Ens w' v l := by
  obtain ⟨a, cap, hv, hn, hm, hc⟩ := h
  refine ⟨a, cap, hv, hn, hm, ?_⟩
  rcases hc with h0 | ⟨b, off, ha, hlt, hc⟩
  · exact .inl h0
  · exact .inr ⟨b, off, ha, Nat.lt_of_lt_of_le hlt hb.size, fun i hi => ⟨(hb.cell (p := ⟨b, off + i * 3, none⟩) hlt).trans (hc i hi).1, (hb.cell (p := ⟨b, off + i * 3 + 1, none⟩) hlt).trans (hc i hi).2.1, (hb.cell (p := ⟨b, off + i * 3 + 2, none⟩) hlt).trans (hc i hi).2.2⟩⟩
end Go.Proofs.Ytljolldacpkeeaa
namespace Go.Proofs.Ytljolldacpkeeaa
open Go.ChangeShapes Go.WideShapes Go.ChangeAt Go.RowKit
set_option linter.unusedVariables false

/-- Bytes of the data of the first k entries. -/
def ewTo (l : List En) : Nat → Int
  | 0 => 0
  | k + 1 => ewTo l k + ((l.getD k default).d.size : Int)
theorem ew_mono (l : List En) (i j : Nat) (h : i ≤ j) : ewTo l i ≤ ewTo l j := by
  induction j with
  | zero => obtain rfl : i = 0 := by omega
            exact Int.le_refl _
  | succ j ih =>
    by_cases e : i = j + 1
    · subst e; exact Int.le_refl _
    · have := ih (by omega)
      show _ ≤ ewTo l j + _
      omega
/-- What the measure of all of it leaves of L, or -1. -/
def eszR (L : Int) (l : List En) : Int := if (l.length : Int) + ewTo l l.length ≤ L then L - (l.length : Int) - ewTo l l.length else -1
def eszF (f : En) (left : Int) : Int := if left - (f.d.size : Int) < 0 then -1 else left - (f.d.size : Int)

set_option maxRecDepth 100000 in
set_option maxHeartbeats 1000000 in
theorem szEntryL_any (f : En) (left : Int) (w : World) (h0 : 0 ≤ left) (h1 : left ≤ 1048576) (hd : f.d.size ≤ maxLen) :
    Calls Try.prog 39 #[.agg #[.int .i64 f.t, .int .i64 f.k, .string f.d], .int .i64 left] w fun e w' => e = .returned (.int .i64 (eszF f left)) ∧ Below w.heap.size w w' := by
  obtain ⟨ft, fk, fd⟩ := f
  dsimp only at hd ⊢
  unfold maxLen at hd
  by_cases q1 : left - (fd.size : Int) < 0
  · have E : Hid (eszF ⟨ft, fk, fd⟩ left = -1) := hide (by unfold eszF; dsimp only; rw [if_pos (by omega)])
    go_enter Try.func39, Try.ntmps39
    go_wp2_with fail
    go_ret
    exact ⟨ret_int (unhide E).symm, (Below.refl _ _).alloc (Nat.le_refl _) _⟩
  · have E : Hid (eszF ⟨ft, fk, fd⟩ left = left - (fd.size : Int)) := hide (by unfold eszF; dsimp only; rw [if_neg (by omega)])
    go_enter Try.func39, Try.ntmps39
    go_wp2_with fail
    go_ret
    exact ⟨ret_int (unhide E).symm, (Below.refl _ _).alloc (Nat.le_refl _) _⟩

set_option maxRecDepth 100000 in
set_option maxHeartbeats 1000000 in
theorem szEntryS_any (L : Int) (hL0 : 0 ≤ L) (hL1 : L ≤ 1048576) (v : Value) (l : List En) (w : World) (h : Ens w v l) (hz : ∀ i, i < l.length → (l.getD i default).d.size ≤ maxLen) :
    Calls Try.prog 17 #[v, .int .i64 L] w fun e w' => e = .returned (.int .i64 (eszR L l)) ∧ Below w.heap.size w w' := by
  obtain ⟨a, cap, rfl, hn, hm, hc⟩ := h
  have HC := hide hc
  have HZ := hide hz
  have hlm : l.length ≤ 9223372036854775807 := by unfold maxLen at hm; omega
  clear hc hz hm hn
  have hw0 := ew_mono l 0 l.length (Nat.zero_le _)
  have hw00 : ewTo l 0 = 0 := rfl
  by_cases hl : L < l.length
  · have E : Hid (eszR L l = -1) := hide (by unfold eszR; rw [if_neg (by omega)])
    have hl2 : L - (l.length : Int) < 0 := by omega
    go_enter Try.func17, Try.ntmps17
    go_wp2_with fail
    go_ret
    exact ⟨ret_int (unhide E).symm, Below.refl _ _⟩
  · have hl2 : ¬ L - (l.length : Int) < 0 := by omega
    go_enter Try.func17, Try.ntmps17
    go_wp2_with fail
    go_loopw [1, 5] (fun lf i wr => ∃ (k : Nat) (x : Int), k ≤ l.length ∧ i = .int .i64 k ∧ lf = .int .i64 x ∧ x = L - (l.length : Int) - ewTo l k ∧ 0 ≤ x ∧ Below w.heap.size w wr) (fun _ i _ => l.length - (intOf i).toNat)
    case atStart => exact ⟨0, _, Nat.zero_le _, rfl, rfl, by rw [hw00]; omega, by omega, Below.refl _ _⟩
    case round =>
      obtain ⟨k, x, hk, rfl, rfl, hx, hx0, hb⟩ := hrel
      by_cases hlt : k < l.length
      · obtain ⟨b, off, rfl, hbl, hsrc⟩ : ∃ b off, a = some ⟨b, off, none⟩ ∧ b < w.heap.size ∧ ∀ i, i < l.length → w.cell? ⟨b, off + i * 3, none⟩ = some (.int .i64 (l.getD i default).t) ∧ w.cell? ⟨b, off + i * 3 + 1, none⟩ = some (.int .i64 (l.getD i default).k) ∧ w.cell? ⟨b, off + i * 3 + 2, none⟩ = some (.string (l.getD i default).d) := by
          rcases unhide HC with h0 | h1
          · omega
          · exact h1
        obtain ⟨s0, s1, s2⟩ := hsrc k hlt
        have c0 := (hb.cell (p := ⟨b, off + k * 3, none⟩) hbl).trans s0
        have c1 := (hb.cell (p := ⟨b, off + k * 3 + 1, none⟩) hbl).trans s1
        have c2 := (hb.cell (p := ⟨b, off + k * 3 + 2, none⟩) hbl).trans s2
        have hk0 : (0 : Int) ≤ (k : Int) := by omega
        have hk1 : (k : Int) < (l.length : Int) := by omega
        have hwk := ew_mono l 0 k (Nat.zero_le _)
        have hwl := ew_mono l (k + 1) l.length (by omega)
        have hws : ewTo l (k + 1) = ewTo l k + ((l.getD k default).d.size : Int) := rfl
        have hz := unhide HZ k hlt
        have hx1 : x ≤ 1048576 := by omega
        have hbs := hb.size
        have HB := hide hb
        clear hsrc s0 s1 s2 hb
        generalize l.getD k default = f at *
        have HSZ := hide (fun wx => szEntryL_any f x wx hx0 hx1 hz)
        have HSF : Hid (eszF f x = if x - (f.d.size : Int) < 0 then -1 else x - (f.d.size : Int)) := rfl
        obtain ⟨r, hr⟩ : ∃ r, r = eszF f x := ⟨_, rfl⟩
        rw [← hr] at HSZ HSF
        have HW := hide (And.intro hwl (And.intro hws hx))
        clear hr hwl hws hx hwk hw0 hw00 hz
        obtain ⟨ft, fk, fd⟩ := f
        dsimp only at c0 c1 c2 HSZ HSF HW
        go_wp2_with fail
        refine (unhide HSZ wr).mono ?_
        rintro e w2 ⟨rfl, hb2⟩
        have HB2 := hide ((unhide HB).trans (hb2.mono hbs))
        clear hb2 HB HSZ
        by_cases hr0 : r < 0
        · have E : Hid (eszR L l = -1) := hide (by
            obtain ⟨h1, h2, h3⟩ := unhide HW
            have h4 := unhide HSF
            unfold eszR; rw [if_neg]
            split at h4 <;> omega)
          go_wp2_with fail
          go_ret
          exact ⟨ret_int (unhide E).symm, unhide HB2⟩
        · go_wp2_with fail
          refine ⟨⟨k + 1, r, by omega, by go_num, rfl, ?_, by omega, unhide HB2⟩, ?_⟩
          · obtain ⟨h1, h2, h3⟩ := unhide HW
            have h4 := unhide HSF
            split at h4 <;> omega
          · simp [intOf]; omega
      · obtain rfl : k = l.length := by omega
        have E : Hid (eszR L l = x) := hide (by unfold eszR; rw [if_pos (by omega)]; omega)
        have R := hide hb
        clear hb hx
        go_wp2_with fail
        go_ret
        exact ⟨ret_int (unhide E).symm, unhide R⟩

set_option maxRecDepth 100000 in
set_option maxHeartbeats 1000000 in
theorem toEntryE_any (f : En) (w : World) :
    Calls Try.prog 46 #[.agg #[.int .i64 f.t, .int .i64 f.k, .string f.d]] w fun e w' => e = .returned (.agg #[.int .i64 f.t, .int .i64 f.k, .string f.d]) ∧ Below w.heap.size w w' := by
  obtain ⟨ft, fk, fd⟩ := f
  dsimp only
  go_enter Try.func46, Try.ntmps46
  go_wp2_with fail
  refine bodyPost_ret (v := .agg #[.int .i64 ft, .int .i64 fk, .string fd]) (by simp [results, Try.results46, go_sem]) rfl ⟨rfl, ?_⟩
  exact (((Below.refl _ _).alloc (Nat.le_refl _) _).alloc (by simp) _).alloc (by simp; omega) _

theorem ensC_len (l : List En) : (ensC l).length = l.length * 3 := by
  induction l with
  | nil => rfl
  | cons f r ih => simp only [ensC, List.flatMap_cons, List.length_append, List.length_cons] at ih ⊢; rw [ih]; simp [enC]; omega
theorem ensC_get : ∀ (l : List En) (i : Nat), i < l.length → (ensC l)[i * 3]? = some (.int .i64 (l.getD i default).t) ∧ (ensC l)[i * 3 + 1]? = some (.int .i64 (l.getD i default).k) ∧ (ensC l)[i * 3 + 2]? = some (.string (l.getD i default).d)
  | [], i, h => by simp at h
  | f :: r, 0, h => ⟨rfl, rfl, rfl⟩
  | f :: r, i + 1, h => by
    have ih := ensC_get r i (by simpa using h)
    have e : ensC (f :: r) = .int .i64 f.t :: .int .i64 f.k :: .string f.d :: ensC r := rfl
    rw [e, show (i + 1) * 3 = i * 3 + 1 + 1 + 1 by omega, show i * 3 + 1 + 1 + 1 + 1 = (i * 3 + 1) + 1 + 1 + 1 by omega, show i * 3 + 1 + 1 + 1 + 2 = (i * 3 + 2) + 1 + 1 + 1 by omega]
    simp only [List.getElem?_cons_succ, List.getD_cons_succ]
    exact ih
theorem ensC_set : ∀ (l : List En) (k : Nat) (f : En), k < l.length → (((ensC l).set (k * 3) (.int .i64 f.t)).set (k * 3 + 1) (.int .i64 f.k)).set (k * 3 + 2) (.string f.d) = ensC (l.set k f)
  | [], k, f, h => by simp at h
  | g :: r, 0, f, h => rfl
  | g :: r, k + 1, f, h => by
    have ih := ensC_set r k f (by simpa using h)
    have e : ∀ (g : En) (r : List En), ensC (g :: r) = .int .i64 g.t :: .int .i64 g.k :: .string g.d :: ensC r := fun _ _ => rfl
    rw [List.set_cons_succ, e, e, ← ih, show (k + 1) * 3 = k * 3 + 1 + 1 + 1 by omega, show k * 3 + 1 + 1 + 1 + 1 = (k * 3 + 1) + 1 + 1 + 1 by omega, show k * 3 + 1 + 1 + 1 + 2 = (k * 3 + 2) + 1 + 1 + 1 by omega]
    simp only [List.set_cons_succ]
theorem World.ownsRow_monoE {w : World} {base base' : Nat} {e : TypeId} {size : Nat} {v : Value} {n : Nat} {xs : List Value} (h : w.ownsRow base e size v n xs) (hb : base' ≤ base) : w.ownsRow base' e size v n xs := by
  obtain ⟨hl, hc⟩ := h
  refine ⟨hl, ?_⟩
  rcases hc with h0 | ⟨g, cap, cur, hv, hg, rest⟩
  · exact .inl h0
  · exact .inr ⟨g, cap, cur, hv, by omega, rest⟩
/-- The value is a slice of the call's own, from block B on, that holds these files. -/
def OwnE (B : Nat) (w : World) (v : Value) (l : List En) : Prop := w.ownsRow B 63 3 v l.length (ensC l)
theorem OwnE.cells {B : Nat} {w : World} {g cap n : Nat} {l : List En} (h : w.ownsRow B 63 3 (.slice (some ⟨g, 0, none⟩) n cap) n (ensC l)) (i : Nat) (hi : i < l.length) (hn : n = l.length) :
    w.cell? ⟨g, i * 3, none⟩ = some (.int .i64 (l.getD i default).t) ∧ w.cell? ⟨g, i * 3 + 1, none⟩ = some (.int .i64 (l.getD i default).k) ∧ w.cell? ⟨g, i * 3 + 2, none⟩ = some (.string (l.getD i default).d) := by
  obtain ⟨e0, e1, e2⟩ := ensC_get l i hi
  exact ⟨(h.cellAt _ (by omega)).trans e0, (h.cellAt _ (by omega)).trans e1, (h.cellAt _ (by omega)).trans e2⟩
theorem OwnE.ens {B : Nat} {w : World} {v : Value} {l : List En} (h : OwnE B w v l) : Ens w v l := by
  rcases h.2 with ⟨rfl, h0⟩ | ⟨g, cap, cur, rfl, hb, hg, hn, hm, _⟩
  · obtain rfl := List.eq_nil_of_length_eq_zero h0
    exact ⟨none, 0, rfl, Nat.le_refl _, by unfold maxLen; omega, .inl rfl⟩
  · refine ⟨_, _, rfl, hn, hm, .inr ⟨g, 0, rfl, (Array.getElem?_eq_some_iff.1 hg).1, fun i hi => ?_⟩⟩
    have := OwnE.cells h i hi rfl
    simpa using this
theorem OwnE.kept {T : Nat → Prop} {B : Nat} {w w' : World} {v : Value} {l : List En} (h : OwnE B w v l) (ht : Touch T w w') (hn : ∀ k, v.ownBlock = some k → ¬ T k) : OwnE B w' v l := by
  obtain ⟨hl, hc⟩ := h
  refine ⟨hl, ?_⟩
  rcases hc with h0 | ⟨g, cap, cur, rfl, hb, hgg, rest⟩
  · exact .inl h0
  · exact .inr ⟨g, cap, cur, rfl, hb, (ht.block g (Array.getElem?_eq_some_iff.1 hgg).1 (hn g rfl)).trans hgg, rest⟩
theorem OwnE.below {B : Nat} {w w' : World} {v : Value} {l : List En} (h : OwnE B w v l) (hb : Below w.heap.size w w') : OwnE B w' v l := h.kept (T := fun _ => False) (Touch.ofBelow hb) (fun _ _ h => h)
theorem OwnE.drewN {B : Nat} {w : World} {v : Value} {l : List En} (h : OwnE B w v l) (n : Nat) : OwnE B (w.drewN n) v l := h.kept (T := fun _ => False) ((Touch.refl _ _).drewN n) (fun _ _ h => h)
theorem infoEn : (Try.prog.info? 63).map (fun i => (i.zero, i.size, i.bytes)) = some (some (.agg #[.int .i64 0, .int .i64 0, .string ⟨#[]⟩]), 3, 32) := by kernel_rfl

def zeroEn : En := ⟨0, 0, ⟨#[]⟩⟩
def fillE (l : List En) (k : Nat) : List En := (List.range l.length).map fun j => if j < k then l.getD j default else zeroEn
theorem fillE_len (l : List En) (k : Nat) : (fillE l k).length = l.length := by simp [fillE]
theorem fillE_all (l : List En) : fillE l l.length = l := by
  apply List.ext_getElem?
  intro j
  by_cases hj : j < l.length
  · simp [fillE, hj, List.getD_eq_getElem?_getD]
  · simp [fillE, hj]
theorem fillE_set (l : List En) (k : Nat) (hk : k < l.length) : (fillE l k).set k (l.getD k default) = fillE l (k + 1) := by
  apply List.ext_getElem?
  intro j
  rw [List.getElem?_set]
  simp only [fillE_len]
  by_cases e : k = j
  · subst e
    rw [if_pos rfl, if_pos hk]
    simp [fillE, hk]
  · rw [if_neg e]
    by_cases hj : j < l.length
    · by_cases h1 : j < k
      · simp [fillE, hj, h1, show j < k + 1 by omega]
      · simp [fillE, hj, h1, show ¬ j < k + 1 by omega]
    · simp [fillE, hj]
theorem made3e (a b c : Value) (n j : Nat) (hj : j < n) : (madeCells #[a, b, c] n).toList[j]? = some (if j % 3 = 0 then a else if j % 3 = 1 then b else c) := by
  have h3 : (#[a, b, c] : Array Value).size = 3 := rfl
  unfold madeCells
  rw [h3, Array.getElem?_toList, Array.getElem?_map]
  have hr : (Array.range n)[j]? = some j := by simp [hj]
  rw [hr, Option.map_some]
  rcases (show j % 3 = 0 ∨ j % 3 = 1 ∨ j % 3 = 2 by omega) with e | e | e
  · rw [e]; rfl
  · rw [e]; rfl
  · rw [e]; rfl
theorem made_en (l : List En) : (madeCells (Value.agg #[.int .i64 0, .int .i64 0, .string ⟨#[]⟩]).cells (l.length * 3)).toList = ensC (fillE l 0) := by
  have hcs : (Value.agg #[.int .i64 0, .int .i64 0, .string ⟨#[]⟩]).cells = #[Value.int .i64 0, .int .i64 0, .string ⟨#[]⟩] := rfl
  rw [hcs]
  apply List.ext_getElem?
  intro j
  by_cases hj : j < l.length * 3
  · have hq : j / 3 < (fillE l 0).length := by rw [fillE_len]; omega
    obtain ⟨g0, g1, g2⟩ := ensC_get (fillE l 0) (j / 3) hq
    have hz : (fillE l 0).getD (j / 3) default = zeroEn := by
      rw [fillE_len] at hq
      rw [List.getD_eq_getElem?_getD]
      simp [fillE, hq]
    rw [hz] at g0 g1 g2
    rw [made3e _ _ _ _ _ hj]
    rcases (show j % 3 = 0 ∨ j % 3 = 1 ∨ j % 3 = 2 by omega) with e | e | e
    · rw [show j / 3 * 3 = j by omega] at g0; rw [g0, e]; rfl
    · rw [show j / 3 * 3 + 1 = j by omega] at g1; rw [g1, e]; rfl
    · rw [show j / 3 * 3 + 2 = j by omega] at g2; rw [g2, e]; rfl
  · have e1 : (madeCells #[Value.int .i64 0, .int .i64 0, .string ⟨#[]⟩] (l.length * 3)).toList[j]? = none := List.getElem?_eq_none (by rw [Array.length_toList, size_madeCells]; omega)
    have e2 : (ensC (fillE l 0))[j]? = none := List.getElem?_eq_none (by rw [ensC_len, fillE_len]; omega)
    rw [e1, e2]

set_option maxRecDepth 100000 in
set_option maxHeartbeats 1000000 in
theorem toEntryS_any (v : Value) (l : List En) (w : World) (h : Ens w v l) (hs : l.length ≤ 1048576) :
    Calls Try.prog 23 #[v] w fun e w' => e = .returned (.slice (some ⟨w.heap.size, 0, none⟩) l.length l.length) ∧ OwnE w.heap.size w' (.slice (some ⟨w.heap.size, 0, none⟩) l.length l.length) l ∧ Below w.heap.size w w' := by
  obtain ⟨i0, hi, hz0, hz1, hz2⟩ := info_parts infoEn
  obtain ⟨a, cap, rfl, hn, hm, hc⟩ := h
  have HC := hide hc
  clear hc hm hn
  go_enter Try.func23, Try.ntmps23
  go_wp2_with (at_make; refine wpList_make_full _ rfl _ _ 27 rfl w.heap.size 63 i0 _ 3 Try.underlying27 hi hz0 hz1 .i64 .i64 _ _ l.length rfl rfl rfl rfl (by rw [hz2]; omega) (by unfold maxLen; omega) (Nat.le_refl _) ?_; intro w1 hown1 hg1)
  rw [made_en] at hown1
  have HZ := hide (And.intro hown1 ((Below.refl w.heap.size w).grown hg1 (Nat.le_refl _) (fun k h => by cases h)))
  clear hown1 hg1
  go_loopw [4] (fun i wr => ∃ k : Nat, k ≤ l.length ∧ i = .int .i64 k ∧ wr.ownsRow w.heap.size 63 3 (.slice (some ⟨w.heap.size, 0, none⟩) l.length l.length) l.length (ensC (fillE l k)) ∧ Below w.heap.size w wr) (fun i _ => l.length - (intOf i).toNat)
  case atStart => exact ⟨0, Nat.zero_le _, rfl, (unhide HZ).1, (unhide HZ).2⟩
  case round =>
    obtain ⟨k, hk, rfl, hL, hbel⟩ := hrel
    by_cases hlt : k < l.length
    · obtain ⟨b, off, rfl, hbl, hsrc⟩ : ∃ b off, a = some ⟨b, off, none⟩ ∧ b < w.heap.size ∧ ∀ i, i < l.length → w.cell? ⟨b, off + i * 3, none⟩ = some (.int .i64 (l.getD i default).t) ∧ w.cell? ⟨b, off + i * 3 + 1, none⟩ = some (.int .i64 (l.getD i default).k) ∧ w.cell? ⟨b, off + i * 3 + 2, none⟩ = some (.string (l.getD i default).d) := by
        rcases unhide HC with h0 | h1
        · omega
        · exact h1
      obtain ⟨s0, s1, s2⟩ := hsrc k hlt
      have c0 := (hbel.cell (p := ⟨b, off + k * 3, none⟩) hbl).trans s0
      have c1 := (hbel.cell (p := ⟨b, off + k * 3 + 1, none⟩) hbl).trans s1
      have c2 := (hbel.cell (p := ⟨b, off + k * 3 + 2, none⟩) hbl).trans s2
      have hk0 : (0 : Int) ≤ (k : Int) := by omega
      have hk1 : (k : Int) < (l.length : Int) := by omega
      have hbs := hbel.size
      have HL := hide hL
      have HB := hide hbel
      clear hsrc s0 s1 s2 hL hbel
      obtain ⟨f, hf⟩ : ∃ f, f = l.getD k default := ⟨_, rfl⟩
      rw [← hf] at c0 c1 c2
      have HFe := hide hf
      clear hf
      have HT := hide (fun wx => toEntryE_any f wx)
      obtain ⟨ft, fk, fd⟩ := f
      dsimp only at c0 c1 c2 HT
      go_wp2_with fail
      refine (unhide HT wr).mono ?_
      rintro e w2 ⟨rfl, hb2⟩
      have hO : w2.ownsRow w.heap.size 63 3 (.slice (some ⟨w.heap.size, 0, none⟩) l.length l.length) l.length (ensC (fillE l k)) := by
        obtain ⟨hl, hc⟩ := unhide HL
        refine ⟨hl, ?_⟩
        rcases hc with h0 | ⟨g, cap, cur, hv, hb, hgg, rest⟩
        · exact .inl h0
        · exact .inr ⟨g, cap, cur, hv, hb, (hb2.block g (Array.getElem?_eq_some_iff.1 hgg).1).trans hgg, rest⟩
      have hB2 := (unhide HB).trans (hb2.mono hbs)
      obtain ⟨d0, d1, d2⟩ := OwnE.cells hO k (by rw [fillE_len]; exact hlt) (fillE_len l k).symm
      have f0 := hO.frozenAt (k * 3)
      have f1 := hO.frozenAt (k * 3 + 1)
      have f2 := hO.frozenAt (k * 3 + 2)
      have q0 := (hO.stored (k * 3) (.int .i64 ft)).1
      have q1 := (q0.stored (k * 3 + 1) (.int .i64 fk)).1
      have q2 := (q1.stored (k * 3 + 2) (.string fd)).1
      have hset : (((ensC (fillE l k)).set (k * 3) (.int .i64 ft)).set (k * 3 + 1) (.int .i64 fk)).set (k * 3 + 2) (.string fd) = ensC (fillE l (k + 1)) := by
        have h1 := ensC_set (fillE l k) k ⟨ft, fk, fd⟩ (by rw [fillE_len]; exact hlt)
        dsimp only at h1
        rw [h1, ← fillE_set l k hlt, ← unhide HFe]
      rw [hset] at q2
      have R := hide (And.intro q2 (((hB2.setCell (p := ⟨w.heap.size, k * 3, none⟩) (Nat.le_refl _) (.int .i64 ft)).setCell (p := ⟨w.heap.size, k * 3 + 1, none⟩) (Nat.le_refl _) (.int .i64 fk)).setCell (p := ⟨w.heap.size, k * 3 + 2, none⟩) (Nat.le_refl _) (.string fd)))
      clear q0 q1 q2 hset hO hB2 hb2 HT HL HB
      go_wp2_with fail
      refine ⟨⟨k + 1, by omega, by go_num, (unhide R).1, (unhide R).2⟩, ?_⟩
      simp [intOf]; omega
    · obtain rfl : k = l.length := by omega
      rw [fillE_all] at hL
      have R := hide (And.intro hL hbel)
      clear hL hbel
      go_wp2_with fail
      go_ret
      exact ⟨rfl, (unhide R).1, (unhide R).2⟩

set_option maxRecDepth 100000 in
set_option maxHeartbeats 1000000 in
theorem eqEntry_any (f : En) (w : World) :
    Calls Try.prog 57 #[.agg #[.int .i64 f.t, .int .i64 f.k, .string f.d], .agg #[.int .i64 f.t, .int .i64 f.k, .string f.d]] w fun e w' => e = .returned (.bool true) ∧ Below w.heap.size w w' := by
  obtain ⟨ft, fk, fd⟩ := f
  dsimp only
  go_enter Try.func57, Try.ntmps57
  go_wp2_with fail
  go_ret
  exact ⟨rfl, ((Below.refl _ _).alloc (Nat.le_refl _) _).alloc (by simp) _⟩

set_option maxRecDepth 100000 in
set_option maxHeartbeats 1000000 in
theorem eqEntryS_any (v v2 : Value) (l : List En) (w : World) (h : Ens w v l) (h2 : Ens w v2 l) (hs : l.length ≤ 1048576) :
    Calls Try.prog 30 #[v, v2] w fun e w' => e = .returned (.bool true) ∧ Below w.heap.size w w' := by
  obtain ⟨a, cap, rfl, hn, hm, hc⟩ := h
  obtain ⟨a2, cap2, rfl, hn2, hm2, hc2⟩ := h2
  have HC := hide hc
  have HC2 := hide hc2
  clear hc hm hc2 hm2 hn hn2
  go_enter Try.func30, Try.ntmps30
  go_wp2_with fail
  go_loopw [5] (fun i wr => ∃ k : Nat, k ≤ l.length ∧ i = .int .i64 k ∧ Below w.heap.size w wr) (fun i _ => l.length - (intOf i).toNat)
  case atStart => exact ⟨0, Nat.zero_le _, rfl, Below.refl _ _⟩
  case round =>
    obtain ⟨k, hk, rfl, hb⟩ := hrel
    by_cases hlt : k < l.length
    · obtain ⟨b, off, rfl, hbl, hsrc⟩ : ∃ b off, a = some ⟨b, off, none⟩ ∧ b < w.heap.size ∧ ∀ i, i < l.length → w.cell? ⟨b, off + i * 3, none⟩ = some (.int .i64 (l.getD i default).t) ∧ w.cell? ⟨b, off + i * 3 + 1, none⟩ = some (.int .i64 (l.getD i default).k) ∧ w.cell? ⟨b, off + i * 3 + 2, none⟩ = some (.string (l.getD i default).d) := by
        rcases unhide HC with h0 | h1
        · omega
        · exact h1
      obtain ⟨b2, off2, rfl, hbl2, hsrc2⟩ : ∃ b off, a2 = some ⟨b, off, none⟩ ∧ b < w.heap.size ∧ ∀ i, i < l.length → w.cell? ⟨b, off + i * 3, none⟩ = some (.int .i64 (l.getD i default).t) ∧ w.cell? ⟨b, off + i * 3 + 1, none⟩ = some (.int .i64 (l.getD i default).k) ∧ w.cell? ⟨b, off + i * 3 + 2, none⟩ = some (.string (l.getD i default).d) := by
        rcases unhide HC2 with h0 | h1
        · omega
        · exact h1
      obtain ⟨s0, s1, s2⟩ := hsrc k hlt
      obtain ⟨t0, t1, t2⟩ := hsrc2 k hlt
      have c0 := (hb.cell (p := ⟨b, off + k * 3, none⟩) hbl).trans s0
      have c1 := (hb.cell (p := ⟨b, off + k * 3 + 1, none⟩) hbl).trans s1
      have c2 := (hb.cell (p := ⟨b, off + k * 3 + 2, none⟩) hbl).trans s2
      have d0 := (hb.cell (p := ⟨b2, off2 + k * 3, none⟩) hbl2).trans t0
      have d1 := (hb.cell (p := ⟨b2, off2 + k * 3 + 1, none⟩) hbl2).trans t1
      have d2 := (hb.cell (p := ⟨b2, off2 + k * 3 + 2, none⟩) hbl2).trans t2
      have hk0 : (0 : Int) ≤ (k : Int) := by omega
      have hk1 : (k : Int) < (l.length : Int) := by omega
      have hbs := hb.size
      have HB := hide hb
      clear hsrc hsrc2 s0 s1 s2 t0 t1 t2 hb
      generalize l.getD k default = f at *
      have HT := hide (fun wx => eqEntry_any f wx)
      obtain ⟨ft, fk, fd⟩ := f
      dsimp only at c0 c1 c2 d0 d1 d2 HT
      go_wp2_with fail
      go_region_held3 (fun wx => wx.cell? ⟨b, off + k * 3, none⟩ = some (.int .i64 ft) ∧ wx.cell? ⟨b, off + k * 3 + 1, none⟩ = some (.int .i64 fk) ∧ wx.cell? ⟨b, off + k * 3 + 2, none⟩ = some (.string fd) ∧ wx.cell? ⟨b2, off2 + k * 3, none⟩ = some (.int .i64 ft) ∧ wx.cell? ⟨b2, off2 + k * 3 + 1, none⟩ = some (.int .i64 fk) ∧ wx.cell? ⟨b2, off2 + k * 3 + 2, none⟩ = some (.string fd))
        (first | go_keep | exact ⟨(hb2.cell (p := ⟨b, off + k * 3, none⟩) (by simp; omega)).trans c0, (hb2.cell (p := ⟨b, off + k * 3 + 1, none⟩) (by simp; omega)).trans c1, (hb2.cell (p := ⟨b, off + k * 3 + 2, none⟩) (by simp; omega)).trans c2, (hb2.cell (p := ⟨b2, off2 + k * 3, none⟩) (by simp; omega)).trans d0, (hb2.cell (p := ⟨b2, off2 + k * 3 + 1, none⟩) (by simp; omega)).trans d1, (hb2.cell (p := ⟨b2, off2 + k * 3 + 2, none⟩) (by simp; omega)).trans d2⟩)
        ((go_at_call 57; refine (unhide HT _).mono ?_; rintro e w2 ⟨rfl, hb2⟩))
      all_goals
        have HBZ := hide ((unhide HB).trans (show Below w.heap.size wr w2 from (below_drewN (Below.refl _ wr) 1).trans (hb2.mono (by simpa using hbs))))
        clear hb2 HB
        go_wp2_with fail
        refine ⟨⟨k + 1, by omega, by go_num, unhide HBZ⟩, ?_⟩
        simp [intOf]; omega
    · have HB := hide hb
      clear hb
      go_wp2_with fail
      go_ret
      exact ⟨rfl, unhide HB⟩

end Go.Proofs.Ytljolldacpkeeaa
namespace Go.Proofs.Ytljolldacpkeeaa
theorem get_some {α : Type} {l : List α} {i n : Nat} (hl : l.length = n) (hi : i < n) : ∃ x, l[i]? = some x := by
  subst hl; exact ⟨l[i], List.getElem?_eq_getElem hi⟩
end Go.Proofs.Ytljolldacpkeeaa
namespace Go.Proofs.Ytljolldacpkeeaa
open Go.ChangeShapes Go.WideShapes Go.ChangeAt Go.RowKit Go.Deep
set_option linter.unusedVariables false

theorem array3s {α : Type} {cs : Array α} (h : cs.size = 3) : ∃ c0 c1 c2, cs = #[c0, c1, c2] := by
  obtain ⟨l⟩ := cs
  match l, h with
  | [c0, c1, c2], _ => exact ⟨c0, c1, c2, rfl⟩
set_option maxRecDepth 100000 in
theorem open_entries {H : Type} {enc : TypeId × Value → H} {W : World} {base : Nat} {sp : Nat → Bool} {held : Bool} {fuel : Nat} {c : Value} {x : DataW H × List MemPlace}
    (h : DataW.trod enc Try.prog W base sp held fuel 22 [c] = some x) :
    ∃ l : List En, Ens W c l ∧ ∀ i, i < l.length → (l.getD i default).d.size ≤ maxLen := by
  have i3 : Try.prog.cellsOf 3 = 1 := by kernel_rfl
  have i9 : Try.prog.cellsOf 9 = 1 := by kernel_rfl
  have iF : Try.prog.cellsOf 66 = 3 := by kernel_rfl
  rcases open_slice Try.underlying22 h with ⟨hc, _⟩ | ⟨a, len, cap, m, n, D, Pl, hc, hb, hl, hm, hmm, _, hx⟩
  · simp only [List.cons.injEq, and_true] at hc
    subst hc
    exact ⟨[], ⟨none, 0, rfl, Nat.le_refl _, by unfold maxLen; omega, .inl rfl⟩, fun i hi => by simp at hi⟩
  · simp only [List.cons.injEq, and_true] at hc
    subst hc
    have hlm : len ≤ m := by rw [hmm]; split <;> omega
    rw [iF] at hx
    have each : ∀ i, i < len → ∃ f : En, W.cell? (a.add (i * 3)) = some (.int .i64 f.t) ∧ W.cell? (a.add (i * 3 + 1)) = some (.int .i64 f.k) ∧ W.cell? (a.add (i * 3 + 2)) = some (.string f.d) ∧ f.d.size ≤ maxLen := by
      intro i hi
      obtain ⟨cs', h1, h2⟩ := hx i (by omega)
      obtain ⟨_, hlen, hcell⟩ := World.cells?_some h1
      obtain ⟨xs, k, hk, hxy, _, hxl, hf⟩ := DataW.trod_struct Try.underlying66 h2
      match cs', hlen with
      | [v0, v1, v2], _ =>
        obtain ⟨y0, e0⟩ := get_some hxl (show 0 < 3 by omega)
        obtain ⟨y1, e1⟩ := get_some hxl (show 1 < 3 by omega)
        obtain ⟨y2, e2⟩ := get_some hxl (show 2 < 3 by omega)
        have g0 : DataW.trod enc Try.prog W base sp held k 3 [v0] = some y0 := by simpa [Value.cells, i3] using (hf 0 _ rfl).trans e0
        have g1 : DataW.trod enc Try.prog W base sp held k 3 [v1] = some y1 := by simpa [Value.cells, i3] using (hf 1 _ rfl).trans e1
        have g2 : DataW.trod enc Try.prog W base sp held k 9 [v2] = some y2 := by simpa [Value.cells, i9] using (hf 2 _ rfl).trans e2
        obtain ⟨a0, f0, _, q0⟩ := DataW.trod_int Try.underlying3 g0
        obtain ⟨a1, f1, _, q1⟩ := DataW.trod_int Try.underlying3 g1
        obtain ⟨a2, f2, _, q2⟩ := DataW.trod_string Try.underlying9 g2
        simp only [List.cons.injEq, and_true] at f0 f1 f2
        subst f0 f1 f2
        have c0 := hcell 0 (by omega)
        have c1 := hcell 1 (by omega)
        have c2 := hcell 2 (by omega)
        rw [add_add] at c0 c1 c2
        exact ⟨⟨a0, a1, a2⟩, by simpa using c0, by simpa using c1, by simpa using c2, q2⟩
    obtain ⟨F, hF⟩ := choose_lt each
    have hlen : ((List.range len).map F).length = len := by simp
    have hget : ∀ i, i < len → ((List.range len).map F).getD i default = F i := fun i hi => by simp [List.getD_eq_getElem?_getD, hi]
    refine ⟨(List.range len).map F, ⟨some a, cap, by rw [hlen], by rw [hlen]; exact hl, hm, ?_⟩, fun i hi => ?_⟩
    · by_cases h0 : len = 0
      · exact .inl (by rw [hlen]; exact h0)
      · obtain ⟨b, off, spot⟩ := a
        have hc := (hF 0 (by omega)).1
        have hspot : spot = none := by simpa [Addr.add] using World.cell?_spot hc
        subst hspot
        have hblk := World.block_lt_of_cell? W _ hc
        have e0 : ∀ i, (⟨b, off, none⟩ : Addr).add i = ⟨b, off + i, none⟩ := fun i => by unfold Addr.add; split <;> simp_all
        rw [e0] at hblk
        refine .inr ⟨b, off, rfl, hblk, fun i hi => ?_⟩
        rw [hlen] at hi
        obtain ⟨k0, k1, k2, _⟩ := hF i hi
        rw [e0] at k0 k1 k2
        rw [hget i hi]
        exact ⟨k0, by rw [Nat.add_assoc]; exact k1, by rw [Nat.add_assoc]; exact k2⟩
    · rw [hlen] at hi
      rw [hget i hi]
      exact (hF i hi).2.2.2
/-- A state that the laws measure is small. -/
theorem esmall_of (L : Int) (hL : L ≤ 1048576) (l : List En) (h : 0 ≤ eszR L l) : l.length ≤ 1048576 ∧ ∀ i, (l.getD i default).d.size ≤ 1048576 := by
  have h1 : (l.length : Int) + ewTo l l.length ≤ L := by
    unfold eszR at h
    split at h
    · assumption
    · omega
  have hw0 := ew_mono l 0 l.length (Nat.zero_le _)
  have hw00 : ewTo l 0 = 0 := rfl
  refine ⟨by omega, fun i => ?_⟩
  by_cases hi : i < l.length
  · have e2 : ewTo l (i + 1) = ewTo l i + ((l.getD i default).d.size : Int) := rfl
    have := ew_mono l (i + 1) l.length (by omega)
    have := ew_mono l 0 i (Nat.zero_le _)
    omega
  · rw [List.getD_eq_getElem?_getD, List.getElem?_eq_none (by omega)]
    have e : (default : En).d.size = 0 := rfl
    simp only [Option.getD_none]
    omega
theorem eszR_cases (L : Int) (l : List En) : eszR L l = -1 ∨ (0 ≤ eszR L l ∧ eszR L l ≤ L) := by
  have hw0 := ew_mono l 0 l.length (Nat.zero_le _)
  have hw00 : ewTo l 0 = 0 := rfl
  unfold eszR; split
  · right; omega
  · left; rfl
end Go.Proofs.Ytljolldacpkeeaa
namespace Go.Proofs.Ytljolldacpkeeaa
open Go.ChangeShapes Go.WideShapes Go.ChangeAt Go.RowKit
set_option linter.unusedVariables false

def bytesI (s : ByteArray) : List Int := s.data.toList.map fun c => (c.toNat : Int)
theorem bytesI_len (s : ByteArray) : (bytesI s).length = s.size := by
  unfold bytesI; rw [List.length_map, Array.length_toList]; rfl
theorem bytesI_range (s : ByteArray) : ∀ i, 0 ≤ (bytesI s).getD i 0 ∧ (bytesI s).getD i 0 ≤ 255 := by
  intro i
  unfold bytesI
  by_cases h : i < s.data.toList.length
  · rw [List.getD_eq_getElem?_getD, List.getElem?_map, List.getElem?_eq_getElem h]
    have := (s.data.toList[i]).toNat_lt
    simp only [Option.map_some, Option.getD_some]; omega
  · rw [List.getD_eq_getElem?_getD, List.getElem?_map, List.getElem?_eq_none (by omega)]; simp
theorem strCells_eq (s : ByteArray) : Lib.strCells s = (bytesI s).map (Value.int .u8) := by
  simp [Lib.strCells, bytesI, Function.comp_def]
/-- A string's bytes put behind a row of the call's own, and where the row then lies. -/
theorem wpList_append_str {P : Program} (w : World) {ops : Array Oper} {rest : List Oper} {o : Oper} {a : Act} {Q : Exit → Act → World → Prop} (hgd : o.guard = none) (sl x : Operand) (t u : TypeId)
    (ho : o.op = .call { callee := .builtin .append, args := #[sl, x], argTypes := #[t, u] })
    (base : Nat) (e : TypeId) (i : TypeInfo) (ht : P.underlying t = some (.slice e)) (hu : P.underlying u = some .string) (hi : P.info? e = some i) (hz : i.zero = some (.int .u8 0)) (hsize : i.size = 1) (hby : i.bytes = 1)
    (v : Value) (n : Nat) (xs : List Value) (hs : a.eval sl = v) (hown : w.ownsRow base e 1 v n xs) (s : ByteArray) (hx : a.eval x = .string s) (hpos : 0 < n + s.size) (hb : n + s.size ≤ 140737488355328) (hbase : base ≤ w.heap.size)
    (h : ∀ g cap w', w'.ownsRow base e 1 (.slice (some ⟨g, 0, none⟩) (n + s.size) cap) (n + s.size) (xs ++ Lib.strCells s) → w.grownBy w' v.ownBlock → (v.ownBlock = some g ∨ g = w.heap.size) → wpList P ops Q rest (a.put o.dst (.slice (some ⟨g, 0, none⟩) (n + s.size) cap)) w') :
    wpList P ops Q (o :: rest) a w := by
  refine wpList_plain hgd fun K hK => ?_
  obtain ⟨v', w', hr, h2, h3, h4⟩ := Lib.run_append_own_string (P := P) w base t u o.type e i ht hu hi hz hsize hby v n xs hown s (by unfold maxLen; omega) hb hbase
  unfold Oper.wp execOp
  simp only [ho, resolve, invoke, builtin, Sem.run_bind, Sem.run_pure, Result.andThen_ok, List.map_toArray, List.map_cons, List.map_nil, hs, hx, hr]
  obtain ⟨g, cap, rfl, _, _⟩ := h2.form hpos
  refine hK _ _ (h g cap w' h2 h3 ?_)
  rcases str_lies ht hu hi hz hsize hby hown hb hr h4 with e | e
  · left; rw [← e]; rfl
  · right; simpa [Value.ownBlock] using e
end Go.Proofs.Ytljolldacpkeeaa
namespace Go.Proofs.Ytljolldacpkeeaa
open Go.ChangeShapes Go.WideShapes Go.ChangeAt Go.RowKit
set_option linter.unusedVariables false

theorem info3 : (Try.prog.info? 3).map (fun i => (i.zero, i.size, i.bytes)) = some (some (.int .i64 0), 1, 8) := by kernel_rfl
/-- The value is a slice that holds the numbers l. -/
def Ints (w : World) (v : Value) (l : List Int) : Prop :=
  ∃ a cap, v = .slice a l.length cap ∧ l.length ≤ maxLen ∧ (l.length = 0 ∨ ∃ b off, a = some ⟨b, off, none⟩ ∧ b < w.heap.size ∧ ∀ i, i < l.length → w.cell? ⟨b, off + i, none⟩ = some (.int .i64 (l.getD i 0)))
theorem Ints.kept {T : Nat → Prop} {w w' : World} {v : Value} {l : List Int} (h : Ints w v l) (ht : Touch T w w') (hn : ∀ k, v.ownBlock = some k → ¬ T k) : Ints w' v l := by
  obtain ⟨a, cap, rfl, hm, hc⟩ := h
  refine ⟨a, cap, rfl, hm, ?_⟩
  rcases hc with h0 | ⟨b, off, rfl, hlt, hcell⟩
  · exact .inl h0
  · exact .inr ⟨b, off, rfl, Nat.lt_of_lt_of_le hlt ht.size, fun i hi => (ht.cell (p := ⟨b, off + i, none⟩) hlt (hn b rfl)).trans (hcell i hi)⟩
theorem Ints.below {w w' : World} {v : Value} {l : List Int} (h : Ints w v l) (hb : Below w.heap.size w w') : Ints w' v l := h.kept (T := fun _ => False) (Touch.ofBelow hb) (fun _ _ h => h)

theorem drewN_two (w : World) (n m : Nat) : (w.drewN n).drewN m = w.drewN (n + m) := by simp [World.drewN, Nat.add_assoc]
def OwnI (B : Nat) (w : World) (v : Value) (l : List Int) : Prop := w.ownsRow B 3 1 v l.length (l.map (Value.int .i64))
theorem OwnI.mono {B B' : Nat} {w : World} {v : Value} {l : List Int} (h : OwnI B w v l) (hB : B' ≤ B) : OwnI B' w v l := by
  obtain ⟨hl, hc⟩ := h
  refine ⟨hl, ?_⟩
  rcases hc with hn | ⟨g, cap, cur, hv, hb, rest⟩
  · exact .inl hn
  · exact .inr ⟨g, cap, cur, hv, by omega, rest⟩
theorem OwnI.empty (w : World) (B X : Nat) (hX : w.heap.size = X) (hB : B ≤ X) : OwnI B (w.alloc (.cells #[] 3)) (.slice (some ⟨X, 0, none⟩) 0 0) [] := by
  subst hX
  exact World.ownsRow_made w #[] 0 hB (by unfold maxLen; omega) rfl
theorem ret_two_b {a : Value} {x y : Bool} (h : x = y) : Ending.returned (.tuple #[a, .bool x]) = .returned (.tuple #[a, .bool y]) := by rw [h]
theorem bytesI_bAt (s : ByteArray) (k : Nat) : (bytesI s).getD k 0 = bAt s k := by
  unfold bytesI bAt
  by_cases h : k < s.data.toList.length
  · rw [List.getD_eq_getElem?_getD, List.getElem?_map, List.getElem?_eq_getElem h, List.getD_eq_getElem?_getD, List.getElem?_eq_getElem h]; rfl
  · rw [List.getD_eq_getElem?_getD, List.getElem?_map, List.getElem?_eq_none (by omega), List.getD_eq_getElem?_getD, List.getElem?_eq_none (by omega)]; rfl
theorem bytesI_take (s : ByteArray) (k : Nat) (h : k < s.size) : (bytesI s).take (k + 1) = (bytesI s).take k ++ [bAt s k] := by
  have hl : k < (bytesI s).length := by rw [bytesI_len]; exact h
  rw [List.take_succ_eq_append_getElem hl]
  congr 1
  rw [← bytesI_bAt, List.getD_eq_getElem?_getD, List.getElem?_eq_getElem hl]; rfl

end Go.Proofs.Ytljolldacpkeeaa
namespace Go.Proofs.Ytljolldacpkeeaa
open Go.ChangeShapes Go.WideShapes Go.ChangeAt Go.RowKit
set_option linter.unusedVariables false

def LaidI (w : World) (g cap : Nat) (f : Nat → Int) (n : Nat) : Prop := ∃ cur : Array Value, w.heap[g]? = some (.cells cur 3 (0, 0)) ∧ cur.size = cap ∧ n ≤ cap ∧ ∀ j, j < n → cur[j]? = some (.int .i64 (f j))
theorem LaidI.set {w : World} {g cap n : Nat} {f f' : Nat → Int} (h : LaidI w g cap f n) (k : Nat) (x : Int) (hk : k < n) (hf : f' k = x) (ho : ∀ j, j ≠ k → f' j = f j) : LaidI (w.setCell ⟨g, k, none⟩ (.int .i64 x)) g cap f' n := by
  obtain ⟨cur, hg, hs, hn, hc⟩ := h
  refine ⟨cur.setIfInBounds k (.int .i64 x), ?_, by simpa using hs, hn, fun j hj => ?_⟩
  · have hlt := (Array.getElem?_eq_some_iff.1 hg).1
    simp only [World.setCell, Array.getElem?_modify]
    simp [hg]
  · by_cases e : j = k
    · subst e; rw [Array.getElem?_setIfInBounds_self_of_lt (by omega), hf]
    · rw [Array.getElem?_setIfInBounds_ne (by omega), hc j hj, ho j e]
theorem LaidI.cell {w : World} {g cap n : Nat} {f : Nat → Int} (h : LaidI w g cap f n) (j : Nat) (hj : j < n) : w.cell? ⟨g, j, none⟩ = some (.int .i64 (f j)) ∧ w.frozen? ⟨g, j, none⟩ = false := by
  obtain ⟨cur, hg, hs, hn, hc⟩ := h
  refine ⟨?_, by simp [World.frozen?, hg]⟩
  rw [cell_of_row w g j cur 3 (0, 0) hg]
  exact hc j hj
theorem LaidI.own {B : Nat} {w : World} {g cap : Nat} {f : Nat → Int} {l : List Int} (h : LaidI w g cap f l.length) (hf : ∀ j, j < l.length → f j = l.getD j 0) (hB : B ≤ g) (hm : cap ≤ maxLen) : OwnI B w (.slice (some ⟨g, 0, none⟩) l.length cap) l := by
  obtain ⟨cur, hg, hs, hn, hc⟩ := h
  refine ⟨by simp, .inr ⟨g, cap, cur, rfl, hB, hg, hn, hm, by simpa using hs, ?_⟩⟩
  apply List.ext_getElem?
  intro j
  rw [Nat.mul_one, List.getElem?_take, Array.getElem?_toList, List.getElem?_map]
  by_cases hj : j < l.length
  · rw [if_pos hj, hc j hj, hf j hj, List.getD_eq_getElem?_getD, List.getElem?_eq_getElem hj]; rfl
  · rw [if_neg hj, List.getElem?_eq_none (by omega)]; rfl
theorem LaidI.of {B : Nat} {w : World} {g cap n : Nat} {l : List Int} (h : OwnI B w (.slice (some ⟨g, 0, none⟩) n cap) l) : LaidI w g cap (fun j => l.getD j 0) l.length ∧ cap ≤ maxLen ∧ B ≤ g ∧ n = l.length ∧ g < w.heap.size := by
  obtain ⟨hl, hc⟩ := h
  rcases hc with ⟨hv, _⟩ | ⟨g', cap', cur, hv, hb, hg, hn, hm, hs, ht⟩
  · cases hv
  · cases hv
    refine ⟨⟨cur, hg, by simpa using hs, hn, fun j hj => ?_⟩, hm, hb, rfl, (Array.getElem?_eq_some_iff.1 hg).1⟩
    have e := congrArg (fun z : List Value => z[j]?) ht
    simp only [Nat.mul_one, List.getElem?_take, if_pos hj, Array.getElem?_toList, List.getElem?_map] at e
    rw [e, List.getElem?_eq_getElem hj]
    show _ = some (Value.int .i64 (l.getD j 0))
    rw [List.getD_eq_getElem?_getD, List.getElem?_eq_getElem hj]; rfl
theorem OwnI.shape {B : Nat} {w : World} {v : Value} {l : List Int} (h : OwnI B w v l) : (v = .slice none 0 0 ∧ l = []) ∨ ∃ g cap, v = .slice (some ⟨g, 0, none⟩) l.length cap := by
  rcases h.2 with ⟨hv, h0⟩ | ⟨g, cap, cur, hv, _⟩
  · exact .inl ⟨hv, List.eq_nil_of_length_eq_zero h0⟩
  · exact .inr ⟨g, cap, hv⟩
theorem OwnI.lt {B : Nat} {w : World} {v : Value} {l : List Int} (h : OwnI B w v l) : ∀ k, v.ownBlock = some k → B ≤ k ∧ k < w.heap.size := World.ownsRow.lt h
theorem OwnI.kept {T : Nat → Prop} {B : Nat} {w w' : World} {v : Value} {l : List Int} (h : OwnI B w v l) (ht : Touch T w w') (hn : ∀ k, v.ownBlock = some k → ¬ T k) : OwnI B w' v l := by
  obtain ⟨hl, hc⟩ := h
  refine ⟨hl, ?_⟩
  rcases hc with h0 | ⟨g, cap, cur, rfl, hb, hgg, rest⟩
  · exact .inl h0
  · exact .inr ⟨g, cap, cur, rfl, hb, (ht.block g (Array.getElem?_eq_some_iff.1 hgg).1 (hn g rfl)).trans hgg, rest⟩
theorem OwnI.below {B : Nat} {w w' : World} {v : Value} {l : List Int} (h : OwnI B w v l) (hb : Below w.heap.size w w') : OwnI B w' v l := h.kept (T := fun _ => False) (Touch.ofBelow hb) (fun _ _ h => h)
theorem OwnI.drewN {B : Nat} {w : World} {v : Value} {l : List Int} (h : OwnI B w v l) (n : Nat) : OwnI B (w.drewN n) v l := h.kept (T := fun _ => False) ((Touch.refl _ _).drewN n) (fun _ _ h => h)
theorem OwnI.ints {B : Nat} {w : World} {v : Value} {l : List Int} (h : OwnI B w v l) : Ints w v l := by
  rcases h.shape with ⟨rfl, rfl⟩ | ⟨g, cap, rfl⟩
  · exact ⟨none, 0, rfl, by unfold maxLen; simp, .inl rfl⟩
  · obtain ⟨hL, hm, hB, _, hlt⟩ := LaidI.of h
    have hn : l.length ≤ cap := by obtain ⟨_, _, _, hn, _⟩ := hL; exact hn
    exact ⟨_, _, rfl, by omega, .inr ⟨g, 0, rfl, hlt, fun i hi => by rw [Nat.zero_add]; exact (hL.cell i hi).1⟩⟩
end Go.Proofs.Ytljolldacpkeeaa
namespace Go.Proofs.Ytljolldacpkeeaa
open Go.ChangeShapes Go.WideShapes Go.ChangeAt Go.RowKit
set_option linter.unusedVariables false

theorem ints_of_row {w : World} {a : Option Addr} {len cap : Nat} {zs : List Int} (h : IsRow .i64 w a len cap zs) : Ints w (.slice a len cap) (zs.take len) := by
  rcases h with ⟨rfl, rfl, rfl, rfl⟩ | ⟨x, rfl, hl, hm, hz, hcell, hwz⟩
  · exact ⟨none, 0, rfl, by unfold maxLen; simp, .inl rfl⟩
  · have hlen : (zs.take len).length = len := by rw [List.length_take]; omega
    have hget : ∀ i, i < len → (zs.take len).getD i 0 = zs.getD i 0 := fun i hi => by
      simp [List.getD_eq_getElem?_getD, hi]
    refine ⟨some x, cap, by rw [hlen], by rw [hlen]; omega, ?_⟩
    by_cases h0 : len = 0
    · exact .inl (by rw [hlen]; exact h0)
    · obtain ⟨b, off, spot⟩ := x
      have hc := hcell 0 (by omega)
      have hspot : spot = none := by simpa [Addr.add] using World.cell?_spot hc
      subst hspot
      have hblk := World.block_lt_of_cell? w _ hc
      have e0 : ∀ i, (⟨b, off, none⟩ : Addr).add i = ⟨b, off + i, none⟩ := fun i => by unfold Addr.add; split <;> simp_all
      rw [e0] at hblk
      refine .inr ⟨b, off, rfl, hblk, fun i hi => ?_⟩
      rw [hlen] at hi
      rw [hget i hi, ← e0, hcell i (by omega)]
def copyF (l : List Int) (k j : Nat) : Int := if j < k then l.getD j 0 else 0
set_option maxRecDepth 100000 in
set_option maxHeartbeats 1000000 in
theorem toIntS_at (v : Value) (l : List Int) (w : World) (h : Ints w v l) (hs : l.length ≤ 1048576) :
    Calls Try.prog 24 #[v] w fun e w' => e = .returned (.slice (some ⟨w.heap.size, 0, none⟩) l.length l.length) ∧ OwnI w.heap.size w' (.slice (some ⟨w.heap.size, 0, none⟩) l.length l.length) l ∧ Below w.heap.size w w' := by
  obtain ⟨i0, hi, hz0, hz1, hz2⟩ := info_parts info3
  obtain ⟨a, cap, rfl, hm, hc⟩ := h
  have HC := hide hc
  clear hc hm
  go_enter Try.func24, Try.ntmps24
  go_wp2_with (at_make; refine wpList_make_full _ rfl _ _ 23 rfl w.heap.size 3 i0 _ 1 Try.underlying23 hi hz0 hz1 .i64 .i64 _ _ l.length rfl rfl rfl rfl (by rw [hz2]; omega) (by unfold maxLen; omega) (Nat.le_refl _) ?_; intro w1 hown1 hg1)
  have hz : LaidI w1 w.heap.size l.length (copyF l 0) l.length := by
    obtain ⟨hl1, hc1⟩ := hown1
    rcases hc1 with ⟨hv, _⟩ | ⟨g', cap', cur, hv, hb, hg, hn, hm, hs1, ht⟩
    · cases hv
    · cases hv
      refine ⟨cur, hg, by simpa using hs1, hn, fun j hj => ?_⟩
      have e := congrArg (fun z : List Value => z[j]?) ht
      have e3 : (Value.int IntKind.i64 0).cells = #[Value.int IntKind.i64 0] := rfl
      rw [e3, Nat.mul_one, toList_madeCells_one] at e
      simp only [List.getElem?_take, if_pos hj, Array.getElem?_toList] at e
      rw [e]; simp [hj, copyF]
  have HZ := hide (And.intro hz ((Below.refl w.heap.size w).grown hg1 (Nat.le_refl _) (fun k h => by cases h)))
  clear hown1 hg1 hz
  go_loopw [4] (fun i wr => ∃ k : Nat, k ≤ l.length ∧ i = .int .i64 k ∧ LaidI wr w.heap.size l.length (copyF l k) l.length ∧ Below w.heap.size w wr) (fun i _ => l.length - (intOf i).toNat)
  case atStart => exact ⟨0, Nat.zero_le _, rfl, (unhide HZ).1, (unhide HZ).2⟩
  case round =>
    obtain ⟨k, hk, rfl, hL, hbel⟩ := hrel
    by_cases hlt : k < l.length
    · obtain ⟨b, off, rfl, hbl, hsrc⟩ : ∃ b off, a = some ⟨b, off, none⟩ ∧ b < w.heap.size ∧ ∀ i, i < l.length → w.cell? ⟨b, off + i, none⟩ = some (.int .i64 (l.getD i 0)) := by
        rcases unhide HC with h0 | h1
        · omega
        · exact h1
      have hs1 : wr.cell? ⟨b, off + k, none⟩ = some (.int .i64 (l.getD k 0)) := (hbel.cell (p := ⟨b, off + k, none⟩) hbl).trans (hsrc k hlt)
      have hk0 : (0 : Int) ≤ (k : Int) := by omega
      have hk1 : (k : Int) < (l.length : Int) := by omega
      obtain ⟨d1, d2⟩ := hL.cell k hlt
      have R := hide (And.intro (hL.set (f' := copyF l (k + 1)) k (l.getD k 0) hlt (by unfold copyF; rw [if_pos (by omega)]) (fun j hj => by
        unfold copyF
        by_cases h1 : j < k
        · rw [if_pos h1, if_pos (by omega)]
        · rw [if_neg h1, if_neg (by omega)])) (hbel.setCell (p := ⟨w.heap.size, k, none⟩) (Nat.le_refl _) (.int .i64 (l.getD k 0))))
      clear hL hbel hsrc
      generalize l.getD k 0 = x at *
      go_wp2_with fail
      refine ⟨⟨k + 1, by omega, by go_num, (unhide R).1, (unhide R).2⟩, ?_⟩
      simp [intOf]; omega
    · obtain rfl : k = l.length := by omega
      have R := hide (And.intro (LaidI.own (B := w.heap.size) hL (fun j hj => by unfold copyF; rw [if_pos hj]) (Nat.le_refl _) (by unfold maxLen; omega)) hbel)
      clear hL hbel
      go_wp2_with fail
      go_ret
      exact ⟨rfl, (unhide R).1, (unhide R).2⟩
theorem toIntS_any (v : Value) (l : List Int) (w : World) (h : Ints w v l) (hs : l.length ≤ 1048576) :
    Calls Try.prog 24 #[v] w fun e w' => ∃ v', e = .returned v' ∧ OwnI w.heap.size w' v' l ∧ Below w.heap.size w w' :=
  (toIntS_at v l w h hs).mono fun e w' ⟨h1, h2, h3⟩ => ⟨_, h1, h2, h3⟩
end Go.Proofs.Ytljolldacpkeeaa
namespace Go.Proofs.Ytljolldacpkeeaa
open Go.ChangeShapes Go.WideShapes Go.ChangeAt Go.RowKit
set_option linter.unusedVariables false

def marksI (n : Nat) : List Int := (List.range n).map fun j => ((1 + j : Nat) : Int)
theorem marksI_len (n : Nat) : (marksI n).length = n := by simp [marksI]
theorem marksI_get (n j : Nat) (h : j < n) : (marksI n).getD j 0 = 1 + (j : Int) := by simp [marksI, List.getD_eq_getElem?_getD, h]
def markF (l : List Int) (k j : Nat) : Int := if j < k then 1 + (j : Int) else l.getD j 0

set_option maxRecDepth 100000 in
set_option maxHeartbeats 1000000 in
theorem markIntS_any (B : Nat) (v : Value) (l : List Int) (w : World) (h : OwnI B w v l) (hl : l.length ≤ 1048576) :
    Calls Try.prog 34 #[v, .int .i64 1] w fun e w' => e = .returned (.int .i64 (1 + (l.length : Int))) ∧ OwnI B w' v (marksI l.length) ∧ Touch (fun k => v.ownBlock = some k) w w' := by
  rcases h.shape with ⟨rfl, rfl⟩ | ⟨g, cap, rfl⟩
  · have H := hide h
    clear h
    go_enter Try.func34, Try.ntmps34
    go_wp2_with fail
    go_loopw [1, 5] (fun k i wr => k = .int .i64 1 ∧ i = .int .i64 0 ∧ wr = w) (fun _ _ _ => 0)
    case atStart => exact ⟨rfl, rfl, rfl⟩
    case round =>
      obtain ⟨rfl, rfl, rfl⟩ := hrel
      go_wp2_with fail
      go_ret
      exact ⟨rfl, unhide H, Touch.refl _ _⟩
  · obtain ⟨hL0, hm, hB, _, hlt0⟩ := LaidI.of h
    have HL := hide hL0
    have HM := hide hm
    clear h hL0 hm
    go_enter Try.func34, Try.ntmps34
    go_wp2_with fail
    go_loopw [1, 5] (fun k i wr => ∃ j : Nat, j ≤ l.length ∧ k = .int .i64 (1 + (j : Int)) ∧ i = .int .i64 j ∧ LaidI wr g cap (markF l j) l.length ∧ Touch (fun k => k = g) w wr) (fun _ i _ => l.length - (intOf i).toNat)
    case atStart => exact ⟨0, Nat.zero_le _, rfl, rfl, by
      obtain ⟨cur, q1, q2, q3, q4⟩ := unhide HL
      exact ⟨cur, q1, q2, q3, fun j hj => by rw [q4 j hj]; unfold markF; rw [if_neg (by omega)]⟩, Touch.refl _ _⟩
    case round =>
      obtain ⟨j, hj, rfl, rfl, hL, hT⟩ := hrel
      by_cases hlt2 : j < l.length
      · obtain ⟨c1, f1⟩ := hL.cell j hlt2
        have R := hide (And.intro (hL.set (f' := markF l (j + 1)) j (1 + (j : Int)) hlt2 (by unfold markF; rw [if_pos (by omega)]) (fun i hi => by
          unfold markF
          by_cases h1 : i < j
          · rw [if_pos h1, if_pos (by omega)]
          · rw [if_neg h1, if_neg (by omega)])) (hT.setCell ⟨g, j, none⟩ (.int .i64 (1 + (j : Int))) (fun _ => rfl)))
        have p0 : (0 : Int) ≤ (j : Int) := by omega
        have p1 : (j : Int) < (l.length : Int) := by omega
        clear hL hT
        go_wp2_with fail
        refine ⟨⟨j + 1, by omega, by go_num, by go_num, (unhide R).1, (unhide R).2⟩, ?_⟩
        simp [intOf]; omega
      · obtain rfl : j = l.length := by omega
        have R := hide (And.intro hL hT)
        clear hL hT
        go_wp2_with fail
        go_ret
        refine ⟨rfl, ?_, ?_⟩
        · have hh := LaidI.own (B := B) (l := marksI l.length) (f := markF l l.length) (w := _) (g := g) (cap := cap) (by rw [marksI_len]; exact (unhide R).1) (fun j hj => by rw [marksI_len] at hj; rw [marksI_get _ _ hj]; unfold markF; rw [if_pos hj]) hB (unhide HM)
          rw [marksI_len] at hh; exact hh
        · exact (Touch.refl (fun k => (Value.slice (some ⟨g, 0, none⟩) l.length cap).ownBlock = some k) w).trans (unhide R).2 (fun k _ e => by subst e; rfl)

set_option maxRecDepth 100000 in
set_option maxHeartbeats 1000000 in
theorem heldIntS_any (B : Nat) (v : Value) (n : Nat) (w : World) (h : OwnI B w v (marksI n)) (hn : n ≤ 1048576) :
    Calls Try.prog 36 #[v, .int .i64 1] w fun e w' => e = .returned (.int .i64 (1 + (n : Int))) ∧ w' = w := by
  rcases h.shape with ⟨rfl, h0⟩ | ⟨g, cap, rfl⟩
  · have hn0 : n = 0 := by have := congrArg List.length h0; rw [marksI_len] at this; simpa using this
    subst hn0
    clear h h0
    go_enter Try.func36, Try.ntmps36
    go_wp2_with fail
    go_loop [1, 5] (fun k i => k = .int .i64 1 ∧ i = .int .i64 0) (fun _ _ => 0)
    case atStart => exact ⟨rfl, rfl⟩
    case round =>
      obtain ⟨rfl, rfl⟩ := hrel
      go_wp2_with fail
      go_ret
      exact ⟨rfl, rfl⟩
  · obtain ⟨hL0, _, _, _, _⟩ := LaidI.of h
    have HC := hide (fun j hj => (hL0.cell j hj).1)
    have hml := marksI_len n
    clear h hL0
    go_enter Try.func36, Try.ntmps36
    go_wp2_with fail
    go_loop [1, 5] (fun k i => ∃ j : Nat, j ≤ n ∧ k = .int .i64 (1 + (j : Int)) ∧ i = .int .i64 j) (fun _ i => n - (intOf i).toNat)
    case atStart => exact ⟨0, Nat.zero_le _, rfl, rfl⟩
    case round =>
      obtain ⟨j, hj, rfl, rfl⟩ := hrel
      by_cases hlt2 : j < n
      · have c1 := unhide HC j (by omega)
        simp only [marksI_get n j hlt2] at c1
        have p0 : (0 : Int) ≤ (j : Int) := by omega
        have p1 : (j : Int) < (n : Int) := by omega
        go_wp2_with fail
        go_round
        case rel => exact ⟨j + 1, by omega, by go_num, by go_num⟩
        case measure => simp [intOf]; omega
      · obtain rfl : j = n := by omega
        go_wp2_with fail
        go_ret
        exact ⟨rfl, rfl⟩

set_option maxRecDepth 100000 in
set_option maxHeartbeats 1000000 in
theorem eqIntS_any (v v2 : Value) (l : List Int) (w : World) (h : Ints w v l) (h2 : Ints w v2 l) (hs : l.length ≤ 1048576) :
    Calls Try.prog 31 #[v, v2] w fun e w' => e = .returned (.bool true) ∧ ∃ n, w' = w.drewN n := by
  obtain ⟨a, cap, rfl, hm, hc⟩ := h
  obtain ⟨a2, cap2, rfl, hm2, hc2⟩ := h2
  have HC := hide hc
  have HC2 := hide hc2
  clear hc hm hc2 hm2
  go_enter Try.func31, Try.ntmps31
  go_wp2_with fail
  go_loopw [5] (fun i wr => ∃ k n : Nat, k ≤ l.length ∧ i = .int .i64 k ∧ wr = w.drewN n) (fun i _ => l.length - (intOf i).toNat)
  case atStart => exact ⟨0, 0, Nat.zero_le _, rfl, rfl⟩
  case round =>
    obtain ⟨k, n, hk, rfl, rfl⟩ := hrel
    by_cases hlt : k < l.length
    · obtain ⟨b, off, rfl, hbl, hsrc⟩ : ∃ b off, a = some ⟨b, off, none⟩ ∧ b < w.heap.size ∧ ∀ i, i < l.length → w.cell? ⟨b, off + i, none⟩ = some (.int .i64 (l.getD i 0)) := by
        rcases unhide HC with h0 | h1
        · omega
        · exact h1
      obtain ⟨b2, off2, rfl, hbl2, hsrc2⟩ : ∃ b off, a2 = some ⟨b, off, none⟩ ∧ b < w.heap.size ∧ ∀ i, i < l.length → w.cell? ⟨b, off + i, none⟩ = some (.int .i64 (l.getD i 0)) := by
        rcases unhide HC2 with h0 | h1
        · omega
        · exact h1
      have hs1 : w.cell? ⟨b, off + k, none⟩ = some (.int .i64 (l.getD k 0)) := hsrc k hlt
      have hs2 : w.cell? ⟨b2, off2 + k, none⟩ = some (.int .i64 (l.getD k 0)) := hsrc2 k hlt
      have hk0 : (0 : Int) ≤ (k : Int) := by omega
      have hk1 : (k : Int) < (l.length : Int) := by omega
      clear hsrc hsrc2
      generalize l.getD k 0 = x at *
      go_wp2_with fail
      go_quiet (fail)
      go_wp2_with fail
      refine ⟨⟨k + 1, n + nq, by omega, by go_num, rfl⟩, ?_⟩
      simp [intOf]; omega
    · go_wp2_with fail
      go_ret
      exact ⟨rfl, n, rfl⟩
end Go.Proofs.Ytljolldacpkeeaa
namespace Go.Proofs.Ytljolldacpkeeaa
open Go.ChangeShapes Go.WideShapes Go.ChangeAt Go.RowKit Go.Deep
set_option linter.unusedVariables false

/-- The five lists of a node can be read. -/
structure NoR (w : World) (lv sv vv nv mv : Value) (lg : List En) (st vs nx mt : List Int) : Prop where
  lg : Ens w lv lg
  st : Ints w sv st
  vs : Ints w vv vs
  nx : Ints w nv nx
  mt : Ints w mv mt
theorem NoR.below {w w' : World} {lv sv vv nv mv : Value} {lg : List En} {st vs nx mt : List Int} (h : NoR w lv sv vv nv mv lg st vs nx mt) (hb : Below w.heap.size w w') : NoR w' lv sv vv nv mv lg st vs nx mt :=
  ⟨h.lg.below hb, h.st.below hb, h.vs.below hb, h.nx.below hb, h.mt.below hb⟩
theorem Ints.shape {w : World} {v : Value} {l : List Int} (h : Ints w v l) : ∃ a c, v = .slice a l.length c := by
  obtain ⟨a, c, h1, _⟩ := h
  exact ⟨a, c, h1⟩
theorem Ens.shape {w : World} {v : Value} {l : List En} (h : Ens w v l) : ∃ a c, v = .slice a l.length c := by
  obtain ⟨a, c, h1, _⟩ := h
  exact ⟨a, c, h1⟩
/-- Two values lie in blocks of their own. -/
abbrev Apart (a b : Value) : Prop := ∀ k, a.ownBlock = some k → b.ownBlock ≠ some k
/-- The five lists of a node are the call's own, from block B on, and lie apart. -/
structure NoO (B : Nat) (w : World) (lv sv vv nv mv : Value) (lg : List En) (st vs nx mt : List Int) : Prop where
  lg : OwnE B w lv lg
  st : OwnI B w sv st
  vs : OwnI B w vv vs
  nx : OwnI B w nv nx
  mt : OwnI B w mv mt
  ap : [lv, sv, vv, nv, mv].Pairwise Apart
theorem NoO.read {B : Nat} {w : World} {lv sv vv nv mv : Value} {lg : List En} {st vs nx mt : List Int} (h : NoO B w lv sv vv nv mv lg st vs nx mt) : NoR w lv sv vv nv mv lg st vs nx mt :=
  ⟨h.lg.ens, h.st.ints, h.vs.ints, h.nx.ints, h.mt.ints⟩
theorem NoO.kept {T : Nat → Prop} {B : Nat} {w w' : World} {lv sv vv nv mv : Value} {lg : List En} {st vs nx mt : List Int} (h : NoO B w lv sv vv nv mv lg st vs nx mt) (ht : Touch T w w') (hn : ∀ k, T k → k < w.heap.size → k < B) : NoO B w' lv sv vv nv mv lg st vs nx mt :=
  ⟨h.lg.kept ht (fun k hk e => by have := World.ownsRow.lt h.lg k hk; have := hn k e this.2; omega), h.st.kept ht (fun k hk e => by have := h.st.lt k hk; have := hn k e this.2; omega), h.vs.kept ht (fun k hk e => by have := h.vs.lt k hk; have := hn k e this.2; omega), h.nx.kept ht (fun k hk e => by have := h.nx.lt k hk; have := hn k e this.2; omega), h.mt.kept ht (fun k hk e => by have := h.mt.lt k hk; have := hn k e this.2; omega), h.ap⟩
theorem NoO.below {B : Nat} {w w' : World} {lv sv vv nv mv : Value} {lg : List En} {st vs nx mt : List Int} (h : NoO B w lv sv vv nv mv lg st vs nx mt) (hb : Below w.heap.size w w') : NoO B w' lv sv vv nv mv lg st vs nx mt :=
  ⟨h.lg.below hb, h.st.below hb, h.vs.below hb, h.nx.below hb, h.mt.below hb, h.ap⟩
theorem NoO.drewN {B : Nat} {w : World} {lv sv vv nv mv : Value} {lg : List En} {st vs nx mt : List Int} (h : NoO B w lv sv vv nv mv lg st vs nx mt) (n : Nat) : NoO B (w.drewN n) lv sv vv nv mv lg st vs nx mt :=
  ⟨h.lg.drewN n, h.st.drewN n, h.vs.drewN n, h.nx.drewN n, h.mt.drewN n, h.ap⟩
def iszR (L : Int) (n : Nat) : Int := if L - (n : Int) < 0 then -1 else L - (n : Int)
theorem iszR_cases (L : Int) (n : Nat) : iszR L n = -1 ∨ (0 ≤ iszR L n ∧ iszR L n = L - (n : Int)) := by
  unfold iszR; split
  · left; rfl
  · right; omega
set_option maxRecDepth 100000 in
set_option maxHeartbeats 1000000 in
theorem szIntS_any (L : Int) (hL0 : 0 ≤ L) (hL1 : L ≤ 1048576) (a : Option Addr) (n cap : Nat) (w : World) (hn : n ≤ maxLen) :
    Calls Try.prog 18 #[.slice a n cap, .int .i64 L] w fun e w' => e = .returned (.int .i64 (iszR L n)) ∧ w' = w := by
  unfold maxLen at hn
  by_cases q : L - (n : Int) < 0
  · have E : Hid (iszR L n = -1) := hide (by unfold iszR; rw [if_pos q])
    go_enter Try.func18, Try.ntmps18
    go_wp2_with fail
    go_ret
    exact ⟨ret_int (unhide E).symm, rfl⟩
  · have E : Hid (iszR L n = L - (n : Int)) := hide (by unfold iszR; rw [if_neg q])
    go_enter Try.func18, Try.ntmps18
    go_wp2_with fail
    go_ret
    exact ⟨ret_int (unhide E).symm, rfl⟩
/-- What the measure of a node leaves of L, or -1. -/
def noszR (L : Int) (lg : List En) (a b c d : Nat) : Int :=
  if eszR L lg < 0 then -1 else if iszR (eszR L lg) a < 0 then -1 else if iszR (iszR (eszR L lg) a) b < 0 then -1 else if iszR (iszR (iszR (eszR L lg) a) b) c < 0 then -1 else iszR (iszR (iszR (iszR (eszR L lg) a) b) c) d
/-- The lists of a node are not too great. -/
structure NoS (lg : List En) (st vs nx mt : List Int) : Prop where
  l0 : lg.length ≤ 1048576
  dt : ∀ i, (lg.getD i default).d.size ≤ 1048576
  l1 : st.length ≤ 1048576
  l2 : vs.length ≤ 1048576
  l3 : nx.length ≤ 1048576
  l4 : mt.length ≤ 1048576
theorem noszR_cases (L : Int) (hL : L ≤ 1048576) (lg : List En) (st vs nx mt : List Int) : noszR L lg st.length vs.length nx.length mt.length = -1 ∨ (0 ≤ noszR L lg st.length vs.length nx.length mt.length ∧ noszR L lg st.length vs.length nx.length mt.length ≤ L ∧ NoS lg st vs nx mt) := by
  unfold noszR
  rcases eszR_cases L lg with h | ⟨h, hl⟩
  · left; rw [h]; rfl
  have hs := esmall_of L hL lg h
  rw [if_neg (by omega)]
  generalize eszR L lg = r0 at *
  rcases iszR_cases r0 st.length with h1 | ⟨h1, e1⟩
  · left; rw [h1]; rfl
  rw [if_neg (by omega)]
  generalize iszR r0 st.length = r1 at *
  rcases iszR_cases r1 vs.length with h2 | ⟨h2, e2⟩
  · left; rw [h2]; rfl
  rw [if_neg (by omega)]
  generalize iszR r1 vs.length = r2 at *
  rcases iszR_cases r2 nx.length with h3 | ⟨h3, e3⟩
  · left; rw [h3]; rfl
  rw [if_neg (by omega)]
  generalize iszR r2 nx.length = r3 at *
  rcases iszR_cases r3 mt.length with h4 | ⟨h4, e4⟩
  · left; exact h4
  · exact .inr ⟨h4, by omega, ⟨hs.1, hs.2, by omega, by omega, by omega, by omega⟩⟩
end Go.Proofs.Ytljolldacpkeeaa
namespace Go.Proofs.Ytljolldacpkeeaa
open Go.ChangeShapes Go.WideShapes Go.ChangeAt Go.RowKit
set_option linter.unusedVariables false

theorem own_kept {T : Nat → Prop} {B : Nat} {e : TypeId} {sz n : Nat} {w w' : World} {v : Value} {xs : List Value} (h : w.ownsRow B e sz v n xs) (ht : Touch T w w') (hn : ∀ k, v.ownBlock = some k → ¬ T k) : w'.ownsRow B e sz v n xs := by
  obtain ⟨hl, hc⟩ := h
  refine ⟨hl, ?_⟩
  rcases hc with h0 | ⟨g, cap, cur, rfl, hb, hgg, rest⟩
  · exact .inl h0
  · exact .inr ⟨g, cap, cur, rfl, hb, (ht.block g (Array.getElem?_eq_some_iff.1 hgg).1 (hn g rfl)).trans hgg, rest⟩
theorem own_shape {B : Nat} {e : TypeId} {sz n : Nat} {w : World} {v : Value} {xs : List Value} (h : w.ownsRow B e sz v n xs) : (v = .slice none 0 0 ∧ n = 0) ∨ ∃ g cap, v = .slice (some ⟨g, 0, none⟩) n cap ∧ B ≤ g ∧ g < w.heap.size ∧ n ≤ cap ∧ cap ≤ maxLen := by
  rcases h.2 with h0 | ⟨g, cap, cur, hv, hb, hg, hn, hm, _⟩
  · exact .inl h0
  · exact .inr ⟨g, cap, hv, hb, (Array.getElem?_eq_some_iff.1 hg).1, hn, hm⟩

/-- The value is a slice that holds these texts. -/
def Strs (w : World) (v : Value) (l : List ByteArray) : Prop :=
  ∃ a cap, v = .slice a l.length cap ∧ l.length ≤ maxLen ∧ (l.length = 0 ∨ ∃ b off, a = some ⟨b, off, none⟩ ∧ b < w.heap.size ∧ ∀ i, i < l.length → w.cell? ⟨b, off + i, none⟩ = some (.string (l.getD i ByteArray.empty)))
/-- The value is a slice of the call's own, from block B on, that holds these texts. -/
def OwnS (B : Nat) (w : World) (v : Value) (l : List ByteArray) : Prop := w.ownsRow B 9 1 v l.length (l.map Value.string)
theorem OwnS.nil (B : Nat) (w : World) : OwnS B w (.slice none 0 0) [] := World.ownsRow_nil w B 9 1
theorem OwnS.cell {B : Nat} {w : World} {g cap n : Nat} {l : List ByteArray} (h : OwnS B w (.slice (some ⟨g, 0, none⟩) n cap) l) (i : Nat) (hi : i < l.length) : w.cell? ⟨g, i, none⟩ = some (.string (l.getD i ByteArray.empty)) := by
  have hn : n = l.length := by
    rcases h.2 with ⟨hv, _⟩ | ⟨g', cap', cur, hv, _⟩
    · cases hv
    · cases hv; rfl
  subst hn
  rw [h.cellAt i (by omega)]
  simp [List.getD, hi]
theorem OwnS.strs {B : Nat} {w : World} {v : Value} {l : List ByteArray} (h : OwnS B w v l) : Strs w v l := by
  rcases own_shape h with ⟨rfl, h0⟩ | ⟨g, cap, rfl, hb, hlt, hn, hm⟩
  · obtain rfl := List.eq_nil_of_length_eq_zero h0
    exact ⟨none, 0, rfl, by unfold maxLen; simp, .inl rfl⟩
  · exact ⟨_, _, rfl, by omega, .inr ⟨g, 0, rfl, hlt, fun i hi => by rw [Nat.zero_add]; exact h.cell i hi⟩⟩
theorem Strs.below {w w' : World} {v : Value} {l : List ByteArray} (h : Strs w v l) (hb : Below w.heap.size w w') : Strs w' v l := by
  obtain ⟨a, cap, hv, hm, hc⟩ := h
  refine ⟨a, cap, hv, hm, ?_⟩
  rcases hc with h0 | ⟨b, off, ha, hlt, hc⟩
  · exact .inl h0
  · exact .inr ⟨b, off, ha, Nat.lt_of_lt_of_le hlt hb.size, fun i hi => (hb.cell (p := ⟨b, off + i, none⟩) hlt).trans (hc i hi)⟩
theorem OwnS.kept {T : Nat → Prop} {B : Nat} {w w' : World} {v : Value} {l : List ByteArray} (h : OwnS B w v l) (ht : Touch T w w') (hn : ∀ k, v.ownBlock = some k → ¬ T k) : OwnS B w' v l := own_kept h ht hn
theorem OwnS.below {B : Nat} {w w' : World} {v : Value} {l : List ByteArray} (h : OwnS B w v l) (hb : Below w.heap.size w w') : OwnS B w' v l := h.kept (T := fun _ => False) (Touch.ofBelow hb) (fun _ _ h => h)
theorem OwnS.drewN {B : Nat} {w : World} {v : Value} {l : List ByteArray} (h : OwnS B w v l) (n : Nat) : OwnS B (w.drewN n) v l := h.kept (T := fun _ => False) ((Touch.refl _ _).drewN n) (fun _ _ h => h)
theorem OwnS.lt {B : Nat} {w : World} {v : Value} {l : List ByteArray} (h : OwnS B w v l) : ∀ k, v.ownBlock = some k → B ≤ k ∧ k < w.heap.size := World.ownsRow.lt h

end Go.Proofs.Ytljolldacpkeeaa
namespace Go.Proofs.Ytljolldacpkeeaa
open Go.ChangeShapes Go.WideShapes Go.ChangeAt Go.RowKit
set_option linter.unusedVariables false

/-- The value is a slice of m elements, whose cells are these. -/
def Rw (w : World) (x : Value) (m : Nat) (news : List Value) : Prop := ∃ a cap, x = .slice a m cap ∧ (m = 0 ∨ ∃ ad : Addr, a = some ad ∧ ∀ j u, news[j]? = some u → w.cell? (ad.add j) = some u)
theorem run_append_row {P : Program} (w : World) (base : Nat) (t ty e : TypeId) (i : TypeInfo) (z : Value) (size bytes : Nat) (ht : P.underlying t = some (.slice e)) (hi : P.info? e = some i) (hz : i.zero = some z) (hsize : i.size = size) (hby : i.bytes = bytes) (hzs : z.cells.size = size) (hsz : 0 < size)
    (v : Value) (n : Nat) (xs : List Value) (hown : w.ownsRow base e size v n xs) (x : Value) (m : Nat) (news : List Value) (hR : Rw w x m news) (hl : news.length = m * size) (h1 : ∀ u ∈ news, u.oneCell' = true) (h63 : n + m ≤ maxLen) (hb : (n + m) * bytes ≤ 140737488355328) (hbase : base ≤ w.heap.size) :
    ∃ a' c' w', (Builtin.append_ #[t, t] ty #[v, x]).run P w = .ok (.slice a' (n + m) c') w' ∧ w'.ownsRow base e size (.slice a' (n + m) c') (n + m) (xs ++ news) ∧ w.grownBy w' v.ownBlock ∧ ((Value.slice a' (n + m) c').ownBlock = v.ownBlock ∨ (Value.slice a' (n + m) c').ownBlock = some w.heap.size) := by
  have key : ∃ v' w', (Builtin.append_ #[t, t] ty #[v, x]).run P w = .ok v' w' ∧ w'.ownsRow base e size v' (n + m) (xs ++ news) ∧ w.grownBy w' v.ownBlock ∧ (v'.ownBlock = v.ownBlock ∨ v'.ownBlock = some w.heap.size) := by
    obtain ⟨a, cap, rfl, hc⟩ := hR
    cases a with
    | none =>
      have hm0 : m = 0 := by
        rcases hc with h0 | ⟨ad, ha, _⟩
        · exact h0
        · cases ha
      subst hm0
      have hn0 : news = [] := List.eq_nil_of_length_eq_zero (by omega)
      subst hn0
      refine ⟨v, w, ?_, by simpa using hown, World.grownBy.refl _ _, .inl rfl⟩
      rcases hown.2 with ⟨rfl, _⟩ | ⟨g, cp, cur, rfl, _, _, hnc, _⟩
      · exact Go.run_append_nothing w t t ty e i ht hi none 0 0 (Nat.le_refl _) _ (Go.Src.ofNil (w := w) ht cap)
      · exact Go.run_append_nothing w t t ty e i ht hi _ n cp hnc _ (Go.Src.ofNil (w := w) ht cap)
    | some ad =>
      have hnews : ∀ j u, news[j]? = some u → w.cell? (ad.add j) = some u := fun j u hu => by
        rcases hc with h0 | ⟨b, ha, hcell⟩
        · subst h0
          have hn0 : news = [] := List.eq_nil_of_length_eq_zero (by omega)
          rw [hn0] at hu; cases hu
        · cases ha; exact hcell j u hu
      obtain ⟨v', w', hr', h2, h3, h4, h5⟩ := run_append_own_at (P := P) w base t ty e i z size bytes ht hi hz hsize hby hzs hsz v n xs hown ad m cap news hl hnews h1 h63 hb hbase
      exact ⟨v', w', hr', h2, h3, h5⟩
  obtain ⟨v', w', hr', h2, h3, h4⟩ := key
  rcases own_shape h2 with ⟨rfl, h0⟩ | ⟨g, c, rfl, _⟩
  · rw [h0] at h2 ⊢
    exact ⟨none, 0, w', hr', h2, h3, h4⟩
  · exact ⟨_, _, w', hr', h2, h3, h4⟩
theorem step_append_row {P : Program} {w : World} {ops : Array Oper} {o : Oper} {a : Act} {K : Act → World → Prop} {Q : Exit → Act → World → Prop} {E : Prop} (hgd : o.guard = none) (s x : Operand) (t : TypeId)
    (ho : o.op = .call { callee := .builtin .append, args := #[s, x], argTypes := #[t, t] })
    (base : Nat) (e : TypeId) (i : TypeInfo) (z : Value) (size bytes : Nat) (ht : P.underlying t = some (.slice e)) (hi : P.info? e = some i) (hz : i.zero = some z) (hsize : i.size = size) (hby : i.bytes = bytes) (hzs : z.cells.size = size) (hsz : 0 < size)
    (v : Value) (n : Nat) (xs : List Value) (hs : a.eval s = v) (hown : w.ownsRow base e size v n xs) (xv : Value) (m : Nat) (news : List Value) (hx : a.eval x = xv) (hR : Rw w xv m news) (hl : news.length = m * size) (h1 : ∀ u ∈ news, u.oneCell' = true) (h63 : n + m ≤ maxLen) (hb : (n + m) * bytes ≤ 140737488355328) (hbase : base ≤ w.heap.size)
    (h : ∀ a' c' w', w'.ownsRow base e size (.slice a' (n + m) c') (n + m) (xs ++ news) → w.grownBy w' v.ownBlock → ((Value.slice a' (n + m) c').ownBlock = v.ownBlock ∨ (Value.slice a' (n + m) c').ownBlock = some w.heap.size) → K (a.put o.dst (.slice a' (n + m) c')) w') :
    if Region.wanted o (yielded ops a.tmps) = true then Oper.wp P o a w K Q else E := by
  have hw : Region.wanted o (yielded ops a.tmps) = true := by simp [Region.wanted, hgd]
  rw [if_pos hw]
  obtain ⟨a', c', w', hr, h2, h3, h4⟩ := run_append_row (P := P) w base t o.type e i z size bytes ht hi hz hsize hby hzs hsz v n xs hown xv m news hR hl h1 h63 hb hbase
  unfold Oper.wp execOp
  simp only [ho, resolve, invoke, builtin, Sem.run_bind, Sem.run_pure, Result.andThen_ok, List.map_toArray, List.map_cons, List.map_nil, hs, hx, hr]
  exact h a' c' w' h2 h3 h4
theorem wpList_append_row {P : Program} (w : World) {ops : Array Oper} {rest : List Oper} {o : Oper} {a : Act} {Q : Exit → Act → World → Prop} (hgd : o.guard = none) (s x : Operand) (t : TypeId)
    (ho : o.op = .call { callee := .builtin .append, args := #[s, x], argTypes := #[t, t] })
    (base : Nat) (e : TypeId) (i : TypeInfo) (z : Value) (size bytes : Nat) (ht : P.underlying t = some (.slice e)) (hi : P.info? e = some i) (hz : i.zero = some z) (hsize : i.size = size) (hby : i.bytes = bytes) (hzs : z.cells.size = size) (hsz : 0 < size)
    (v : Value) (n : Nat) (xs : List Value) (hs : a.eval s = v) (hown : w.ownsRow base e size v n xs) (xv : Value) (m : Nat) (news : List Value) (hx : a.eval x = xv) (hR : Rw w xv m news) (hl : news.length = m * size) (h1 : ∀ u ∈ news, u.oneCell' = true) (h63 : n + m ≤ maxLen) (hb : (n + m) * bytes ≤ 140737488355328) (hbase : base ≤ w.heap.size)
    (h : ∀ a' c' w', w'.ownsRow base e size (.slice a' (n + m) c') (n + m) (xs ++ news) → w.grownBy w' v.ownBlock → ((Value.slice a' (n + m) c').ownBlock = v.ownBlock ∨ (Value.slice a' (n + m) c').ownBlock = some w.heap.size) → wpList P ops Q rest (a.put o.dst (.slice a' (n + m) c')) w') :
    wpList P ops Q (o :: rest) a w := by
  refine wpList_plain hgd fun K hK => ?_
  obtain ⟨a', c', w', hr, h2, h3, h4⟩ := run_append_row (P := P) w base t o.type e i z size bytes ht hi hz hsize hby hzs hsz v n xs hown xv m news hR hl h1 h63 hb hbase
  unfold Oper.wp execOp
  simp only [ho, resolve, invoke, builtin, Sem.run_bind, Sem.run_pure, Result.andThen_ok, List.map_toArray, List.map_cons, List.map_nil, hs, hx, hr]
  exact hK _ _ (h a' c' w' h2 h3 h4)
theorem Strs.rw {w : World} {v : Value} {l : List ByteArray} (h : Strs w v l) : Rw w v l.length (l.map Value.string) := by
  obtain ⟨a, cap, rfl, hm, hc⟩ := h
  refine ⟨a, cap, rfl, ?_⟩
  rcases hc with h0 | ⟨b, off, rfl, hlt, hc⟩
  · exact .inl h0
  · refine .inr ⟨_, rfl, fun j u hu => ?_⟩
    have hadd : (⟨b, off, none⟩ : Addr).add j = ⟨b, off + j, none⟩ := by unfold Addr.add; split <;> simp_all
    rw [List.getElem?_map] at hu
    by_cases hj : j < l.length
    · rw [hadd, hc j hj]
      rw [List.getElem?_eq_getElem hj] at hu
      rw [List.getD_eq_getElem?_getD, List.getElem?_eq_getElem hj]
      simpa using hu
    · rw [List.getElem?_eq_none (by omega)] at hu; cases hu
end Go.Proofs.Ytljolldacpkeeaa
namespace Go.Proofs.Ytljolldacpkeeaa
open Go.ChangeShapes Go.WideShapes Go.ChangeAt Go.RowKit
set_option linter.unusedVariables false

theorem ensC_one (l : List En) : ∀ u ∈ ensC l, u.oneCell' = true := by
  intro u hu
  simp only [ensC, List.mem_flatMap] at hu
  obtain ⟨f, _, hf⟩ := hu
  simp only [enC, List.mem_cons, List.not_mem_nil, or_false] at hf
  rcases hf with rfl | rfl | rfl <;> rfl
theorem Ens.rw {w : World} {v : Value} {l : List En} (h : Ens w v l) : Rw w v l.length (ensC l) := by
  obtain ⟨a, cap, rfl, hn, hm, hc⟩ := h
  refine ⟨a, cap, rfl, ?_⟩
  rcases hc with h0 | ⟨b, off, rfl, hlt, hc⟩
  · exact .inl h0
  refine .inr ⟨_, rfl, fun j u hu => ?_⟩
  have hadd : (⟨b, off, none⟩ : Addr).add j = ⟨b, off + j, none⟩ := by unfold Addr.add; split <;> simp_all
  have hj : j < l.length * 3 := by
    have := (List.getElem?_eq_some_iff.1 hu).1
    rwa [ensC_len] at this
  obtain ⟨g0, g1, g2⟩ := ensC_get l (j / 3) (by omega)
  obtain ⟨c0, c1, c2⟩ := hc (j / 3) (by omega)
  rw [hadd]
  rcases (show j % 3 = 0 ∨ j % 3 = 1 ∨ j % 3 = 2 by omega) with e | e | e
  · rw [show j / 3 * 3 = j by omega] at g0 c0
    rw [c0, ← g0, hu]
  · rw [show j / 3 * 3 + 1 = j by omega] at g1
    rw [show off + j / 3 * 3 + 1 = off + j by omega] at c1
    rw [c1, ← g1, hu]
  · rw [show j / 3 * 3 + 2 = j by omega] at g2
    rw [show off + j / 3 * 3 + 2 = off + j by omega] at c2
    rw [c2, ← g2, hu]
theorem Ints.rw {w : World} {v : Value} {l : List Int} (h : Ints w v l) : Rw w v l.length (l.map (Value.int .i64)) := by
  obtain ⟨a, cap, rfl, hm, hc⟩ := h
  refine ⟨a, cap, rfl, ?_⟩
  rcases hc with h0 | ⟨b, off, rfl, hlt, hc⟩
  · exact .inl h0
  refine .inr ⟨_, rfl, fun j u hu => ?_⟩
  have hadd : (⟨b, off, none⟩ : Addr).add j = ⟨b, off + j, none⟩ := by unfold Addr.add; split <;> simp_all
  rw [List.getElem?_map] at hu
  cases hq : l[j]? with
  | none => rw [hq] at hu; cases hu
  | some x =>
    rw [hq] at hu
    have hj := (List.getElem?_eq_some_iff.1 hq).1
    rw [hadd, hc j hj, List.getD_eq_getElem?_getD, hq]
    exact hu
theorem own_noneJ (w : World) (B X : Nat) (hX : w.heap.size = X) (hB : B ≤ X) : w.alloc (.cells #[] 3) |>.ownsRow B 3 1 (.slice (some ⟨X, 0, none⟩) 0 0) 0 [] :=
  ⟨rfl, .inr ⟨X, 0, #[], rfl, hB, by subst hX; exact heap_alloc_new w _, Nat.le_refl _, by unfold maxLen; omega, rfl, rfl⟩⟩
set_option maxRecDepth 100000 in
theorem cloneJ_nil (w : World) : Calls Try.prog 52 #[.slice none 0 0] w fun e w' => e = .returned (.slice none 0 0) ∧ w' = w := by
  have he : ∀ w : World, (binOp .eql 23 (.slice none 0 0) (.slice none 0 0)).run Try.prog w = .ok (.bool true) w := fun _ => rfl
  go_enter Try.func52, Try.ntmps52
  go_wp2_with fail
  go_ret
  exact ⟨rfl, rfl⟩
set_option maxRecDepth 100000 in
set_option maxHeartbeats 1000000 in
theorem cloneJ_any (x : Addr) (cap : Nat) (l : List Int) (w : World) (hs : Ints w (.slice (some x) l.length cap) l) (hl : l.length ≤ 4096) :
    Calls Try.prog 52 #[.slice (some x) l.length cap] w fun e w' => ∃ g c, e = .returned (.slice (some ⟨g, 0, none⟩) l.length c) ∧ OwnI w.heap.size w' (.slice (some ⟨g, 0, none⟩) l.length c) l ∧ w.heap.size ≤ g ∧ Below w.heap.size w w' := by
  obtain ⟨i0, hi, hz0, hz1, hz2⟩ := info_parts info3
  have B0 := hide ((Below.refl w.heap.size w).alloc (Nat.le_refl _) (.cells #[] 3))
  have O0 := hide (own_noneJ w w.heap.size w.heap.size rfl (Nat.le_refl _))
  have HR := hide ((hs.below (unhide B0)).rw)
  have he : ∀ w : World, (binOp .eql 23 (.slice (some x) l.length cap) (.slice none 0 0)).run Try.prog w = .ok (.bool false) w := fun _ => rfl
  clear hs
  go_enter Try.func52, Try.ntmps52
  go_wp2_with (at_builtin; refine wpList_append_row _ rfl _ _ _ rfl w.heap.size 3 i0 _ 1 8 Try.underlying23 hi hz0 hz1 hz2 rfl (by omega) _ 0 [] rfl (unhide O0) _ l.length (l.map (Value.int .i64)) rfl (unhide HR) (by simp) (by intro u hu; simp only [List.mem_map] at hu; obtain ⟨s, _, rfl⟩ := hu; rfl) (by unfold maxLen; omega) (by omega) (by simp) ?_; intro a1 c1 w1 hown1 hgrow1 hat1; have O1 := hide hown1; have A1 := hide hat1; have B1 := hide ((unhide B0).grown hgrow1 (by simp) (fun r hr => ((unhide O0).lt r hr).1)); clear hown1 hgrow1 hat1)
  go_ret
  have h9 := unhide O1
  rw [Nat.zero_add] at h9
  have hne : a1 ≠ none := fun e => by
    have := unhide A1
    rw [e] at this
    rcases this with h | h <;> cases h
  rcases own_shape h9 with ⟨hv, h0⟩ | ⟨g, c, hv, hg, _⟩
  · simp only [Value.slice.injEq] at hv
    exact absurd hv.1 hne
  · simp only [Value.slice.injEq] at hv
    obtain ⟨rfl, _, rfl⟩ := hv
    exact ⟨g, c1, by simp, by simpa [OwnI] using h9, hg, unhide B1⟩
theorem own_noneE (w : World) (B X : Nat) (hX : w.heap.size = X) (hB : B ≤ X) : w.alloc (.cells #[] 63) |>.ownsRow B 63 3 (.slice (some ⟨X, 0, none⟩) 0 0) 0 [] :=
  ⟨rfl, .inr ⟨X, 0, #[], rfl, hB, by subst hX; exact heap_alloc_new w _, Nat.le_refl _, by unfold maxLen; omega, rfl, rfl⟩⟩
set_option maxRecDepth 100000 in
theorem cloneE_nil (w : World) : Calls Try.prog 51 #[.slice none 0 0] w fun e w' => e = .returned (.slice none 0 0) ∧ w' = w := by
  have he : ∀ w : World, (binOp .eql 27 (.slice none 0 0) (.slice none 0 0)).run Try.prog w = .ok (.bool true) w := fun _ => rfl
  go_enter Try.func51, Try.ntmps51
  go_wp2_with fail
  go_ret
  exact ⟨rfl, rfl⟩
set_option maxRecDepth 100000 in
set_option maxHeartbeats 1000000 in
theorem cloneE_any (x : Addr) (cap : Nat) (l : List En) (w : World) (hs : Ens w (.slice (some x) l.length cap) l) (hl : l.length ≤ 4096) :
    Calls Try.prog 51 #[.slice (some x) l.length cap] w fun e w' => ∃ g c, e = .returned (.slice (some ⟨g, 0, none⟩) l.length c) ∧ OwnE w.heap.size w' (.slice (some ⟨g, 0, none⟩) l.length c) l ∧ w.heap.size ≤ g ∧ Below w.heap.size w w' := by
  obtain ⟨i0, hi, hz0, hz1, hz2⟩ := info_parts infoEn
  have B0 := hide ((Below.refl w.heap.size w).alloc (Nat.le_refl _) (.cells #[] 63))
  have O0 := hide (own_noneE w w.heap.size w.heap.size rfl (Nat.le_refl _))
  have HR := hide ((hs.below (unhide B0)).rw)
  have he : ∀ w : World, (binOp .eql 27 (.slice (some x) l.length cap) (.slice none 0 0)).run Try.prog w = .ok (.bool false) w := fun _ => rfl
  clear hs
  go_enter Try.func51, Try.ntmps51
  go_wp2_with (at_builtin; refine wpList_append_row _ rfl _ _ _ rfl w.heap.size 63 i0 _ 3 32 Try.underlying27 hi hz0 hz1 hz2 rfl (by omega) _ 0 [] rfl (unhide O0) _ l.length (ensC l) rfl (unhide HR) (ensC_len l) (ensC_one l) (by unfold maxLen; omega) (by omega) (by simp) ?_; intro a1 c1 w1 hown1 hgrow1 hat1; have O1 := hide hown1; have A1 := hide hat1; have B1 := hide ((unhide B0).grown hgrow1 (by simp) (fun r hr => ((unhide O0).lt r hr).1)); clear hown1 hgrow1 hat1)
  go_ret
  have h9 := unhide O1
  rw [Nat.zero_add] at h9
  have hne : a1 ≠ none := fun e => by
    have := unhide A1
    rw [e] at this
    rcases this with h | h <;> cases h
  rcases own_shape h9 with ⟨hv, h0⟩ | ⟨g, c, hv, hg, _⟩
  · simp only [Value.slice.injEq] at hv
    exact absurd hv.1 hne
  · simp only [Value.slice.injEq] at hv
    obtain ⟨rfl, _, rfl⟩ := hv
    exact ⟨g, c1, by simp, by simpa [OwnE] using h9, hg, unhide B1⟩
set_option maxRecDepth 100000 in
theorem cloneJ_nilc (cap : Nat) (w : World) : Calls Try.prog 52 #[.slice none 0 cap] w fun e w' => e = .returned (.slice none 0 0) ∧ w' = w := by
  have he : ∀ w : World, (binOp .eql 23 (.slice none 0 cap) (.slice none 0 0)).run Try.prog w = .ok (.bool true) w := fun _ => rfl
  go_enter Try.func52, Try.ntmps52
  go_wp2_with fail
  go_ret
  exact ⟨rfl, rfl⟩
/-- A clone of a list that can be read: the call's own. -/
theorem cloneJ_all (a : Option Addr) (cap : Nat) (l : List Int) (w : World) (hs : Ints w (.slice a l.length cap) l) (hl : l.length ≤ 4096) :
    Calls Try.prog 52 #[.slice a l.length cap] w fun e w' => ∃ a' c', e = .returned (.slice a' l.length c') ∧ OwnI w.heap.size w' (.slice a' l.length c') l ∧ Below w.heap.size w w' := by
  cases a with
  | none =>
    have h0 : l.length = 0 := by
      obtain ⟨a2, c2, e2, hr⟩ := hs
      have hr' : l.length = 0 ∨ ∃ b off, a2 = some ⟨b, off, none⟩ := by
        obtain ⟨_, h | ⟨b, off, h, _⟩⟩ := hr
        · exact .inl h
        · exact .inr ⟨b, off, h⟩
      rcases hr' with h | ⟨b, off, h⟩
      · exact h
      · rw [h] at e2; simp at e2
    obtain rfl := List.eq_nil_of_length_eq_zero h0
    refine (cloneJ_nilc cap w).mono ?_
    rintro e w' ⟨rfl, hw'⟩
    have hw2 := hw'.symm
    clear hw'
    subst hw2
    exact ⟨none, 0, rfl, ⟨rfl, .inl ⟨rfl, rfl⟩⟩, Below.refl _ _⟩
  | some x =>
    refine (cloneJ_any x cap l w hs hl).mono ?_
    rintro e w' ⟨g, c, rfl, ho, _, hb⟩
    exact ⟨_, _, rfl, ho, hb⟩
set_option maxRecDepth 100000 in
theorem cloneE_nilc (cap : Nat) (w : World) : Calls Try.prog 51 #[.slice none 0 cap] w fun e w' => e = .returned (.slice none 0 0) ∧ w' = w := by
  have he : ∀ w : World, (binOp .eql 27 (.slice none 0 cap) (.slice none 0 0)).run Try.prog w = .ok (.bool true) w := fun _ => rfl
  go_enter Try.func51, Try.ntmps51
  go_wp2_with fail
  go_ret
  exact ⟨rfl, rfl⟩
/-- A clone of a list that can be read: the call's own. -/
theorem cloneE_all (a : Option Addr) (cap : Nat) (l : List En) (w : World) (hs : Ens w (.slice a l.length cap) l) (hl : l.length ≤ 4096) :
    Calls Try.prog 51 #[.slice a l.length cap] w fun e w' => ∃ a' c', e = .returned (.slice a' l.length c') ∧ OwnE w.heap.size w' (.slice a' l.length c') l ∧ Below w.heap.size w w' := by
  cases a with
  | none =>
    have h0 : l.length = 0 := by
      obtain ⟨a2, c2, e2, hr⟩ := hs
      have hr' : l.length = 0 ∨ ∃ b off, a2 = some ⟨b, off, none⟩ := by
        obtain ⟨_, _, h | ⟨b, off, h, _⟩⟩ := hr
        · exact .inl h
        · exact .inr ⟨b, off, h⟩
      rcases hr' with h | ⟨b, off, h⟩
      · exact h
      · rw [h] at e2; simp at e2
    obtain rfl := List.eq_nil_of_length_eq_zero h0
    refine (cloneE_nilc cap w).mono ?_
    rintro e w' ⟨rfl, hw'⟩
    have hw2 := hw'.symm
    clear hw'
    subst hw2
    exact ⟨none, 0, rfl, ⟨rfl, .inl ⟨rfl, rfl⟩⟩, Below.refl _ _⟩
  | some x =>
    refine (cloneE_any x cap l w hs hl).mono ?_
    rintro e w' ⟨g, c, rfl, ho, _, hb⟩
    exact ⟨_, _, rfl, ho, hb⟩
end Go.Proofs.Ytljolldacpkeeaa
namespace Go.Proofs.Ytljolldacpkeeaa
open Go.ChangeShapes Go.WideShapes Go.ChangeAt Go.RowKit Go.Deep
set_option linter.unusedVariables false

/-- Two values whose blocks lie in two stretches that do not meet. -/
theorem apart_iv {a b : Value} {s t u v : Nat} (ha : ∀ k, a.ownBlock = some k → s ≤ k ∧ k < t) (hb : ∀ k, b.ownBlock = some k → u ≤ k ∧ k < v) (h : t ≤ u) : Apart a b := fun k h1 h2 => by
  have := ha k h1
  have := hb k h2
  omega
/-- A node that is the call's own comes out. -/
def CpNR (id tm vo ro cm el wt : Int) (up : Bool) (lg : List En) (st vs nx mt : List Int) (B : Nat) (w : World) (e : Ending) (w' : World) : Prop :=
  ∃ la' lc' sa' sc' va' vc' na' nc' ma' mc', e = .returned (.agg #[.int .i64 id, .int .i64 tm, .int .i64 vo, .slice la' lg.length lc', .slice sa' st.length sc', .int .i64 ro, .slice va' vs.length vc', .slice na' nx.length nc', .slice ma' mt.length mc', .int .i64 cm, .int .i64 el, .int .i64 wt, .bool up]) ∧ NoO B w' (.slice la' lg.length lc') (.slice sa' st.length sc') (.slice va' vs.length vc') (.slice na' nx.length nc') (.slice ma' mt.length mc') lg st vs nx mt ∧ Below w.heap.size w w'
set_option maxRecDepth 100000 in
set_option maxHeartbeats 4000000 in
theorem copyNode_any (id tm vo ro cm el wt : Int) (up : Bool) (lg : List En) (st vs nx mt : List Int) (la : Option Addr) (lc : Nat) (sa : Option Addr) (sc : Nat) (va : Option Addr) (vc : Nat) (na : Option Addr) (nc : Nat) (ma : Option Addr) (mc : Nat) (w : World) (h : NoR w (.slice la lg.length lc) (.slice sa st.length sc) (.slice va vs.length vc) (.slice na nx.length nc) (.slice ma mt.length mc) lg st vs nx mt) (z0 : lg.length ≤ 4096) (z1 : st.length ≤ 4096) (z2 : vs.length ≤ 4096) (z3 : nx.length ≤ 4096) (z4 : mt.length ≤ 4096) :
    Calls Try.prog 27 #[.agg #[.int .i64 id, .int .i64 tm, .int .i64 vo, .slice la lg.length lc, .slice sa st.length sc, .int .i64 ro, .slice va vs.length vc, .slice na nx.length nc, .slice ma mt.length mc, .int .i64 cm, .int .i64 el, .int .i64 wt, .bool up]] w fun e w' => CpNR id tm vo ro cm el wt up lg st vs nx mt w.heap.size w e w' := by
  have Tlg := hide (fun wx (hx : Below w.heap.size w wx) => cloneE_all la lc lg wx (h.lg.below hx) z0)
  have Tst := hide (fun wx (hx : Below w.heap.size w wx) => cloneJ_all sa sc st wx (h.st.below hx) z1)
  have Tvs := hide (fun wx (hx : Below w.heap.size w wx) => cloneJ_all va vc vs wx (h.vs.below hx) z2)
  have Tnx := hide (fun wx (hx : Below w.heap.size w wx) => cloneJ_all na nc nx wx (h.nx.below hx) z3)
  have Tmt := hide (fun wx (hx : Below w.heap.size w wx) => cloneJ_all ma mc mt wx (h.mt.below hx) z4)
  have HB := hide (((Below.refl w.heap.size w).alloc (Nat.le_refl _) (.cells #[.int .i64 id, .int .i64 tm, .int .i64 vo, .slice la lg.length lc, .slice sa st.length sc, .int .i64 ro, .slice va vs.length vc, .slice na nx.length nc, .slice ma mt.length mc, .int .i64 cm, .int .i64 el, .int .i64 wt, .bool up] 29)).alloc (by simp) (.cells #[.int .i64 0, .int .i64 0, .int .i64 0, .slice none 0 0, .slice none 0 0, .int .i64 0, .slice none 0 0, .slice none 0 0, .slice none 0 0, .int .i64 0, .int .i64 0, .int .i64 0, .bool false] 29))
  have HO := hide ((Blk.new w #[.int .i64 id, .int .i64 tm, .int .i64 vo, .slice la lg.length lc, .slice sa st.length sc, .int .i64 ro, .slice va vs.length vc, .slice na nx.length nc, .slice ma mt.length mc, .int .i64 cm, .int .i64 el, .int .i64 wt, .bool up] 29 w.heap.size rfl).alloc (.cells #[.int .i64 0, .int .i64 0, .int .i64 0, .slice none 0 0, .slice none 0 0, .int .i64 0, .slice none 0 0, .slice none 0 0, .slice none 0 0, .int .i64 0, .int .i64 0, .int .i64 0, .bool false] 29))
  have HR := hide (Blk.new (w.alloc (.cells #[.int .i64 id, .int .i64 tm, .int .i64 vo, .slice la lg.length lc, .slice sa st.length sc, .int .i64 ro, .slice va vs.length vc, .slice na nx.length nc, .slice ma mt.length mc, .int .i64 cm, .int .i64 el, .int .i64 wt, .bool up] 29)) #[.int .i64 0, .int .i64 0, .int .i64 0, .slice none 0 0, .slice none 0 0, .int .i64 0, .slice none 0 0, .slice none 0 0, .slice none 0 0, .int .i64 0, .int .i64 0, .int .i64 0, .bool false] 29 (w.heap.size + 1) (by simp))
  have HZ := hide (show w.heap.size + 2 ≤ ((w.alloc (.cells #[.int .i64 id, .int .i64 tm, .int .i64 vo, .slice la lg.length lc, .slice sa st.length sc, .int .i64 ro, .slice va vs.length vc, .slice na nx.length nc, .slice ma mt.length mc, .int .i64 cm, .int .i64 el, .int .i64 wt, .bool up] 29)).alloc (.cells #[.int .i64 0, .int .i64 0, .int .i64 0, .slice none 0 0, .slice none 0 0, .int .i64 0, .slice none 0 0, .slice none 0 0, .slice none 0 0, .int .i64 0, .int .i64 0, .int .i64 0, .bool false] 29)).heap.size by simp)
  clear h z0 z1 z2 z3 z4
  go_enter Try.func27, Try.ntmps27
  go_wp2_with fail
  generalize (w.alloc (.cells #[.int .i64 id, .int .i64 tm, .int .i64 vo, .slice la lg.length lc, .slice sa st.length sc, .int .i64 ro, .slice va vs.length vc, .slice na nx.length nc, .slice ma mt.length mc, .int .i64 cm, .int .i64 el, .int .i64 wt, .bool up] 29)).alloc (.cells #[.int .i64 0, .int .i64 0, .int .i64 0, .slice none 0 0, .slice none 0 0, .int .i64 0, .slice none 0 0, .slice none 0 0, .slice none 0 0, .int .i64 0, .int .i64 0, .int .i64 0, .bool false] 29) = w0 at *
  refine (unhide Tlg w0 (unhide HB)).mono ?_
  rintro e w1 ⟨la', lc', rfl, hO, hb⟩
  have hlt := World.ownsRow.lt hO
  have hz := unhide HZ
  have OO := (unhide HO).below hb
  have oc := OO.cell 3 rfl
  have fc := OO.fro 3
  have O5 := OO.set 3 (.slice la' lg.length lc') (by simp)
  have R5 := ((unhide HR).below hb).other (C := w.heap.size) 3 (.slice la' lg.length lc') (by omega)
  have B5 := ((unhide HB).trans (hb.mono (unhide HB).size)).setCell (p := ⟨w.heap.size, 3, none⟩) (Nat.le_refl _) (.slice la' lg.length lc')
  have T5 := (Touch.refl (fun q => q = w.heap.size) w1).setCell ⟨w.heap.size, 3, none⟩ (.slice la' lg.length lc') (fun _ => rfl)
  have hbs := hb.size
  have Ul := hO.kept T5 (fun q hq e => by have := (hlt q hq).1; omega)
  have Il := hide (show (∀ q, (Value.slice la' lg.length lc').ownBlock = some q → w0.heap.size ≤ q ∧ q < w1.heap.size) ∧ w.heap.size + 1 < w0.heap.size from ⟨hlt, by omega⟩)
  have Jl := hide (show w0.heap.size ≤ w1.heap.size from hbs)
  have nc_ := O5.cell 4 rfl
  have hsz : (w1.setCell ⟨w.heap.size, 3, none⟩ (.slice la' lg.length lc')).heap.size = w1.heap.size := by simp
  have E1 := hide hsz
  have Z5 := hide (show w.heap.size + 2 ≤ (w1.setCell ⟨w.heap.size, 3, none⟩ (.slice la' lg.length lc')).heap.size by rw [hsz]; omega)
  have HO5 := hide O5
  have HR5 := hide R5
  have HB5 := hide B5
  have Nl := hide Ul
  clear OO O5 R5 B5 T5 hO hlt hb hbs hz hsz HO HR HB HZ Tlg Ul 
  go_wp2_with fail
  clear oc fc nc_
  generalize (w1.setCell ⟨w.heap.size, 3, none⟩ (.slice la' lg.length lc')) = u1 at *
  have HO := hide (unhide HO5)
  clear HO5
  have HR := hide (unhide HR5)
  clear HR5
  have HB := hide (unhide HB5)
  clear HB5
  have HZ := hide (unhide Z5)
  clear Z5
  have Ml := hide (unhide Nl)
  clear Nl
  refine (unhide Tst u1 (unhide HB)).mono ?_
  rintro e w2 ⟨sa', sc', rfl, hO, hb⟩
  have hlt := hO.lt
  have hz := unhide HZ
  have OO := (unhide HO).below hb
  have oc := OO.cell 4 rfl
  have fc := OO.fro 4
  have O5 := OO.set 4 (.slice sa' st.length sc') (by simp)
  have R5 := ((unhide HR).below hb).other (C := w.heap.size) 4 (.slice sa' st.length sc') (by omega)
  have B5 := ((unhide HB).trans (hb.mono (unhide HB).size)).setCell (p := ⟨w.heap.size, 4, none⟩) (Nat.le_refl _) (.slice sa' st.length sc')
  have T5 := (Touch.refl (fun q => q = w.heap.size) w2).setCell ⟨w.heap.size, 4, none⟩ (.slice sa' st.length sc') (fun _ => rfl)
  have hbs := hb.size
  have Ul := ((unhide Ml).below hb).kept T5 (fun q hq e => by have := (unhide Il).1 q hq; have := (unhide Il).2; omega)
  have Us := hO.kept T5 (fun q hq e => by have := (hlt q hq).1; omega)
  have Is := hide (show (∀ q, (Value.slice sa' st.length sc').ownBlock = some q → u1.heap.size ≤ q ∧ q < w2.heap.size) ∧ w.heap.size + 1 < u1.heap.size from ⟨hlt, by omega⟩)
  have Js := hide (show u1.heap.size ≤ w2.heap.size from hbs)
  have nc_ := O5.cell 6 rfl
  have hsz : (w2.setCell ⟨w.heap.size, 4, none⟩ (.slice sa' st.length sc')).heap.size = w2.heap.size := by simp
  have E2 := hide hsz
  have Z5 := hide (show w.heap.size + 2 ≤ (w2.setCell ⟨w.heap.size, 4, none⟩ (.slice sa' st.length sc')).heap.size by rw [hsz]; omega)
  have HO5 := hide O5
  have HR5 := hide R5
  have HB5 := hide B5
  have Nl := hide Ul
  have Ns := hide Us
  clear OO O5 R5 B5 T5 hO hlt hb hbs hz hsz HO HR HB HZ Tst Ul Us Ml
  go_wp2_with fail
  clear oc fc nc_
  generalize (w2.setCell ⟨w.heap.size, 4, none⟩ (.slice sa' st.length sc')) = u2 at *
  have HO := hide (unhide HO5)
  clear HO5
  have HR := hide (unhide HR5)
  clear HR5
  have HB := hide (unhide HB5)
  clear HB5
  have HZ := hide (unhide Z5)
  clear Z5
  have Ml := hide (unhide Nl)
  clear Nl
  have Ms := hide (unhide Ns)
  clear Ns
  refine (unhide Tvs u2 (unhide HB)).mono ?_
  rintro e w3 ⟨va', vc', rfl, hO, hb⟩
  have hlt := hO.lt
  have hz := unhide HZ
  have OO := (unhide HO).below hb
  have oc := OO.cell 6 rfl
  have fc := OO.fro 6
  have O5 := OO.set 6 (.slice va' vs.length vc') (by simp)
  have R5 := ((unhide HR).below hb).other (C := w.heap.size) 6 (.slice va' vs.length vc') (by omega)
  have B5 := ((unhide HB).trans (hb.mono (unhide HB).size)).setCell (p := ⟨w.heap.size, 6, none⟩) (Nat.le_refl _) (.slice va' vs.length vc')
  have T5 := (Touch.refl (fun q => q = w.heap.size) w3).setCell ⟨w.heap.size, 6, none⟩ (.slice va' vs.length vc') (fun _ => rfl)
  have hbs := hb.size
  have Ul := ((unhide Ml).below hb).kept T5 (fun q hq e => by have := (unhide Il).1 q hq; have := (unhide Il).2; omega)
  have Us := ((unhide Ms).below hb).kept T5 (fun q hq e => by have := (unhide Is).1 q hq; have := (unhide Is).2; omega)
  have Uv := hO.kept T5 (fun q hq e => by have := (hlt q hq).1; omega)
  have Iv := hide (show (∀ q, (Value.slice va' vs.length vc').ownBlock = some q → u2.heap.size ≤ q ∧ q < w3.heap.size) ∧ w.heap.size + 1 < u2.heap.size from ⟨hlt, by omega⟩)
  have Jv := hide (show u2.heap.size ≤ w3.heap.size from hbs)
  have nc_ := O5.cell 7 rfl
  have hsz : (w3.setCell ⟨w.heap.size, 6, none⟩ (.slice va' vs.length vc')).heap.size = w3.heap.size := by simp
  have E3 := hide hsz
  have Z5 := hide (show w.heap.size + 2 ≤ (w3.setCell ⟨w.heap.size, 6, none⟩ (.slice va' vs.length vc')).heap.size by rw [hsz]; omega)
  have HO5 := hide O5
  have HR5 := hide R5
  have HB5 := hide B5
  have Nl := hide Ul
  have Ns := hide Us
  have Nv := hide Uv
  clear OO O5 R5 B5 T5 hO hlt hb hbs hz hsz HO HR HB HZ Tvs Ul Us Uv Ml Ms
  go_wp2_with fail
  clear oc fc nc_
  generalize (w3.setCell ⟨w.heap.size, 6, none⟩ (.slice va' vs.length vc')) = u3 at *
  have HO := hide (unhide HO5)
  clear HO5
  have HR := hide (unhide HR5)
  clear HR5
  have HB := hide (unhide HB5)
  clear HB5
  have HZ := hide (unhide Z5)
  clear Z5
  have Ml := hide (unhide Nl)
  clear Nl
  have Ms := hide (unhide Ns)
  clear Ns
  have Mv := hide (unhide Nv)
  clear Nv
  refine (unhide Tnx u3 (unhide HB)).mono ?_
  rintro e w4 ⟨na', nc', rfl, hO, hb⟩
  have hlt := hO.lt
  have hz := unhide HZ
  have OO := (unhide HO).below hb
  have oc := OO.cell 7 rfl
  have fc := OO.fro 7
  have O5 := OO.set 7 (.slice na' nx.length nc') (by simp)
  have R5 := ((unhide HR).below hb).other (C := w.heap.size) 7 (.slice na' nx.length nc') (by omega)
  have B5 := ((unhide HB).trans (hb.mono (unhide HB).size)).setCell (p := ⟨w.heap.size, 7, none⟩) (Nat.le_refl _) (.slice na' nx.length nc')
  have T5 := (Touch.refl (fun q => q = w.heap.size) w4).setCell ⟨w.heap.size, 7, none⟩ (.slice na' nx.length nc') (fun _ => rfl)
  have hbs := hb.size
  have Ul := ((unhide Ml).below hb).kept T5 (fun q hq e => by have := (unhide Il).1 q hq; have := (unhide Il).2; omega)
  have Us := ((unhide Ms).below hb).kept T5 (fun q hq e => by have := (unhide Is).1 q hq; have := (unhide Is).2; omega)
  have Uv := ((unhide Mv).below hb).kept T5 (fun q hq e => by have := (unhide Iv).1 q hq; have := (unhide Iv).2; omega)
  have Un := hO.kept T5 (fun q hq e => by have := (hlt q hq).1; omega)
  have In := hide (show (∀ q, (Value.slice na' nx.length nc').ownBlock = some q → u3.heap.size ≤ q ∧ q < w4.heap.size) ∧ w.heap.size + 1 < u3.heap.size from ⟨hlt, by omega⟩)
  have Jn := hide (show u3.heap.size ≤ w4.heap.size from hbs)
  have nc_ := O5.cell 8 rfl
  have hsz : (w4.setCell ⟨w.heap.size, 7, none⟩ (.slice na' nx.length nc')).heap.size = w4.heap.size := by simp
  have E4 := hide hsz
  have Z5 := hide (show w.heap.size + 2 ≤ (w4.setCell ⟨w.heap.size, 7, none⟩ (.slice na' nx.length nc')).heap.size by rw [hsz]; omega)
  have HO5 := hide O5
  have HR5 := hide R5
  have HB5 := hide B5
  have Nl := hide Ul
  have Ns := hide Us
  have Nv := hide Uv
  have Nn := hide Un
  clear OO O5 R5 B5 T5 hO hlt hb hbs hz hsz HO HR HB HZ Tnx Ul Us Uv Un Ml Ms Mv
  go_wp2_with fail
  clear oc fc nc_
  generalize (w4.setCell ⟨w.heap.size, 7, none⟩ (.slice na' nx.length nc')) = u4 at *
  have HO := hide (unhide HO5)
  clear HO5
  have HR := hide (unhide HR5)
  clear HR5
  have HB := hide (unhide HB5)
  clear HB5
  have HZ := hide (unhide Z5)
  clear Z5
  have Ml := hide (unhide Nl)
  clear Nl
  have Ms := hide (unhide Ns)
  clear Ns
  have Mv := hide (unhide Nv)
  clear Nv
  have Mn := hide (unhide Nn)
  clear Nn
  refine (unhide Tmt u4 (unhide HB)).mono ?_
  rintro e w5 ⟨ma', mc', rfl, hO, hb⟩
  have hlt := hO.lt
  have hz := unhide HZ
  have OO := (unhide HO).below hb
  have oc := OO.cell 8 rfl
  have fc := OO.fro 8
  have O5 := OO.set 8 (.slice ma' mt.length mc') (by simp)
  have R5 := ((unhide HR).below hb).other (C := w.heap.size) 8 (.slice ma' mt.length mc') (by omega)
  have B5 := ((unhide HB).trans (hb.mono (unhide HB).size)).setCell (p := ⟨w.heap.size, 8, none⟩) (Nat.le_refl _) (.slice ma' mt.length mc')
  have T5 := (Touch.refl (fun q => q = w.heap.size) w5).setCell ⟨w.heap.size, 8, none⟩ (.slice ma' mt.length mc') (fun _ => rfl)
  have hbs := hb.size
  have Ul := ((unhide Ml).below hb).kept T5 (fun q hq e => by have := (unhide Il).1 q hq; have := (unhide Il).2; omega)
  have Us := ((unhide Ms).below hb).kept T5 (fun q hq e => by have := (unhide Is).1 q hq; have := (unhide Is).2; omega)
  have Uv := ((unhide Mv).below hb).kept T5 (fun q hq e => by have := (unhide Iv).1 q hq; have := (unhide Iv).2; omega)
  have Un := ((unhide Mn).below hb).kept T5 (fun q hq e => by have := (unhide In).1 q hq; have := (unhide In).2; omega)
  have Um := hO.kept T5 (fun q hq e => by have := (hlt q hq).1; omega)
  have Im := hide (show (∀ q, (Value.slice ma' mt.length mc').ownBlock = some q → u4.heap.size ≤ q ∧ q < w5.heap.size) ∧ w.heap.size + 1 < u4.heap.size from ⟨hlt, by omega⟩)
  have Jm := hide (show u4.heap.size ≤ w5.heap.size from hbs)
  have o50 := O5.cell 0 rfl
  have o51 := O5.cell 1 rfl
  have o52 := O5.cell 2 rfl
  have o53 := O5.cell 3 rfl
  have o54 := O5.cell 4 rfl
  have o55 := O5.cell 5 rfl
  have o56 := O5.cell 6 rfl
  have o57 := O5.cell 7 rfl
  have o58 := O5.cell 8 rfl
  have o59 := O5.cell 9 rfl
  have o510 := O5.cell 10 rfl
  have o511 := O5.cell 11 rfl
  have o512 := O5.cell 12 rfl
  have r50 := R5.cell 0 rfl
  have fr0 := R5.fro 0
  have r51 := R5.cell 1 rfl
  have fr1 := R5.fro 1
  have r52 := R5.cell 2 rfl
  have fr2 := R5.fro 2
  have r53 := R5.cell 3 rfl
  have fr3 := R5.fro 3
  have r54 := R5.cell 4 rfl
  have fr4 := R5.fro 4
  have r55 := R5.cell 5 rfl
  have fr5 := R5.fro 5
  have r56 := R5.cell 6 rfl
  have fr6 := R5.fro 6
  have r57 := R5.cell 7 rfl
  have fr7 := R5.fro 7
  have r58 := R5.cell 8 rfl
  have fr8 := R5.fro 8
  have r59 := R5.cell 9 rfl
  have fr9 := R5.fro 9
  have r510 := R5.cell 10 rfl
  have fr10 := R5.fro 10
  have r511 := R5.cell 11 rfl
  have fr11 := R5.fro 11
  have r512 := R5.cell 12 rfl
  have fr12 := R5.fro 12
  have R9 := (((((((((((((R5.set 0 (.int .i64 id) (by simp)).set 1 (.int .i64 tm) (by simp)).set 2 (.int .i64 vo) (by simp)).set 3 (.slice la' lg.length lc') (by simp)).set 4 (.slice sa' st.length sc') (by simp)).set 5 (.int .i64 ro) (by simp)).set 6 (.slice va' vs.length vc') (by simp)).set 7 (.slice na' nx.length nc') (by simp)).set 8 (.slice ma' mt.length mc') (by simp)).set 9 (.int .i64 cm) (by simp)).set 10 (.int .i64 el) (by simp)).set 11 (.int .i64 wt) (by simp)).set 12 (.bool up) (by simp))
  have B9 := hide (((((((((((((B5.setCell (p := ⟨w.heap.size + 1, 0, none⟩) (by simp) (.int .i64 id)).setCell (p := ⟨w.heap.size + 1, 1, none⟩) (by simp) (.int .i64 tm)).setCell (p := ⟨w.heap.size + 1, 2, none⟩) (by simp) (.int .i64 vo)).setCell (p := ⟨w.heap.size + 1, 3, none⟩) (by simp) (.slice la' lg.length lc')).setCell (p := ⟨w.heap.size + 1, 4, none⟩) (by simp) (.slice sa' st.length sc')).setCell (p := ⟨w.heap.size + 1, 5, none⟩) (by simp) (.int .i64 ro)).setCell (p := ⟨w.heap.size + 1, 6, none⟩) (by simp) (.slice va' vs.length vc')).setCell (p := ⟨w.heap.size + 1, 7, none⟩) (by simp) (.slice na' nx.length nc')).setCell (p := ⟨w.heap.size + 1, 8, none⟩) (by simp) (.slice ma' mt.length mc')).setCell (p := ⟨w.heap.size + 1, 9, none⟩) (by simp) (.int .i64 cm)).setCell (p := ⟨w.heap.size + 1, 10, none⟩) (by simp) (.int .i64 el)).setCell (p := ⟨w.heap.size + 1, 11, none⟩) (by simp) (.int .i64 wt)).setCell (p := ⟨w.heap.size + 1, 12, none⟩) (by simp) (.bool up))
  have T9 := ((((((((((((((Touch.refl (fun q => q = w.heap.size + 1) (w5.setCell ⟨w.heap.size, 8, none⟩ (.slice ma' mt.length mc'))).setCell ⟨w.heap.size + 1, 0, none⟩ (.int .i64 id) (fun _ => rfl)).setCell ⟨w.heap.size + 1, 1, none⟩ (.int .i64 tm) (fun _ => rfl)).setCell ⟨w.heap.size + 1, 2, none⟩ (.int .i64 vo) (fun _ => rfl)).setCell ⟨w.heap.size + 1, 3, none⟩ (.slice la' lg.length lc') (fun _ => rfl)).setCell ⟨w.heap.size + 1, 4, none⟩ (.slice sa' st.length sc') (fun _ => rfl)).setCell ⟨w.heap.size + 1, 5, none⟩ (.int .i64 ro) (fun _ => rfl)).setCell ⟨w.heap.size + 1, 6, none⟩ (.slice va' vs.length vc') (fun _ => rfl)).setCell ⟨w.heap.size + 1, 7, none⟩ (.slice na' nx.length nc') (fun _ => rfl)).setCell ⟨w.heap.size + 1, 8, none⟩ (.slice ma' mt.length mc') (fun _ => rfl)).setCell ⟨w.heap.size + 1, 9, none⟩ (.int .i64 cm) (fun _ => rfl)).setCell ⟨w.heap.size + 1, 10, none⟩ (.int .i64 el) (fun _ => rfl)).setCell ⟨w.heap.size + 1, 11, none⟩ (.int .i64 wt) (fun _ => rfl)).setCell ⟨w.heap.size + 1, 12, none⟩ (.bool up) (fun _ => rfl))
  have Vl := Ul.kept T9 (fun q hq e => by have := (unhide Il).1 q hq; have := (unhide Il).2; omega)
  have Vs := Us.kept T9 (fun q hq e => by have := (unhide Is).1 q hq; have := (unhide Is).2; omega)
  have Vv := Uv.kept T9 (fun q hq e => by have := (unhide Iv).1 q hq; have := (unhide Iv).2; omega)
  have Vn := Un.kept T9 (fun q hq e => by have := (unhide In).1 q hq; have := (unhide In).2; omega)
  have Vm := Um.kept T9 (fun q hq e => by have := (unhide Im).1 q hq; have := (unhide Im).2; omega)
  have z0 := R9.cell 0 rfl
  have z1 := R9.cell 1 rfl
  have z2 := R9.cell 2 rfl
  have z3 := R9.cell 3 rfl
  have z4 := R9.cell 4 rfl
  have z5 := R9.cell 5 rfl
  have z6 := R9.cell 6 rfl
  have z7 := R9.cell 7 rfl
  have z8 := R9.cell 8 rfl
  have z9 := R9.cell 9 rfl
  have z10 := R9.cell 10 rfl
  have z11 := R9.cell 11 rfl
  have z12 := R9.cell 12 rfl
  have F9 := hide (And.intro Vl (And.intro Vs (And.intro Vv (And.intro Vn Vm))))
  clear OO O5 R5 B5 T5 R9 T9 hO hlt hb hbs hz Ul Us Uv Un Um Vl Vs Vv Vn Vm HO HR HB HZ Tmt Ml Ms Mv Mn
  go_wp2_with fail
  refine bodyPost_ret (v := .agg #[.int .i64 id, .int .i64 tm, .int .i64 vo, .slice la' lg.length lc', .slice sa' st.length sc', .int .i64 ro, .slice va' vs.length vc', .slice na' nx.length nc', .slice ma' mt.length mc', .int .i64 cm, .int .i64 el, .int .i64 wt, .bool up]) (by simp [results, Try.results27, go_sem, z0, z1, z2, z3, z4, z5, z6, z7, z8, z9, z10, z11, z12]) rfl ?_
  have il := unhide Il
  have is_ := unhide Is
  have iv := unhide Iv
  have in_ := unhide In
  have im := unhide Im
  have js := unhide Js
  have jv := unhide Jv
  have jn := unhide Jn
  have e1 := unhide E1
  have e2 := unhide E2
  have e3 := unhide E3
  have e4 := unhide E4
  refine ⟨la', lc', sa', sc', va', vc', na', nc', ma', mc', rfl, ⟨?_, ?_, ?_, ?_, ?_, ?_⟩, unhide B9⟩
  · exact World.ownsRow_monoE (unhide F9).1 (by omega)
  · exact (unhide F9).2.1.mono (by omega)
  · exact (unhide F9).2.2.1.mono (by omega)
  · exact (unhide F9).2.2.2.1.mono (by omega)
  · exact (unhide F9).2.2.2.2.mono (by omega)
  · simp only [List.pairwise_cons, List.mem_cons, List.not_mem_nil, or_false, forall_eq_or_imp, forall_eq, List.Pairwise.nil, and_true, false_implies, implies_true]
    refine ⟨⟨?_, ?_, ?_, ?_⟩, ⟨?_, ?_, ?_⟩, ⟨?_, ?_⟩, ?_⟩
    · exact apart_iv il.1 is_.1 (by omega)
    · exact apart_iv il.1 iv.1 (by omega)
    · exact apart_iv il.1 in_.1 (by omega)
    · exact apart_iv il.1 im.1 (by omega)
    · exact apart_iv is_.1 iv.1 (by omega)
    · exact apart_iv is_.1 in_.1 (by omega)
    · exact apart_iv is_.1 im.1 (by omega)
    · exact apart_iv iv.1 in_.1 (by omega)
    · exact apart_iv iv.1 im.1 (by omega)
    · exact apart_iv in_.1 im.1 (by omega)
/-- An actor: a node that is its own, and what it sends (nothing yet). -/
structure Actor (B : Nat) (w : World) (b : Nat) (id tm vo ro cm el wt : Int) (up : Bool) (lv sv vv nv mv : Value) (lg : List En) (st vs nx mt : List Int) : Prop where
  bk : Blk w b [.int .i64 id, .int .i64 tm, .int .i64 vo, lv, sv, .int .i64 ro, vv, nv, mv, .int .i64 cm, .int .i64 el, .int .i64 wt, .bool up, .slice none 0 0]
  lo : B ≤ b
  no : NoO B w lv sv vv nv mv lg st vs nx mt
  ap : ∀ v ∈ [lv, sv, vv, nv, mv], v.ownBlock ≠ some b
set_option maxRecDepth 100000 in
set_option maxHeartbeats 4000000 in
theorem newActor_any (id tm vo ro cm el wt : Int) (up : Bool) (lg : List En) (st vs nx mt : List Int) (la : Option Addr) (lc : Nat) (sa : Option Addr) (sc : Nat) (va : Option Addr) (vc : Nat) (na : Option Addr) (nc : Nat) (ma : Option Addr) (mc : Nat) (w : World) (h : NoR w (.slice la lg.length lc) (.slice sa st.length sc) (.slice va vs.length vc) (.slice na nx.length nc) (.slice ma mt.length mc) lg st vs nx mt) (z0 : lg.length ≤ 4096) (z1 : st.length ≤ 4096) (z2 : vs.length ≤ 4096) (z3 : nx.length ≤ 4096) (z4 : mt.length ≤ 4096) :
    Calls Try.prog 28 #[.agg #[.int .i64 id, .int .i64 tm, .int .i64 vo, .slice la lg.length lc, .slice sa st.length sc, .int .i64 ro, .slice va vs.length vc, .slice na nx.length nc, .slice ma mt.length mc, .int .i64 cm, .int .i64 el, .int .i64 wt, .bool up]] w fun e w' => ∃ b la' lc' sa' sc' va' vc' na' nc' ma' mc', e = .returned (.pointer (some ⟨b, 0, none⟩)) ∧ Actor w.heap.size w' b id tm vo ro cm el wt up (.slice la' lg.length lc') (.slice sa' st.length sc') (.slice va' vs.length vc') (.slice na' nx.length nc') (.slice ma' mt.length mc') lg st vs nx mt ∧ Below w.heap.size w w' := by
  have HB := hide ((Below.refl w.heap.size w).alloc (Nat.le_refl _) (.cells #[.int .i64 id, .int .i64 tm, .int .i64 vo, .slice la lg.length lc, .slice sa st.length sc, .int .i64 ro, .slice va vs.length vc, .slice na nx.length nc, .slice ma mt.length mc, .int .i64 cm, .int .i64 el, .int .i64 wt, .bool up] 29))
  have HX := hide (fun wx (hx : Below w.heap.size w wx) => copyNode_any id tm vo ro cm el wt up lg st vs nx mt la lc sa sc va vc na nc ma mc wx (h.below hx) z0 z1 z2 z3 z4)
  clear h z0 z1 z2 z3 z4
  go_enter Try.func28, Try.ntmps28
  go_wp2_with fail
  generalize w.alloc (.cells #[.int .i64 id, .int .i64 tm, .int .i64 vo, .slice la lg.length lc, .slice sa st.length sc, .int .i64 ro, .slice va vs.length vc, .slice na nx.length nc, .slice ma mt.length mc, .int .i64 cm, .int .i64 el, .int .i64 wt, .bool up] 29) = w0 at *
  refine (unhide HX w0 (unhide HB)).mono ?_
  rintro e w1 ⟨la', lc', sa', sc', va', vc', na', nc', ma', mc', rfl, hO, hb⟩
  have hbs := (unhide HB).size
  have K1 := hide ((unhide HB).trans (hb.mono hbs))
  have HO := hide hO
  clear hO hb HX HB
  go_wp2_with fail
  go_ret
  have hk := (unhide K1).size
  refine ⟨w1.heap.size, la', lc', sa', sc', va', vc', na', nc', ma', mc', rfl, ⟨Blk.new w1 _ _ w1.heap.size rfl, by omega, ?_, ?_⟩, ?_⟩
  · have hn := (unhide HO).below ((Below.refl w1.heap.size w1).alloc (Nat.le_refl _) (.cells #[.int .i64 id, .int .i64 tm, .int .i64 vo, .slice la' lg.length lc', .slice sa' st.length sc', .int .i64 ro, .slice va' vs.length vc', .slice na' nx.length nc', .slice ma' mt.length mc', .int .i64 cm, .int .i64 el, .int .i64 wt, .bool up, .slice none 0 0] 54))
    exact ⟨World.ownsRow_monoE hn.lg hbs, hn.st.mono hbs, hn.vs.mono hbs, hn.nx.mono hbs, hn.mt.mono hbs, hn.ap⟩
  · have hn := unhide HO
    have b0 := World.ownsRow.lt hn.lg
    have b1 := hn.st.lt
    have b2 := hn.vs.lt
    have b3 := hn.nx.lt
    have b4 := hn.mt.lt
    intro v hv he
    simp only [List.mem_cons, List.not_mem_nil, or_false] at hv
    rcases hv with rfl | rfl | rfl | rfl | rfl
    · have := (b0 _ he).2; omega
    · have := (b1 _ he).2; omega
    · have := (b2 _ he).2; omega
    · have := (b3 _ he).2; omega
    · have := (b4 _ he).2; omega
  · exact (unhide K1).alloc hk _
end Go.Proofs.Ytljolldacpkeeaa
namespace Go.Proofs.Ytljolldacpkeeaa
open Go.ChangeShapes Go.WideShapes Go.ChangeAt Go.RowKit
set_option linter.unusedVariables false

abbrev InAll (l : List Int) : Prop := ∀ i, i < l.length → inB (l.getD i 0) 0 6 = true
abbrev Rising (l : List Int) : Prop := ∀ i, i < l.length → i = 0 ∨ l.getD (i - 1) 0 < l.getD i 0
def mFault (l : List Int) : Int := if InAll l then (if l.length = 0 then 1 else if Rising l then 0 else 1) else 4

set_option maxRecDepth 100000 in
set_option maxHeartbeats 1000000 in
theorem membersFault_any (v : Value) (l : List Int) (w : World) (h : Ints w v l) (hs : l.length ≤ 1048576) :
    Calls Try.prog 48 #[v] w fun e w' => e = .returned (.int .i64 (mFault l)) ∧ ∃ n, w' = w.drewN n := by
  obtain ⟨a, cap, rfl, hm, hc⟩ := h
  have HC := hide hc
  clear hc hm
  go_enter Try.func48, Try.ntmps48
  go_wp2_with fail
  go_loop [4, 8] (fun _ i => ∃ k : Nat, k ≤ l.length ∧ i = .int .i64 k ∧ Hid (∀ i, i < k → inB (l.getD i 0) 0 6 = true)) (fun _ i => l.length - (intOf i).toNat)
  case atStart => exact ⟨0, Nat.zero_le _, rfl, fun i hi => absurd hi (Nat.not_lt_zero _)⟩
  case round =>
    obtain ⟨k, hk, rfl, hA⟩ := hrel
    by_cases hlt : k < l.length
    · obtain ⟨b, off, rfl, hbl, hsrc⟩ : ∃ b off, a = some ⟨b, off, none⟩ ∧ b < w.heap.size ∧ ∀ i, i < l.length → w.cell? ⟨b, off + i, none⟩ = some (.int .i64 (l.getD i 0)) := by
        rcases unhide HC with h0 | h1
        · omega
        · exact h1
      have hs1 := hsrc k hlt
      have hk0 : (0 : Int) ≤ (k : Int) := by omega
      have hk1 : (k : Int) < (l.length : Int) := by omega
      have HX : Hid (l.getD k 0 = l.getD k 0) := rfl
      clear hsrc
      rcases Bool.eq_false_or_eq_true (inB (l.getD k 0) 0 6) with hin | hin
      · have HA := hide (show ∀ i, i < k + 1 → inB (l.getD i 0) 0 6 = true from fun i hi => by
          by_cases e : i = k
          · subst e; exact hin
          · exact unhide hA i (by omega))
        generalize l.getD k 0 = x at *
        go_wp2_with fail
        refine (within_any _ _ _ _).mono ?_
        rintro e w' ⟨rfl, rfl⟩
        go_wp2_with fail
        go_round
        case rel => exact ⟨k + 1, by omega, by go_num, unhide HA⟩
        case measure => simp [intOf]; omega
      · have HF := hide (show mFault l = 4 by unfold mFault; rw [if_neg (fun hx => by rw [hx k hlt] at hin; cases hin)])
        generalize l.getD k 0 = x at *
        go_wp2_with fail
        refine (within_any _ _ _ _).mono ?_
        rintro e w' ⟨rfl, rfl⟩
        go_wp2_with fail
        go_ret
        exact ⟨ret_int (unhide HF).symm, 0, rfl⟩
    · obtain rfl : k = l.length := by omega
      have hin : InAll l := unhide hA
      by_cases hl0 : l.length = 0
      · have HF := hide (show mFault l = 1 by unfold mFault; rw [if_pos hin, if_pos hl0])
        have hb0 : ((l.length : Int) == 0) = true := by rw [hl0]; rfl
        clear hin
        go_wp2_with fail
        go_ret
        exact ⟨ret_int (unhide HF).symm, 0, rfl⟩
      · have hb0 : ((l.length : Int) == 0) = false := by rw [beq_eq_false_iff_ne]; omega
        have HI := hide hin
        have hl1 : 1 ≤ l.length := by omega
        clear hin hl0
        go_wp2_with fail
        go_loopw [5] (fun i wr => ∃ j n : Nat, 1 ≤ j ∧ j ≤ l.length ∧ i = .int .i64 j ∧ Hid (∀ i, i < j → i = 0 ∨ l.getD (i - 1) 0 < l.getD i 0) ∧ wr = w.drewN n) (fun i _ => l.length - (intOf i).toNat)
        case atStart => exact ⟨1, 0, Nat.le_refl _, hl1, rfl, fun i hi => .inl (by omega), rfl⟩
        case round =>
          obtain ⟨j, n, hj1, hj, rfl, hR, rfl⟩ := hrel
          by_cases hlt2 : j < l.length
          · obtain ⟨b, off, rfl, hbl, hsrc⟩ : ∃ b off, a = some ⟨b, off, none⟩ ∧ b < w.heap.size ∧ ∀ i, i < l.length → w.cell? ⟨b, off + i, none⟩ = some (.int .i64 (l.getD i 0)) := by
              rcases unhide HC with h0 | h1
              · omega
              · exact h1
            obtain ⟨q, rfl⟩ : ∃ q, j = q + 1 := ⟨j - 1, by omega⟩
            have hs1 : w.cell? ⟨b, off + (q + 1), none⟩ = _ := hsrc (q + 1) hlt2
            have hs2 : w.cell? ⟨b, off + q, none⟩ = _ := hsrc q (by omega)
            have hk0 : (0 : Int) ≤ ((q + 1 : Nat) : Int) := by omega
            have hk1 : ((q + 1 : Nat) : Int) < (l.length : Int) := by omega
            have hk2 : (0 : Int) ≤ (q : Int) := by omega
            have hk3 : (q : Int) < (l.length : Int) := by omega
            have m1 : IntKind.i64.wrap (((q + 1 : Nat) : Int) - 1) = (q : Int) := by simp only [IntKind.wrap, IntKind.bits, IntKind.signed]; simp; omega
            have m2 : IntKind.i64.wrap (q : Int) = (q : Int) := by simp only [IntKind.wrap, IntKind.bits, IntKind.signed]; simp; omega
            clear hsrc
            by_cases hle : l.getD (q + 1) 0 ≤ l.getD q 0
            · have HF := hide (show mFault l = 1 by
                unfold mFault
                rw [if_pos (unhide HI), if_neg (by omega), if_neg (fun hx => by
                  rcases hx (q + 1) hlt2 with h0 | h0
                  · omega
                  · rw [Nat.add_sub_cancel] at h0; omega)])
              generalize l.getD (q + 1) 0 = x at *
              generalize l.getD q 0 = y at *
              go_wp2_with fail
              go_quiet (fail)
              go_wp2_with fail
              go_ret
              exact ⟨ret_int (unhide HF).symm, n + nq, drewN_two _ _ _⟩
            · have HR := hide (show ∀ i, i < q + 1 + 1 → i = 0 ∨ l.getD (i - 1) 0 < l.getD i 0 from fun i hi => by
                by_cases e : i = q + 1
                · subst e; right; rw [Nat.add_sub_cancel]; omega
                · exact unhide hR i (by omega))
              have hlt3 : l.getD q 0 < l.getD (q + 1) 0 := by omega
              have hd : decide (l.getD (q + 1) 0 ≤ l.getD q 0) = false := by simpa using hle
              generalize l.getD (q + 1) 0 = x at *
              generalize l.getD q 0 = y at *
              go_wp2_with fail
              go_quiet (fail)
              go_wp2_with fail
              refine ⟨⟨q + 1 + 1, n + nq, by omega, by omega, by go_num, unhide HR, rfl⟩, ?_⟩
              simp [intOf]; omega
          · have HF := hide (show mFault l = 0 by
              unfold mFault
              rw [if_pos (unhide HI), if_neg (by omega), if_pos (fun i hi => unhide hR i (by omega))])
            go_wp2_with fail
            go_ret
            exact ⟨ret_int (unhide HF).symm, n, rfl⟩

abbrev MemB (s : ByteArray) : Prop := InAll (bytesI s) ∧ Rising (bytesI s)
/-- What l02Members tells. -/
def memOut (s : ByteArray) : List Int × Bool := if MemB s then (bytesI s, decide (0 < s.size)) else ([], false)
set_option maxRecDepth 100000 in
set_option maxHeartbeats 1000000 in
theorem l02Members_any (s : ByteArray) (w : World) (hs : s.size ≤ 1048576) :
    Calls Try.prog 63 #[.string s] w fun e w' => ∃ v', e = .returned (.tuple #[v', .bool (memOut s).2]) ∧ OwnI w.heap.size w' v' (memOut s).1 ∧ Below w.heap.size w w' := by
  obtain ⟨i0, hi, hz0, hz1, hz2⟩ := info_parts info3
  have hbl := bytesI_len s
  have HBL := hide hbl
  clear hbl
  go_enter Try.func63, Try.ntmps63
  go_wp2_with fail
  go_loopw [4, 5] (fun v i wr => ∃ k : Nat, k ≤ s.size ∧ i = .int .i64 k ∧ Hid (∀ i, i < k → inB (bAt s i) 0 6 = true ∧ (i = 0 ∨ bAt s (i - 1) < bAt s i)) ∧ wr.ownsRow w.heap.size 3 1 v k (((bytesI s).take k).map (Value.int .i64)) ∧ Below w.heap.size w wr) (fun _ i _ => s.size - (intOf i).toNat)
  case atStart =>
    refine ⟨0, Nat.zero_le _, rfl, fun i hi => absurd hi (Nat.not_lt_zero _), ?_, (Below.refl _ _).alloc (Nat.le_refl _) _⟩
    exact World.ownsRow_made w #[] 0 (Nat.le_refl _) (by unfold maxLen; omega) rfl
  case round =>
    obtain ⟨k, hk, rfl, hA, hown, hbel⟩ := hrel
    by_cases hlt : k < s.size
    · have e1 := bAt_eq s k hlt
      have hb0 := bAt_lo s k
      have hb1 := bAt_hi s k
      have hk0 : (0 : Int) ≤ (k : Int) := by omega
      have hk1 : (k : Int) < (s.size : Int) := by omega
      have m0 : IntKind.i64.wrap (bAt s k) = bAt s k := by simp only [IntKind.wrap, IntKind.bits, IntKind.signed]; simp; omega
      have hno : ∀ (hx : ¬ (inB (bAt s k) 0 6 = true ∧ (k = 0 ∨ bAt s (k - 1) < bAt s k))), memOut s = ([], false) := fun hx => by
        unfold memOut
        rw [if_neg (fun hy => hx ⟨by have := hy.1 k (by rw [unhide HBL]; exact hlt); rwa [bytesI_bAt] at this, by
          rcases hy.2 k (by rw [unhide HBL]; exact hlt) with h0 | h0
          · exact .inl h0
          · right; rwa [bytesI_bAt, bytesI_bAt] at h0⟩)]
      have HNO := hide hno
      have HT := hide (bytesI_take s k hlt)
      clear hno
      rcases Bool.eq_false_or_eq_true (inB (bAt s k) 0 6) with hin | hin
      · by_cases hz : k = 0
        · have HA2 := hide (show ∀ i, i < k + 1 → inB (bAt s i) 0 6 = true ∧ (i = 0 ∨ bAt s (i - 1) < bAt s i) from fun i hi => by
            obtain rfl : i = k := by omega
            exact ⟨hin, .inl hz⟩)
          have hk2 : ¬ ((0 : Int) < (k : Int)) := by omega
          have hd : decide ((0 : Int) < (k : Int)) = false := by simpa using hk2
          have hd2 : decide (0 < k) = false := by simp; omega
          have HO := hide hown
          have HB := hide hbel
          have HZ := hide hz
          clear hown hbel HNO hz
          generalize bAt s k = x at *
          go_wp2_with fail
          go_quiet ((go_at_call 20; exact Calls.quiet_of_same (l01In_any _ _ _ _)))
          have hO1 : (wr.drewN nq).ownsRow w.heap.size 3 1 u4 k (((bytesI s).take k).map (Value.int .i64)) := unhide HO
          have hB1 : Below w.heap.size w (wr.drewN nq) := below_drewN (unhide HB) nq
          have hz1' := hB1.size
          have O1 := hide hO1
          have B1 := hide hB1
          clear hO1 hB1 HO HB
          generalize wr.drewN nq = w1 at *
          go_wp2_with (at_builtin; refine wpList_append_lies _ rfl _ _ _ rfl w.heap.size 3 i0 _ 1 8 Try.underlying23 hi hz0 hz1 hz2 rfl (by omega) u4 k _ rfl ((unhide O1).alloc _) ⟨w1.heap.size, 0, none⟩ 1 1 [_] rfl rfl (World.news_of_block (cs := #[_]) (t := 3) (fr := (0, 0)) (heap_alloc_new w1 _)) (by simp [Value.oneCell']) (by omega) (by unfold maxLen; omega) (by omega) (by simp; omega) _ rfl ?_; intro gg capg w2 hown2 hgrow2 hat2 hlt2)
          have R := hide (show w2.ownsRow w.heap.size 3 1 (.slice (some ⟨gg, 0, none⟩) (k + 1) capg) (k + 1) (((bytesI s).take (k + 1)).map (Value.int .i64)) ∧ Below w.heap.size w w2 from ⟨by rw [unhide HT, List.map_append]; exact hown2, ((unhide B1).alloc hz1' _).grown hgrow2 (by simp; omega) (fun r hr => ((unhide O1).lt r hr).1)⟩)
          clear hown2 hgrow2 hat2 hlt2
          go_roundw
          case rel => exact ⟨k + 1, by omega, by go_num, unhide HA2, (unhide R).1, (unhide R).2⟩
          case measure => simp [intOf]; omega
        · obtain ⟨q, rfl⟩ : ∃ q, k = q + 1 := ⟨k - 1, by omega⟩
          have e2 := bAt_eq s q (by omega)
          have hc0 := bAt_lo s q
          have hc1 := bAt_hi s q
          have hk2 : (0 : Int) < ((q + 1 : Nat) : Int) := by omega
          have hq0 : (0 : Int) ≤ (q : Int) := by omega
          have hq1 : (q : Int) < (s.size : Int) := by omega
          have m1 : IntKind.i64.wrap (((q + 1 : Nat) : Int) - 1) = (q : Int) := by simp only [IntKind.wrap, IntKind.bits, IntKind.signed]; simp; omega
          have m2 : IntKind.i64.wrap (q : Int) = (q : Int) := by simp only [IntKind.wrap, IntKind.bits, IntKind.signed]; simp; omega
          by_cases hlt3 : bAt s q < bAt s (q + 1)
          · have HA2 := hide (show ∀ i, i < q + 1 + 1 → inB (bAt s i) 0 6 = true ∧ (i = 0 ∨ bAt s (i - 1) < bAt s i) from fun i hi => by
              by_cases e : i = q + 1
              · subst e; exact ⟨hin, .inr (by rw [Nat.add_sub_cancel]; exact hlt3)⟩
              · exact unhide hA i (by omega))
            have hd : decide (bAt s (q + 1) ≤ bAt s q) = false := by simp; omega
            have HO := hide hown
            have HB := hide hbel
            clear hown hbel HNO hz
            generalize bAt s (q + 1) = x at *
            generalize bAt s q = y at *
            go_wp2_with fail
            go_quiet ((go_at_call 20; exact Calls.quiet_of_same (l01In_any _ _ _ _)))
            have hO1 : (wr.drewN nq).ownsRow w.heap.size 3 1 u4 (q + 1) (((bytesI s).take (q + 1)).map (Value.int .i64)) := unhide HO
            have hB1 : Below w.heap.size w (wr.drewN nq) := below_drewN (unhide HB) nq
            have hz1' := hB1.size
            have O1 := hide hO1
            have B1 := hide hB1
            clear hO1 hB1 HO HB
            generalize wr.drewN nq = w1 at *
            go_wp2_with (at_builtin; refine wpList_append_lies _ rfl _ _ _ rfl w.heap.size 3 i0 _ 1 8 Try.underlying23 hi hz0 hz1 hz2 rfl (by omega) u4 (q + 1) _ rfl ((unhide O1).alloc _) ⟨w1.heap.size, 0, none⟩ 1 1 [_] rfl rfl (World.news_of_block (cs := #[_]) (t := 3) (fr := (0, 0)) (heap_alloc_new w1 _)) (by simp [Value.oneCell']) (by omega) (by unfold maxLen; omega) (by omega) (by simp; omega) _ rfl ?_; intro gg capg w2 hown2 hgrow2 hat2 hlt2)
            have R := hide (show w2.ownsRow w.heap.size 3 1 (.slice (some ⟨gg, 0, none⟩) (q + 1 + 1) capg) (q + 1 + 1) (((bytesI s).take (q + 1 + 1)).map (Value.int .i64)) ∧ Below w.heap.size w w2 from ⟨by rw [unhide HT, List.map_append]; exact hown2, ((unhide B1).alloc hz1' _).grown hgrow2 (by simp; omega) (fun r hr => ((unhide O1).lt r hr).1)⟩)
            clear hown2 hgrow2 hat2 hlt2
            go_roundw
            case rel => exact ⟨q + 1 + 1, by omega, by go_num, unhide HA2, (unhide R).1, (unhide R).2⟩
            case measure => simp [intOf]; omega
          · have HF := hide (unhide HNO (fun hx => by
              rcases hx.2 with h0 | h0
              · omega
              · rw [Nat.add_sub_cancel] at h0; exact hlt3 h0))
            have hge : bAt s (q + 1) ≤ bAt s q := by omega
            have HB := hide hbel
            clear hown hbel HNO HT
            generalize bAt s (q + 1) = x at *
            generalize bAt s q = y at *
            go_wp2_with fail
            go_quiet ((go_at_call 20; exact Calls.quiet_of_same (l01In_any _ _ _ _)))
            go_wp2_with fail
            go_ret2
            exact ⟨.slice (some ⟨wr.heap.size, 0, none⟩) 0 0, ret_two_b (by rw [unhide HF]), by rw [unhide HF]; exact OwnI.empty _ _ _ rfl (unhide HB).size, (below_drewN (unhide HB) nq).alloc (unhide HB).size _⟩
      · have HF := hide (unhide HNO (fun hx => by rw [hx.1] at hin; cases hin))
        have HB := hide hbel
        clear hown hbel HNO HT
        generalize bAt s k = x at *
        go_wp2_with fail
        go_quiet ((go_at_call 20; exact Calls.quiet_of_same (l01In_any _ _ _ _)))
        go_wp2_with fail
        go_ret2
        exact ⟨.slice (some ⟨wr.heap.size, 0, none⟩) 0 0, ret_two_b (by rw [unhide HF]), by rw [unhide HF]; exact OwnI.empty _ _ _ rfl (unhide HB).size, (below_drewN (unhide HB) nq).alloc (unhide HB).size _⟩
    · obtain rfl : k = s.size := by omega
      have HF := hide (show memOut s = (bytesI s, decide (0 < s.size)) by
        unfold memOut
        rw [if_pos ⟨fun i hi => by rw [bytesI_bAt]; exact (unhide hA i (by rw [unhide HBL] at hi; exact hi)).1, fun i hi => by rw [bytesI_bAt, bytesI_bAt]; exact (unhide hA i (by rw [unhide HBL] at hi; exact hi)).2⟩])
      have hO : OwnI w.heap.size wr u4 (bytesI s) := by
        unfold OwnI
        rw [unhide HBL]
        have e : (bytesI s).take s.size = bytesI s := by rw [← unhide HBL, List.take_length]
        rw [e] at hown
        exact hown
      have R := hide (And.intro hO hbel)
      rcases hown.2 with ⟨rfl, h0⟩ | ⟨g, cp, cur, rfl, _⟩
      · have h00 : ((s.size : Nat) : Int) = 0 := by omega
        have HS := hide h0
        clear hO hbel hown h0
        go_wp2_with fail
        go_ret2
        exact ⟨_, ret_two_b (by rw [unhide HF]; simp [unhide HS]), by rw [unhide HF]; exact (unhide R).1, (unhide R).2⟩
      · clear hO hbel hown
        go_wp2_with fail
        go_ret2
        exact ⟨_, ret_two_b (by rw [unhide HF]), by rw [unhide HF]; exact (unhide R).1, (unhide R).2⟩
end Go.Proofs.Ytljolldacpkeeaa
namespace Go.Proofs.Ytljolldacpkeeaa
open Go.ChangeShapes Go.WideShapes Go.ChangeAt Go.RowKit
set_option linter.unusedVariables false

/-- What ReadMembers answers. -/
def memRead (s : ByteArray) : List Int × Int := if 65536 < s.size then ([], 2) else if mFault (bytesI s) = 0 then (bytesI s, 0) else ([], 3)
theorem memOut_fault (s : ByteArray) : (memOut s).2 = decide (mFault (bytesI s) = 0) ∧ ((memOut s).2 = true → (memOut s).1 = bytesI s) := by
  unfold memOut mFault
  by_cases h1 : InAll (bytesI s)
  · by_cases h2 : Rising (bytesI s)
    · rw [if_pos ⟨h1, h2⟩, if_pos h1]
      by_cases h3 : s.size = 0
      · rw [if_pos (by rw [bytesI_len]; exact h3)]; simp [h3]
      · rw [if_neg (by rw [bytesI_len]; exact h3), if_pos h2]; simp; omega
    · rw [if_neg (fun h => h2 h.2), if_pos h1]
      by_cases h3 : (bytesI s).length = 0
      · rw [if_pos h3]; simp
      · rw [if_neg h3, if_neg h2]; simp
  · rw [if_neg (fun h => h1 h.1), if_neg h1]; simp

def copiedI (s : ByteArray) (k j : Nat) : Int := if j < k then bAt s j else 0
set_option maxRecDepth 100000 in
set_option maxHeartbeats 1000000 in
theorem implReadMembers_any (s : ByteArray) (w : World) (hs : s.size ≤ maxLen) :
    Calls Try.prog 80 #[.string s] w fun e w' => ∃ v', e = .returned (.tuple #[v', .int .i64 (memRead s).2]) ∧ OwnI w.heap.size w' v' (memRead s).1 ∧ Below w.heap.size w w' := by
  unfold maxLen at hs
  obtain ⟨i0, hi, hz0, hz1, hz2⟩ := info_parts info3
  by_cases hl : 65536 < s.size
  · have E := hide (show memRead s = ([], 2) by simp [memRead, hl])
    go_enter Try.func80, Try.ntmps80
    go_wp2_with fail
    go_ret2
    exact ⟨.slice none 0 0, ret_two (by rw [unhide E]), by rw [unhide E]; exact World.ownsRow_nil _ _ _ _, Below.refl _ _⟩
  · go_enter Try.func80, Try.ntmps80
    go_wp2_with (at_make; refine wpList_make_full _ rfl _ _ 23 rfl w.heap.size 3 i0 _ 1 Try.underlying23 hi hz0 hz1 .i64 .i64 _ _ s.size rfl rfl rfl rfl (by rw [hz2]; omega) (by unfold maxLen; omega) (Nat.le_refl _) ?_; intro w1 hown1 hg1)
    have hz : LaidI w1 w.heap.size s.size (copiedI s 0) s.size := by
      obtain ⟨hl1, hc1⟩ := hown1
      rcases hc1 with ⟨hv, _⟩ | ⟨g', cap', cur, hv, hb, hg, hn, hm, hs1, ht⟩
      · cases hv
      · cases hv
        refine ⟨cur, hg, by simpa using hs1, hn, fun j hj => ?_⟩
        have e := congrArg (fun z : List Value => z[j]?) ht
        have e3 : (Value.int IntKind.i64 0).cells = #[Value.int IntKind.i64 0] := rfl
        rw [e3, Nat.mul_one, toList_madeCells_one] at e
        simp only [List.getElem?_take, if_pos hj, Array.getElem?_toList] at e
        rw [e]; simp [hj, copiedI]
    have HZ := hide (And.intro hz ((Below.refl w.heap.size w).grown hg1 (Nat.le_refl _) (fun k h => by cases h)))
    clear hown1 hg1 hz
    go_loopw [5, 14] (fun _ i wr => ∃ k : Nat, k ≤ s.size ∧ i = .int .i64 k ∧ LaidI wr w.heap.size s.size (copiedI s k) s.size ∧ Below w.heap.size w wr) (fun _ i _ => s.size - (intOf i).toNat)
    case atStart => exact ⟨0, Nat.zero_le _, rfl, (unhide HZ).1, (unhide HZ).2⟩
    case round =>
      obtain ⟨k, hk, rfl, hL, hbel⟩ := hrel
      by_cases hlt : k < s.size
      · have e1 := bAt_eq s k hlt
        have hb0 := bAt_lo s k
        have hb1 := bAt_hi s k
        have hk0 : (0 : Int) ≤ (k : Int) := by omega
        have hk1 : (k : Int) < (s.size : Int) := by omega
        have m0 : IntKind.i64.wrap (bAt s k) = bAt s k := by simp only [IntKind.wrap, IntKind.bits, IntKind.signed]; simp; omega
        obtain ⟨d1, d2⟩ := hL.cell k hlt
        have R := hide (And.intro (hL.set (f' := copiedI s (k + 1)) k (bAt s k) hlt (by unfold copiedI; rw [if_pos (by omega)]) (fun j hj => by
          unfold copiedI
          by_cases h1 : j < k
          · rw [if_pos h1, if_pos (by omega)]
          · rw [if_neg h1, if_neg (by omega)])) (hbel.setCell (p := ⟨w.heap.size, k, none⟩) (Nat.le_refl _) (.int .i64 (bAt s k))))
        clear hL hbel
        generalize bAt s k = x at *
        go_wp2_with fail
        refine ⟨⟨k + 1, by omega, by go_num, (unhide R).1, (unhide R).2⟩, ?_⟩
        simp [intOf]; omega
      · obtain rfl : k = s.size := by omega
        have hbl := bytesI_len s
        have hO : OwnI w.heap.size wr (.slice (some ⟨w.heap.size, 0, none⟩) s.size s.size) (bytesI s) := by
          have h1 := LaidI.own (B := w.heap.size) (l := bytesI s) (f := copiedI s s.size) (cap := s.size) (w := wr) (g := w.heap.size) (by rw [hbl]; exact hL) (fun j hj => by rw [hbl] at hj; unfold copiedI; rw [if_pos hj, bytesI_bAt]) (Nat.le_refl _) (by unfold maxLen; omega)
          rw [hbl] at h1; exact h1
        have HI := hide hO.ints
        have R := hide (And.intro hO hbel)
        have HBL := hide hbl
        clear hL hbel hO hbl
        go_wp2_with fail
        refine (membersFault_any _ (bytesI s) _ (unhide HI) (by rw [unhide HBL]; omega)).mono ?_
        rintro e w2 ⟨rfl, n, rfl⟩
        by_cases hf : mFault (bytesI s) = 0
        · have E := hide (show memRead s = (bytesI s, 0) by simp [memRead, hl, hf])
          rw [hf]
          clear hf
          go_wp2_with fail
          go_ret2
          exact ⟨_, ret_two (by rw [unhide E]), by rw [unhide E]; exact (unhide R).1.drewN n, below_drewN (unhide R).2 n⟩
        · have E := hide (show memRead s = ([], 3) by simp [memRead, hl, hf])
          have hne : (mFault (bytesI s) != 0) = true := by rw [bne_iff_ne]; exact hf
          generalize mFault (bytesI s) = x at *
          go_wp2_with fail
          go_ret2
          exact ⟨.slice none 0 0, ret_two (by rw [unhide E]), by rw [unhide E]; exact World.ownsRow_nil _ _ _ _, below_drewN (unhide R).2 n⟩
end Go.Proofs.Ytljolldacpkeeaa
namespace Go.Proofs.Ytljolldacpkeeaa
open Go.ChangeShapes Go.WideShapes Go.ChangeAt Go.RowKit
set_option linter.unusedVariables false

theorem rising_ge {l : List Int} (h1 : InAll l) (h2 : Rising l) : ∀ i, i < l.length → (i : Int) ≤ l.getD i 0 := by
  intro i
  induction i with
  | zero => intro hi; have := inB_iff.1 (h1 0 hi); simpa using this.1
  | succ i ih =>
    intro hi
    have h := ih (by omega)
    rcases h2 (i + 1) hi with h0 | h0
    · omega
    · rw [Nat.add_sub_cancel] at h0; omega
theorem mFault_small {l : List Int} (h : mFault l = 0) : l.length ≤ 7 := by
  unfold mFault at h
  split at h
  · rename_i h1
    split at h
    · omega
    · split at h
      · rename_i h0 h2
        have h3 := rising_ge h1 h2 (l.length - 1) (by omega)
        have h4 := inB_iff.1 (h1 (l.length - 1) (by omega))
        omega
      · omega
  · omega
theorem memRead_code (d : ByteArray) : (memRead d).2 = 0 ↔ mFault (bytesI d) = 0 := by
  unfold memRead
  by_cases h : 65536 < d.size
  · rw [if_pos h]
    constructor
    · intro h1; simp at h1
    · intro h1; have := mFault_small h1; rw [bytesI_len] at this; omega
  · rw [if_neg h]
    by_cases h1 : mFault (bytesI d) = 0
    · rw [if_pos h1]; simp [h1]
    · rw [if_neg h1]; simp [h1]
/-- An entry is right. -/
def entOK (t k : Int) (d : ByteArray) : Bool :=
  if inB t 1 1000000 then (if k = 0 then emptyB d else if k = 1 then inB d.size 1 100 else if k = 2 then decide (mFault (bytesI d) = 0) else false) else false
theorem entOK_bounds {t k : Int} {d : ByteArray} (h : entOK t k d = true) : 1 ≤ t ∧ t ≤ 1000000 ∧ 0 ≤ k ∧ k ≤ 2 ∧ d.size ≤ 100 := by
  unfold entOK at h
  split at h
  · rename_i h1
    rw [inB_iff] at h1
    have : 0 ≤ k ∧ k ≤ 2 ∧ d.size ≤ 100 := by
      split at h
      · rw [emptyB_iff] at h; omega
      · split at h
        · rw [inB_iff] at h; omega
        · split at h
          · have h2 := mFault_small (of_decide_eq_true h); rw [bytesI_len] at h2; omega
          · cases h
    omega
  · cases h
set_option maxRecDepth 100000 in
set_option maxHeartbeats 1000000 in
theorem implEntryOK_any (t k : Int) (d : ByteArray) (w : World) (hd : d.size ≤ maxLen) :
    Calls Try.prog 67 #[.agg #[.int .i64 t, .int .i64 k, .string d]] w fun e w' => e = .returned (.bool (entOK t k d)) ∧ Below w.heap.size w w' := by
  have HD := hide hd
  unfold maxLen at hd
  have H5 := hide (fun o => (Below.refl w.heap.size w).alloc (Nat.le_refl _) o)
  rcases Bool.eq_false_or_eq_true (inB t 1 1000000) with h1 | h1
  case inr =>
    have H := hide (show entOK t k d = false by simp [entOK, h1])
    go_enter Try.func67, Try.ntmps67
    go_wp2_with (go_at_call 26; refine (within_any _ _ _ _).mono ?_; rintro e w' ⟨rfl, rfl⟩)
    go_ret
    exact ⟨ret_bool (unhide H).symm, unhide H5 _⟩
  by_cases k0 : k = 0
  · have H := hide (show entOK t k d = d.toList.isEmpty by simp [entOK, h1, k0, emptyB])
    subst k0
    go_enter Try.func67, Try.ntmps67
    go_wp2_with (go_at_call 26; refine (within_any _ _ _ _).mono ?_; rintro e w' ⟨rfl, rfl⟩)
    go_ret
    exact ⟨ret_bool (unhide H).symm, unhide H5 _⟩
  by_cases k1 : k = 1
  · have H := hide (show entOK t k d = inB d.size 1 100 by simp [entOK, h1, k1])
    subst k1
    go_enter Try.func67, Try.ntmps67
    go_wp2_with (go_at_call 26; refine (within_any _ _ _ _).mono ?_; rintro e w' ⟨rfl, rfl⟩)
    go_ret
    exact ⟨ret_bool (unhide H).symm, unhide H5 _⟩
  by_cases k2 : k = 2
  · have H := hide (show entOK t k d = decide (mFault (bytesI d) = 0) by simp [entOK, h1, k2])
    subst k2
    go_enter Try.func67, Try.ntmps67
    go_wp2_with (go_at_call 26; refine (within_any _ _ _ _).mono ?_; rintro e w' ⟨rfl, rfl⟩)
    refine (implReadMembers_any d _ (unhide HD)).mono ?_
    rintro e w1 ⟨v1, rfl, hO1, hb1⟩
    have B1 := hide ((unhide H5 (.cells #[.int .i64 t, .int .i64 2, .string d] 63)).trans (hb1.mono (by simp)))
    have HM := hide (memRead_code d)
    clear hO1 hb1
    generalize (memRead d).2 = c at *
    by_cases hc : c = 0
    · have hb : (c == 0) = true := by rw [hc]; rfl
      have HC := hide hc
      clear hc
      go_wp2_with fail
      go_ret
      exact ⟨ret_bool (by rw [unhide H]; have := (unhide HM).1 (unhide HC); simp [this]), unhide B1⟩
    · have hb : (c == 0) = false := by rw [beq_eq_false_iff_ne]; exact hc
      have HC := hide hc
      clear hc
      go_wp2_with fail
      go_ret
      exact ⟨ret_bool (by rw [unhide H]; exact (decide_eq_false (fun h => unhide HC ((unhide HM).2 h))).symm), unhide B1⟩
  · have H := hide (show entOK t k d = false by simp [entOK, h1, k0, k1, k2])
    go_enter Try.func67, Try.ntmps67
    go_wp2_with (go_at_call 26; refine (within_any _ _ _ _).mono ?_; rintro e w' ⟨rfl, rfl⟩)
    go_ret
    exact ⟨ret_bool (unhide H).symm, unhide H5 _⟩
set_option maxRecDepth 100000 in
set_option maxHeartbeats 1000000 in
theorem specEntry_any (t k : Int) (d : ByteArray) (w : World) (hd : d.size ≤ maxLen) (hs : d.size ≤ 1048576) :
    Calls Try.prog 61 #[.agg #[.int .i64 t, .int .i64 k, .string d]] w fun e w' => e = .returned (.bool (entOK t k d)) ∧ Below w.heap.size w w' := by
  have HD := hide hd
  unfold maxLen at hd
  have H5 := hide (fun o => (Below.refl w.heap.size w).alloc (Nat.le_refl _) o)
  rcases Bool.eq_false_or_eq_true (inB t 1 1000000) with h1 | h1
  case inr =>
    have H := hide (show entOK t k d = false by simp [entOK, h1])
    go_enter Try.func61, Try.ntmps61
    go_wp2_with (go_at_call 20; refine (l01In_any _ _ _ _).mono ?_; rintro e w' ⟨rfl, rfl⟩)
    go_ret
    exact ⟨ret_bool (unhide H).symm, unhide H5 _⟩
  by_cases k0 : k = 0
  · have H := hide (show entOK t k d = d.toList.isEmpty by simp [entOK, h1, k0, emptyB])
    subst k0
    go_enter Try.func61, Try.ntmps61
    go_wp2_with (go_at_call 20; refine (l01In_any _ _ _ _).mono ?_; rintro e w' ⟨rfl, rfl⟩)
    go_ret
    exact ⟨ret_bool (unhide H).symm, unhide H5 _⟩
  by_cases k1 : k = 1
  · have H := hide (show entOK t k d = inB d.size 1 100 by simp [entOK, h1, k1])
    subst k1
    go_enter Try.func61, Try.ntmps61
    by_cases h6 : 1 ≤ (d.size : Int)
    · go_wp2_with (go_at_call 20; refine (l01In_any _ _ _ _).mono ?_; rintro e w' ⟨rfl, rfl⟩)
      go_ret
      exact ⟨ret_bool (by rw [unhide H]; simp [inB, h6]), unhide H5 _⟩
    · have HF := hide (show inB d.size 1 100 = false by simp [inB]; omega)
      go_wp2_with (go_at_call 20; refine (l01In_any _ _ _ _).mono ?_; rintro e w' ⟨rfl, rfl⟩)
      go_ret
      exact ⟨ret_bool (by rw [unhide H, unhide HF]), unhide H5 _⟩
  by_cases k2 : k = 2
  · have H := hide (show entOK t k d = decide (mFault (bytesI d) = 0) by simp [entOK, h1, k2])
    subst k2
    go_enter Try.func61, Try.ntmps61
    go_wp2_with (go_at_call 20; refine (l01In_any _ _ _ _).mono ?_; rintro e w' ⟨rfl, rfl⟩)
    refine (l02Members_any d _ hs).mono ?_
    rintro e w1 ⟨v1, rfl, hO1, hb1⟩
    have B1 := hide ((unhide H5 (.cells #[.int .i64 t, .int .i64 2, .string d] 63)).trans (hb1.mono (by simp)))
    have HM := hide (memOut_fault d).1
    clear hO1 hb1
    rw [unhide HM]
    go_wp2_with fail
    go_ret
    exact ⟨ret_bool (unhide H).symm, unhide B1⟩
  · have H := hide (show entOK t k d = false by simp [entOK, h1, k0, k1, k2])
    go_enter Try.func61, Try.ntmps61
    go_wp2_with (go_at_call 20; refine (l01In_any _ _ _ _).mono ?_; rintro e w' ⟨rfl, rfl⟩)
    go_ret
    exact ⟨ret_bool (unhide H).symm, unhide H5 _⟩
end Go.Proofs.Ytljolldacpkeeaa
