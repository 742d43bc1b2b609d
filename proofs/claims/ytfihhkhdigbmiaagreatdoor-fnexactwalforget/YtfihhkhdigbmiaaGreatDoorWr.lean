/- A writer of bytes in a block of its own: what its cell and its row hold, and what a call on it leaves alone. -/
import Derived.Test.YtfihhkhdigbmiaaGreatDoorBytes
import Derived.Lib.AppendStr
namespace Go.Proofs.YtfihhkhdigbmiaaGreatDoor
open Go.ChangeShapes Go.WideShapes Go.ChangeAt Go.RowKit
set_option linter.unusedVariables false

/-- Of the blocks that were there none but those in T is other than it was. -/
structure Touch (T : Nat → Prop) (w w' : World) : Prop where
  os : w'.os = w.os
  tape : w'.tape = w.tape
  output : w'.output = w.output
  size : w.heap.size ≤ w'.heap.size
  block : ∀ k, k < w.heap.size → ¬ T k → w'.heap[k]? = w.heap[k]?
theorem Touch.refl (T : Nat → Prop) (w : World) : Touch T w w := ⟨rfl, rfl, rfl, Nat.le_refl _, fun _ _ _ => rfl⟩
theorem Touch.trans {T T' : Nat → Prop} {a b c : World} (h : Touch T a b) (k : Touch T' b c) (hs : ∀ j, j < a.heap.size → T' j → T j) : Touch T a c :=
  ⟨k.os.trans h.os, k.tape.trans h.tape, k.output.trans h.output, Nat.le_trans h.size k.size, fun j hj hn => (k.block j (Nat.lt_of_lt_of_le hj h.size) (fun ht => hn (hs j hj ht))).trans (h.block j hj hn)⟩
theorem Touch.drew {T : Nat → Prop} {a w : World} (h : Touch T a w) : Touch T a w.drew := ⟨h.os, h.tape, h.output, h.size, h.block⟩
theorem Touch.drewN {T : Nat → Prop} {a w : World} (h : Touch T a w) (n : Nat) : Touch T a (w.drewN n) := h.trans (T' := T) ⟨rfl, rfl, rfl, Nat.le_refl _, fun _ _ _ => rfl⟩ (fun _ _ h => h)
theorem Touch.alloc {T : Nat → Prop} {a w : World} (h : Touch T a w) (o : Obj) : Touch T a (w.alloc o) :=
  h.trans (T' := T) ⟨rfl, rfl, rfl, by simp, fun k hk _ => Below.heap_alloc _ _ _ hk⟩ (fun _ _ h => h)
theorem Touch.setCell {T : Nat → Prop} {a w : World} (h : Touch T a w) (p : Addr) (u : Value) (hp : p.block < a.heap.size → T p.block) : Touch T a (w.setCell p u) :=
  h.trans (T' := fun k => k = p.block) ⟨rfl, rfl, rfl, by simp [World.setCell], fun k _ hn => Below.heap_setCell _ _ _ _ hn⟩ (fun j hj e => by subst e; exact hp hj)
theorem Touch.grown {T : Nat → Prop} {a w w' : World} {row : Option Nat} (h : Touch T a w) (hg : w.grownBy w' row) (hr : ∀ k, row = some k → k < a.heap.size → T k) : Touch T a w' :=
  h.trans (T' := fun k => row = some k) ⟨hg.os, hg.tape, hg.output, hg.size, fun k hk hn => hg.block k hk (fun e => hn e.symm)⟩ (fun j hj e => hr j e hj)
theorem Touch.below {T : Nat → Prop} {B : Nat} {w w' : World} (h : Touch T w w') (hB : B ≤ w.heap.size) (hT : ∀ k, k < B → ¬ T k) : Below B w w' :=
  ⟨h.os, h.tape, h.output, h.size, fun k hk => h.block k (Nat.lt_of_lt_of_le hk hB) (hT k hk)⟩
theorem Touch.cell {T : Nat → Prop} {w w' : World} (h : Touch T w w') {p : Addr} (hp : p.block < w.heap.size) (hn : ¬ T p.block) : w'.cell? p = w.cell? p := World.cell?_of_block (w := w) (h.block p.block hp hn)
theorem Touch.frozen {T : Nat → Prop} {w w' : World} (h : Touch T w w') {p : Addr} (hp : p.block < w.heap.size) (hn : ¬ T p.block) : w'.frozen? p = w.frozen? p := World.frozen?_of_block (w := w) (h.block p.block hp hn)
theorem Touch.ofBelow {T : Nat → Prop} {w w' : World} (h : Below w.heap.size w w') : Touch T w w' := ⟨h.os, h.tape, h.output, h.size, fun k hk _ => h.block k hk⟩

/-- The writer in block b holds the value v, which owns the bytes xs. -/
def Wr (w : World) (b : Nat) (v : Value) (xs : List Int) : Prop :=
  w.cell? ⟨b, 0, none⟩ = some v ∧ w.frozen? ⟨b, 0, none⟩ = false ∧ b < w.heap.size ∧ w.ownsRow (b + 1) 5 1 v xs.length (xs.map (Value.int .u8)) ∧ ∀ i, 0 ≤ xs.getD i 0 ∧ xs.getD i 0 ≤ 255
/-- What a call on the writer may write. -/
def WT (b : Nat) (v : Value) (k : Nat) : Prop := k = b ∨ v.ownBlock = some k
/-- The new value lies where the old one lay, or in a new block. -/
def Lies (v v' : Value) (n : Nat) : Prop := ∀ k, v'.ownBlock = some k → v.ownBlock = some k ∨ n ≤ k
theorem Lies.refl (v : Value) (n : Nat) : Lies v v n := fun _ h => .inl h
theorem Lies.trans {v v' v'' : Value} {n n' : Nat} (h : Lies v v' n) (k : Lies v' v'' n') (hn : n ≤ n') : Lies v v'' n := fun j hj => by
  rcases k j hj with h1 | h1
  · exact h j h1
  · exact .inr (Nat.le_trans hn h1)
theorem Touch.wr {b : Nat} {v v' : Value} {w w' w'' : World} (h : Touch (WT b v) w w') (hl : Lies v v' w.heap.size) (k : Touch (WT b v') w' w'') : Touch (WT b v) w w'' :=
  h.trans k (fun j hj ht => by
    rcases ht with h1 | h1
    · exact .inl h1
    · rcases hl j h1 with h2 | h2
      · exact .inr h2
      · omega)
theorem Wr.lt {w : World} {b : Nat} {v : Value} {xs : List Int} (h : Wr w b v xs) : b < w.heap.size := h.2.2.1
theorem Wr.row {w : World} {b : Nat} {v : Value} {xs : List Int} (h : Wr w b v xs) : ∀ k, v.ownBlock = some k → b < k ∧ k < w.heap.size := fun k hk => by
  have := h.2.2.2.1.lt k hk; omega
theorem Wr.below {w w' : World} {b B : Nat} {v : Value} {xs : List Int} (h : Wr w b v xs) (ht : Touch (WT b v) w w') (hB : B ≤ b) : Below B w w' :=
  ht.below (by have := h.lt; omega) (fun k hk hT => by
    rcases hT with h1 | h1
    · omega
    · have := h.row k h1; omega)
/-- A writer is kept by what touches neither its block nor its row. -/
theorem Wr.kept {w w' : World} {b : Nat} {v : Value} {xs : List Int} {T : Nat → Prop} (h : Wr w b v xs) (ht : Touch T w w') (h1 : ¬ T b) (h2 : ∀ k, v.ownBlock = some k → ¬ T k) : Wr w' b v xs := by
  obtain ⟨c, f, l, o, r⟩ := h
  refine ⟨(ht.cell l h1).trans c, (ht.frozen l h1).trans f, Nat.lt_of_lt_of_le l ht.size, ?_, r⟩
  obtain ⟨hl, hc⟩ := o
  refine ⟨hl, ?_⟩
  rcases hc with hn | ⟨g, cap, cur, rfl, hb, hgg, rest⟩
  · exact .inl hn
  · exact .inr ⟨g, cap, cur, rfl, hb, (ht.block g (Array.getElem?_eq_some_iff.1 hgg).1 (h2 g rfl)).trans hgg, rest⟩
theorem Wr.alloc {w : World} {b : Nat} {v : Value} {xs : List Int} (h : Wr w b v xs) (o : Obj) : Wr (w.alloc o) b v xs :=
  h.kept (T := fun _ => False) ((Touch.refl _ _).alloc o) (fun h => h) (fun _ _ h => h)
theorem Wr.drew {w : World} {b : Nat} {v : Value} {xs : List Int} (h : Wr w b v xs) : Wr w.drew b v xs :=
  h.kept (T := fun _ => False) ((Touch.refl _ _).drew) (fun h => h) (fun _ _ h => h)
theorem Wr.drewN {w : World} {b : Nat} {v : Value} {xs : List Int} (h : Wr w b v xs) (n : Nat) : Wr (w.drewN n) b v xs :=
  h.kept (T := fun _ => False) ((Touch.refl _ _).drewN n) (fun h => h) (fun _ _ h => h)
theorem range_append {xs ys : List Int} (h : ∀ i, 0 ≤ xs.getD i 0 ∧ xs.getD i 0 ≤ 255) (k : ∀ i, 0 ≤ ys.getD i 0 ∧ ys.getD i 0 ≤ 255) : ∀ i, 0 ≤ (xs ++ ys).getD i 0 ∧ (xs ++ ys).getD i 0 ≤ 255 := by
  intro i
  by_cases hi : i < xs.length
  · rw [List.getD_eq_getElem?_getD, List.getElem?_append_left hi, ← List.getD_eq_getElem?_getD]; exact h i
  · rw [List.getD_eq_getElem?_getD, List.getElem?_append_right (by omega), ← List.getD_eq_getElem?_getD]; exact k _

/-- One append on the writer, its store with it: what the law of append leaves is a writer again. -/
theorem Wr.appended {w w1 : World} {b n : Nat} {v v' : Value} {xs ys : List Int} (h : Wr w b v xs) (h1 : w1.ownsRow (b + 1) 5 1 v' n ((xs ++ ys).map (Value.int .u8))) (hg : w.grownBy w1 v.ownBlock)
    (hl : v'.ownBlock = v.ownBlock ∨ v'.ownBlock = some w.heap.size) (hr : ∀ i, 0 ≤ ys.getD i 0 ∧ ys.getD i 0 ≤ 255) :
    Wr (w1.setCell ⟨b, 0, none⟩ v') b v' (xs ++ ys) ∧ Touch (WT b v) w (w1.setCell ⟨b, 0, none⟩ v') ∧ Lies v v' w.heap.size := by
  obtain ⟨c, f, l, o, r⟩ := h
  have hne : some b ≠ v.ownBlock := fun e => by have := (o.lt b e.symm).1; omega
  have hcell : w1.cell? ⟨b, 0, none⟩ = some v := (hg.cell_far ⟨b, 0, none⟩ l hne).trans c
  have hn : n = (xs ++ ys).length := by have := h1.1; simpa using this.symm
  subst hn
  refine ⟨⟨World.cell?_setCell_same _ _ _ hcell, ?_, ?_, ownsRow_setCell_below h1 (by show b < b + 1; omega) _, range_append r hr⟩, ?_, ?_⟩
  · rw [World.frozen?_setCell]; exact (hg.frozen_far ⟨b, 0, none⟩ l hne).trans f
  · have := hg.size; simp; omega
  · exact ((Touch.refl _ _).grown hg (fun k hk _ => .inr hk)).setCell _ _ (fun _ => .inl rfl)
  · intro k hk
    rcases hl with e | e
    · exact .inl (e ▸ hk)
    · right; rw [e] at hk; cases hk; exact Nat.le_refl _

/-- One byte put behind: the block that holds it laid, and a draw, between. -/
theorem Wr.pushed {w w1 : World} {b n gg capg : Nat} {u : Value} {zs : List Int} {x : Int} {o : Obj} (h : Wr w b u zs)
    (h1 : w1.ownsRow (b + 1) 5 1 (.slice (some ⟨gg, 0, none⟩) n capg) n (zs.map (Value.int .u8) ++ [Value.int .u8 x])) (hg : (w.alloc o).drew.grownBy w1 u.ownBlock) (hat : u.ownBlock = some gg ∨ gg = w.heap.size + 1)
    (hx0 : 0 ≤ x) (hx1 : x ≤ 255) :
    Wr (w1.setCell ⟨b, 0, none⟩ (.slice (some ⟨gg, 0, none⟩) n capg)) b (.slice (some ⟨gg, 0, none⟩) n capg) (zs ++ [x]) ∧ Touch (WT b u) w (w1.setCell ⟨b, 0, none⟩ (.slice (some ⟨gg, 0, none⟩) n capg)) ∧ Lies u (.slice (some ⟨gg, 0, none⟩) n capg) w.heap.size := by
  have h2 := ((h.alloc o).drew).appended (ys := [x]) (by simpa using h1) hg (by
    rcases hat with e | e
    · left; rw [e]; rfl
    · right; rw [e]; simp [Value.ownBlock]) (fun i => by
    cases i with
    | zero => simp; omega
    | succ i => simp)
  refine ⟨h2.1, (((Touch.refl (WT b u) w).alloc o).drew).trans h2.2.1 (fun _ _ h => h), fun k hk => ?_⟩
  rcases h2.2.2 k hk with e | e
  · exact .inl e
  · right; simp at e; omega

/-- Where a string's bytes go. -/
theorem str_lies {P : Program} {w w' : World} {base : Nat} {t u ty e : TypeId} {i : TypeInfo} (ht : P.underlying t = some (.slice e)) (hu : P.underlying u = some .string) (hi : P.info? e = some i) (hz : i.zero = some (.int .u8 0))
    (hsize : i.size = 1) (hby : i.bytes = 1) {v v' : Value} {n : Nat} {xs : List Value} (hown : w.ownsRow base e 1 v n xs) {s : ByteArray} (hb : n + s.size ≤ 140737488355328)
    (hr : (Builtin.append_ #[t, u] ty #[v, .string s]).run P w = .ok v' w') (hn : v' = .slice none 0 0 ↔ v = .slice none 0 0 ∧ s.size = 0) : v'.ownBlock = v.ownBlock ∨ v'.ownBlock = some w.heap.size := by
  have hxl : xs.length = n := by simpa using hown.1
  rcases hown.2 with ⟨rfl, rfl⟩ | ⟨g, cap, cur, rfl, hbg, hg, hnc, hcm, hcs, htake⟩
  · by_cases h0 : s.size = 0
    · rw [hn.2 ⟨rfl, h0⟩]; exact .inl rfl
    · have hq := run_append_nil_string (P := P) w t u ty e i (.int .u8 0) ht hu hi hz s (by omega) (by omega) (by rw [hby]; omega)
      rw [hq] at hr
      cases hr
      exact .inr rfl
  · by_cases hroom : n + s.size ≤ cap
    · have hq := Lib.run_append_room_string (P := P) w t u ty e i ht hu hi hsize g n cap cur hg s hroom (by omega)
      rw [hq] at hr
      cases hr
      exact .inl rfl
    · have holds : ∀ j u, xs[j]? = some u → w.cell? ((⟨g, 0, none⟩ : Addr).add j) = some u := hown.cells (g := g) rfl
      have hq := Lib.run_append_grow_string (P := P) w t u ty e i (.int .u8 0) ht hu hi hz ⟨g, 0, none⟩ n cap xs (by rw [hsize]; simpa using hxl) holds s (by omega) (by omega) (by rw [hby]; exact growslice_fits (by omega) (by omega))
      rw [hq] at hr
      cases hr
      exact .inr rfl
/-- The value is a slice of the call's own, from block B on, that holds the bytes l. -/
def OwnB (B : Nat) (w : World) (v : Value) (l : List Int) : Prop := w.ownsRow B 5 1 v l.length (l.map (Value.int .u8)) ∧ ∀ i, 0 ≤ l.getD i 0 ∧ l.getD i 0 ≤ 255
theorem OwnB.nil (B : Nat) (w : World) : OwnB B w (.slice none 0 0) [] := ⟨World.ownsRow_nil w B 5 1, fun i => by simp⟩
theorem OwnB.mono {B B' : Nat} {w : World} {v : Value} {l : List Int} (h : OwnB B w v l) (hB : B' ≤ B) : OwnB B' w v l := by
  obtain ⟨⟨hl, hc⟩, r⟩ := h
  refine ⟨⟨hl, ?_⟩, r⟩
  rcases hc with hn | ⟨g, cap, cur, hv, hb, rest⟩
  · exact .inl hn
  · exact .inr ⟨g, cap, cur, hv, by omega, rest⟩
theorem OwnB.kept {T : Nat → Prop} {B : Nat} {w w' : World} {v : Value} {l : List Int} (h : OwnB B w v l) (ht : Touch T w w') (hn : ∀ k, v.ownBlock = some k → ¬ T k) : OwnB B w' v l := by
  obtain ⟨⟨hl, hc⟩, r⟩ := h
  refine ⟨⟨hl, ?_⟩, r⟩
  rcases hc with h0 | ⟨g, cap, cur, rfl, hb, hgg, rest⟩
  · exact .inl h0
  · exact .inr ⟨g, cap, cur, rfl, hb, (ht.block g (Array.getElem?_eq_some_iff.1 hgg).1 (hn g rfl)).trans hgg, rest⟩
theorem OwnB.below {B : Nat} {w w' : World} {v : Value} {l : List Int} (h : OwnB B w v l) (hb : Below w.heap.size w w') : OwnB B w' v l := h.kept (T := fun _ => False) (Touch.ofBelow hb) (fun _ _ h => h)
theorem OwnB.drewN {B : Nat} {w : World} {v : Value} {l : List Int} (h : OwnB B w v l) (n : Nat) : OwnB B (w.drewN n) v l := h.kept (T := fun _ => False) ((Touch.refl _ _).drewN n) (fun _ _ h => h)
theorem OwnB.lt {B : Nat} {w : World} {v : Value} {l : List Int} (h : OwnB B w v l) : ∀ k, v.ownBlock = some k → B ≤ k ∧ k < w.heap.size := h.1.lt
theorem OwnB.len {B : Nat} {w : World} {v : Value} {l : List Int} (h : OwnB B w v l) : l.length ≤ maxLen := by
  rcases h.1.2 with ⟨_, h0⟩ | ⟨g, cap, cur, _, _, _, hn, hc, _⟩
  · rw [h0]; unfold maxLen; omega
  · omega
/-- The value's shape: nothing at all, or a block's head. -/
theorem OwnB.shape {B : Nat} {w : World} {v : Value} {l : List Int} (h : OwnB B w v l) : (v = .slice none 0 0 ∧ l = []) ∨ ∃ g cap, v = .slice (some ⟨g, 0, none⟩) l.length cap ∧ B ≤ g ∧ g < w.heap.size := by
  rcases h.1.2 with ⟨hv, h0⟩ | ⟨g, cap, cur, hv, hb, hg, _⟩
  · exact .inl ⟨hv, List.eq_nil_of_length_eq_zero h0⟩
  · exact .inr ⟨g, cap, hv, hb, (Array.getElem?_eq_some_iff.1 hg).1⟩
theorem OwnB.cell {B : Nat} {w : World} {g cap n : Nat} {l : List Int} (h : OwnB B w (.slice (some ⟨g, 0, none⟩) n cap) l) (i : Nat) (hi : i < l.length) : w.cell? ⟨g, i, none⟩ = some (.int .u8 (l.getD i 0)) := by
  have hn : n = l.length := by
    rcases h.1.2 with ⟨hv, _⟩ | ⟨g', cap', cur, hv, _⟩
    · cases hv
    · cases hv; rfl
  subst hn
  rw [h.1.cellAt i (by omega)]
  simp [List.getD, hi]
theorem OwnB.bytes {B : Nat} {w : World} {v : Value} {l : List Int} (h : OwnB B w v l) : Bytes w v l := by
  rcases h.shape with ⟨rfl, rfl⟩ | ⟨g, cap, rfl, hb, hlt⟩
  · exact ⟨none, 0, rfl, by unfold maxLen; simp, .inl rfl, fun i => by simp⟩
  · exact ⟨_, _, rfl, h.len, .inr ⟨g, 0, rfl, hlt, fun i hi => by rw [Nat.zero_add]; exact h.cell i hi⟩, h.2⟩
end Go.Proofs.YtfihhkhdigbmiaaGreatDoor
