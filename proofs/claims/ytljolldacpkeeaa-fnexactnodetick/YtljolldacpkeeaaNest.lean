/- Lists of structs that have lists of numbers and of entries within, all of one's own and apart: a store into a field, a list within changed. -/
import Derived.Test.YtljolldacpkeeaaHaa
namespace Go.Proofs.Ytljolldacpkeeaa
open Go.ChangeShapes Go.WideShapes Go.ChangeAt Go.RowKit Go.Deep
set_option linter.unusedVariables false

/-- A list within. -/
inductive Sub where
  | I (l : List Int)
  | E (l : List En)
def OwnSub (B : Nat) (w : World) (v : Value) : Sub → Prop
  | .I l => OwnI B w v l
  | .E l => OwnE B w v l
theorem OwnSub.kept {T : Nat → Prop} {B : Nat} {w w' : World} {v : Value} {s : Sub} (h : OwnSub B w v s) (ht : Touch T w w') (hn : ∀ k, v.ownBlock = some k → ¬ T k) : OwnSub B w' v s := by
  cases s with
  | I l => exact OwnI.kept h ht hn
  | E l => exact OwnE.kept h ht hn
theorem OwnSub.lt {B : Nat} {w : World} {v : Value} {s : Sub} (h : OwnSub B w v s) : ∀ k, v.ownBlock = some k → B ≤ k ∧ k < w.heap.size := by
  cases s with
  | I l => exact World.ownsRow.lt h
  | E l => exact World.ownsRow.lt h
theorem OwnSub.down {B B' : Nat} {w : World} {v : Value} {s : Sub} (h : OwnSub B w v s) (hB : B' ≤ B) : OwnSub B' w v s := by
  cases s with
  | I l => exact World.ownsRow.mono h hB
  | E l => exact World.ownsRow.mono h hB
/-- How an element lies. -/
structure Sh (X : Type) where
  t : TypeId
  sz : Nat
  cells : X → List Value
  subs : X → List (Value × Sub)
  len : ∀ x, (cells x).length = sz
variable {X : Type}
/-- The value is a list of these elements, the call's own from block B on. -/
structure Ns (S : Sh X) (B : Nat) (w : World) (v : Value) (n : Nat) (l : List X) : Prop where
  row : w.ownsRow B S.t S.sz v n (l.flatMap S.cells)
  ln : l.length = n
  sub : ∀ p ∈ l.flatMap S.subs, OwnSub B w p.1 p.2
  ap : (v :: (l.flatMap S.subs).map Prod.fst).Pairwise Apart
theorem Ns.kept {S : Sh X} {T : Nat → Prop} {B n : Nat} {w w' : World} {v : Value} {l : List X} (h : Ns S B w v n l) (ht : Touch T w w') (hn : ∀ k, T k → k < w.heap.size → k < B) : Ns S B w' v n l :=
  ⟨own_kept h.row ht (fun k hk e => by have := World.ownsRow.lt h.row k hk; have := hn k e this.2; omega), h.ln, fun p hp => (h.sub p hp).kept ht (fun k hk e => by have := (h.sub p hp).lt k hk; have := hn k e this.2; omega), h.ap⟩
theorem Ns.below {S : Sh X} {B n : Nat} {w w' : World} {v : Value} {l : List X} (h : Ns S B w v n l) (hb : Below w.heap.size w w') : Ns S B w' v n l := h.kept (T := fun _ => False) (Touch.ofBelow hb) (fun _ e => e.elim)
theorem Ns.down {S : Sh X} {B B' n : Nat} {w : World} {v : Value} {l : List X} (h : Ns S B w v n l) (hB : B' ≤ B) : Ns S B' w v n l :=
  ⟨World.ownsRow.mono h.row hB, h.ln, fun p hp => (h.sub p hp).down hB, h.ap⟩
theorem Ns.nil (S : Sh X) (B : Nat) (w : World) : Ns S B w (.slice none 0 0) 0 [] :=
  ⟨World.ownsRow_nil w B S.t S.sz, rfl, fun p hp => by simp at hp, by simp⟩
/-- The blocks of a list and of the lists within it. -/
def NsT (S : Sh X) (v : Value) (l : List X) (k : Nat) : Prop := v.ownBlock = some k ∨ ∃ p ∈ l.flatMap S.subs, p.1.ownBlock = some k
theorem flat_len (S : Sh X) : ∀ l : List X, (l.flatMap S.cells).length = l.length * S.sz
  | [] => by simp
  | x :: l => by rw [List.flatMap_cons, List.length_append, S.len, flat_len S l, List.length_cons, Nat.succ_mul]; omega
theorem flat_get (S : Sh X) (l1 l2 : List X) (x : X) (i : Nat) (hi : i < S.sz) : ((l1 ++ x :: l2).flatMap S.cells)[l1.length * S.sz + i]? = (S.cells x)[i]? := by
  have hl := S.len x
  rw [List.flatMap_append, List.flatMap_cons, List.getElem?_append_right (by rw [flat_len]; omega), flat_len, Nat.add_sub_cancel_left, List.getElem?_append_left (by omega)]
theorem flat_set (S : Sh X) (l1 l2 : List X) (x x' : X) (i : Nat) (u : Value) (hi : i < S.sz) (hx : S.cells x' = (S.cells x).set i u) : ((l1 ++ x :: l2).flatMap S.cells).set (l1.length * S.sz + i) u = (l1 ++ x' :: l2).flatMap S.cells := by
  have hl := S.len x
  rw [List.flatMap_append, List.flatMap_cons, List.flatMap_append, List.flatMap_cons, hx, List.set_append_right _ _ (by rw [flat_len]; omega), flat_len, Nat.add_sub_cancel_left, List.set_append_left _ _ (by omega)]
/-- What a field's cell holds. -/
theorem Ns.cell {S : Sh X} {B n g cap : Nat} {w : World} {l1 l2 : List X} {x : X} (h : Ns S B w (.slice (some ⟨g, 0, none⟩) n cap) n (l1 ++ x :: l2)) (j i q : Nat) (hj : l1.length = j) (hi : i < S.sz) (hq : q = j * S.sz + i) : w.cell? ⟨g, q, none⟩ = (S.cells x)[i]? ∧ w.frozen? ⟨g, q, none⟩ = false := by
  subst hj hq
  have hl : (l1 ++ x :: l2).length * S.sz = n * S.sz := by rw [h.ln]
  have hlt : l1.length * S.sz + i < n * S.sz := by
    rw [← hl, List.length_append, List.length_cons, Nat.add_mul, Nat.succ_mul]; omega
  exact ⟨(World.ownsRow.cellAt h.row _ hlt).trans (flat_get S l1 l2 x i hi), World.ownsRow.frozenAt h.row _⟩
/-- A store into a field of the element at j. -/
theorem Ns.store {S : Sh X} {B n g cap : Nat} {w : World} {l1 l2 : List X} {x : X} (h : Ns S B w (.slice (some ⟨g, 0, none⟩) n cap) n (l1 ++ x :: l2)) (x' : X) (j i q : Nat) (u : Value) (hj : l1.length = j) (hi : i < S.sz) (hq : q = j * S.sz + i) (hx : S.cells x' = (S.cells x).set i u) (hs : S.subs x' = S.subs x) : Ns S B (w.setCell ⟨g, q, none⟩ u) (.slice (some ⟨g, 0, none⟩) n cap) n (l1 ++ x' :: l2) := by
  subst hj hq
  have hsub : (l1 ++ x' :: l2).flatMap S.subs = (l1 ++ x :: l2).flatMap S.subs := by simp [List.flatMap_append, List.flatMap_cons, hs]
  have hT : Touch (fun k => k = g) w (w.setCell ⟨g, l1.length * S.sz + i, none⟩ u) := (Touch.refl _ w).setCell _ _ (fun _ => rfl)
  have hap := List.pairwise_cons.1 h.ap
  refine ⟨?_, by have := h.ln; simpa using this, ?_, by rw [hsub]; exact h.ap⟩
  · rw [← flat_set S l1 l2 x x' i u hi hx]
    exact (World.ownsRow.stored h.row _ u).1
  · rw [hsub]
    intro p hp
    refine (h.sub p hp).kept hT (fun k hk e => ?_)
    subst e
    exact hap.1 p.1 (List.mem_map_of_mem hp) k rfl hk
/-- A list within the element at j has changed. -/
theorem Ns.subset {S : Sh X} {B n : Nat} {w w' : World} {v : Value} {l1 l2 : List X} {x : X} (h : Ns S B w v n (l1 ++ x :: l2)) (x' : X) (pre post : List (Value × Sub)) (a : Value) (s s' : Sub) (hs : S.subs x = pre ++ (a, s) :: post) (hs' : S.subs x' = pre ++ (a, s') :: post) (hc : S.cells x' = S.cells x) (hT : Touch (fun k => a.ownBlock = some k) w w') (hO : OwnSub B w' a s') : Ns S B w' v n (l1 ++ x' :: l2) := by
  have e1 : (l1 ++ x :: l2).flatMap S.subs = (l1.flatMap S.subs ++ pre) ++ (a, s) :: (post ++ l2.flatMap S.subs) := by simp [List.flatMap_append, List.flatMap_cons, hs]
  have e2 : (l1 ++ x' :: l2).flatMap S.subs = (l1.flatMap S.subs ++ pre) ++ (a, s') :: (post ++ l2.flatMap S.subs) := by simp [List.flatMap_append, List.flatMap_cons, hs']
  have em : ((l1 ++ x' :: l2).flatMap S.subs).map Prod.fst = ((l1 ++ x :: l2).flatMap S.subs).map Prod.fst := by rw [e1, e2]; simp
  have hap := List.pairwise_cons.1 h.ap
  have ha : (a, s) ∈ (l1 ++ x :: l2).flatMap S.subs := by rw [e1]; simp
  have hpw := hap.2
  rw [e1, List.map_append, List.map_cons, List.pairwise_append, List.pairwise_cons] at hpw
  refine ⟨?_, by have := h.ln; simpa using this, ?_, by rw [em]; exact h.ap⟩
  · have : (l1 ++ x' :: l2).flatMap S.cells = (l1 ++ x :: l2).flatMap S.cells := by simp [List.flatMap_append, List.flatMap_cons, hc]
    rw [this]
    exact own_kept h.row hT (fun k h1 h2 => hap.1 a (List.mem_map_of_mem (f := Prod.fst) ha) k h1 h2)
  · rw [e2]
    intro p hp
    rcases List.mem_append.1 hp with hp | hp
    · have hp' : p ∈ (l1 ++ x :: l2).flatMap S.subs := by rw [e1]; exact List.mem_append.2 (.inl hp)
      exact (h.sub p hp').kept hT (fun k h1 h2 => hpw.2.2 p.1 (List.mem_map_of_mem hp) a (by simp) k h1 h2)
    · rcases List.mem_cons.1 hp with rfl | hp
      · exact hO
      · have hp' : p ∈ (l1 ++ x :: l2).flatMap S.subs := by rw [e1]; exact List.mem_append.2 (.inr (List.mem_cons_of_mem _ hp))
        exact (h.sub p hp').kept hT (fun k h1 h2 => hpw.2.1.1 p.1 (List.mem_map_of_mem hp) k h2 h1)
/-- An element more: its lists are new. -/
theorem Ns.push {S : Sh X} {B n g cap : Nat} {w w' : World} {v : Value} {l : List X} {x : X} (h : Ns S B w v n l) (hrow : w'.ownsRow B S.t S.sz (.slice (some ⟨g, 0, none⟩) (n + 1) cap) (n + 1) (l.flatMap S.cells ++ S.cells x)) (hold : ∀ p ∈ l.flatMap S.subs, OwnSub B w' p.1 p.2) (hnew : ∀ p ∈ S.subs x, OwnSub B w' p.1 p.2) (hap : ((S.subs x).map Prod.fst).Pairwise Apart) (hg1 : ∀ p ∈ l.flatMap S.subs, p.1.ownBlock ≠ some g) (hg2 : ∀ p ∈ S.subs x, p.1.ownBlock ≠ some g) (hon : ∀ p ∈ l.flatMap S.subs, ∀ q ∈ S.subs x, Apart p.1 q.1) : Ns S B w' (.slice (some ⟨g, 0, none⟩) (n + 1) cap) (n + 1) (l ++ [x]) := by
  have e1 : (l ++ [x]).flatMap S.subs = l.flatMap S.subs ++ S.subs x := by simp
  refine ⟨by simpa using hrow, by rw [List.length_append, h.ln]; rfl, ?_, ?_⟩
  · rw [e1]
    intro p hp
    rcases List.mem_append.1 hp with hp | hp
    · exact hold p hp
    · exact hnew p hp
  · rw [e1, List.map_append, List.pairwise_cons, List.pairwise_append]
    refine ⟨?_, (List.pairwise_cons.1 h.ap).2, hap, ?_⟩
    · intro b hb k hk
      have : k = g := by simp [Value.ownBlock] at hk; omega
      subst this
      rcases List.mem_append.1 hb with hb | hb
      · obtain ⟨p, hp, rfl⟩ := List.mem_map.1 hb; exact hg1 p hp
      · obtain ⟨p, hp, rfl⟩ := List.mem_map.1 hb; exact hg2 p hp
    · intro a ha b hb
      obtain ⟨p, hp, rfl⟩ := List.mem_map.1 ha
      obtain ⟨q, hq, rfl⟩ := List.mem_map.1 hb
      exact hon p hp q hq
end Go.Proofs.Ytljolldacpkeeaa
