/- A log's own cells while it is read: how each step leaves them. -/
import Derived.Test.YtfihhkhdigbmiaaGreatDoorSgR
import Derived.Test.YtfihhkhdigbmiaaGreatDoorAppR
import Derived.Test.YtfihhkhdigbmiaaGreatDoorQb
namespace Go.Proofs.YtfihhkhdigbmiaaGreatDoor
open Go.ChangeShapes Go.WideShapes Go.ChangeAt Go.RowKit
set_option linter.unusedVariables false

theorem LgS.rne {w0 w1 : World} {lb : Nat} {gv rv nv : Value} {L : Lg} (h : LgS w0 lb gv w1 L rv nv) (hlb : lb < w0.heap.size) : ∀ k, rv.ownBlock = some k → k ≠ lb := fun k hk e => by
  have := (h.2.1.lt k hk).1; omega
theorem LgS.nne {w0 w1 : World} {lb : Nat} {gv rv nv : Value} {L : Lg} (h : LgS w0 lb gv w1 L rv nv) (hlb : lb < w0.heap.size) : ∀ k, nv.ownBlock = some k → k ≠ lb := fun k hk e => by
  have := (h.2.2.1.lt k hk).1; omega
/-- A store into one of the numbers. -/
theorem LgS.setTorn {w0 w1 : World} {lb : Nat} {gv rv nv : Value} {L : Lg} (h : LgS w0 lb gv w1 L rv nv) (hlb : lb < w0.heap.size) (t : Int) : LgS w0 lb gv (w1.setCell ⟨lb, 3, none⟩ (.int .i64 t)) ⟨L.first, L.recs, L.names, t⟩ rv nv := by
  have ht := (Touch.refl (fun k => k = lb) w1).setCell ⟨lb, 3, none⟩ (.int .i64 t) (fun _ => rfl)
  exact ⟨h.1.set 3 (.int .i64 t) (by simp), h.2.1.kept ht (h.rne hlb), h.2.2.1.kept ht (h.nne hlb), h.2.2.2.1, h.2.2.2.2.trans ht (fun _ _ e => e)⟩
theorem LgS.setFirst {w0 w1 : World} {lb : Nat} {gv rv nv : Value} {L : Lg} (h : LgS w0 lb gv w1 L rv nv) (hlb : lb < w0.heap.size) (t : Int) : LgS w0 lb gv (w1.setCell ⟨lb, 0, none⟩ (.int .i64 t)) ⟨t, L.recs, L.names, L.torn⟩ rv nv := by
  have ht := (Touch.refl (fun k => k = lb) w1).setCell ⟨lb, 0, none⟩ (.int .i64 t) (fun _ => rfl)
  exact ⟨h.1.set 0 (.int .i64 t) (by simp), h.2.1.kept ht (h.rne hlb), h.2.2.1.kept ht (h.nne hlb), h.2.2.2.1, h.2.2.2.2.trans ht (fun _ _ e => e)⟩
/-- An append behind the names: the log ahead of the store, and behind it. -/
theorem LgS.names {w0 w1 w2 : World} {lb : Nat} {gv rv nv nv' : Value} {L : Lg} {fn : ByteArray} (h : LgS w0 lb gv w1 L rv nv) (hlb : lb < w0.heap.size)
    (h2 : OwnS w0.heap.size w2 nv' (L.names ++ [fn])) (ht : Touch (fun k => nv.ownBlock = some k) w1 w2) (hat : ∀ k, nv'.ownBlock = some k → nv.ownBlock = some k ∨ w1.heap.size ≤ k) :
    Blk w2 lb [.int .i64 L.first, rv, nv, .int .i64 L.torn, gv] ∧ LgS w0 lb gv (w2.setCell ⟨lb, 2, none⟩ nv') ⟨L.first, L.recs, L.names ++ [fn], L.torn⟩ rv nv' := by
  have hB := h.1.kept ht (fun e => h.nne hlb lb e rfl)
  have hs := (Touch.refl (fun k => k = lb) w2).setCell ⟨lb, 2, none⟩ nv' (fun _ => rfl)
  have hr := h.2.1.kept ht (fun k hk e => h.2.2.2.1 k hk e)
  refine ⟨hB, hB.set 2 nv' (by simp), hr.kept hs (h.rne hlb), h2.kept hs (fun k hk e => by have := (h2.lt k hk).1; omega), fun k hk e => ?_, ?_⟩
  · rcases hat k e with h3 | h3
    · exact h.2.2.2.1 k hk h3
    · have := (h.2.1.lt k hk).2; omega
  · exact (h.2.2.2.2.trans ht (fun k hk e => by have := (h.2.2.1.lt k e).1; omega)).trans hs (fun _ _ e => e)
/-- An append behind the records. -/
theorem LgS.records {w0 w1 w2 : World} {lb : Nat} {gv rv nv rv' : Value} {L : Lg} {ts : List ByteArray} (h : LgS w0 lb gv w1 L rv nv) (hlb : lb < w0.heap.size)
    (h2 : OwnS w0.heap.size w2 rv' (L.recs ++ ts)) (ht : Touch (fun k => rv.ownBlock = some k) w1 w2) (hat : ∀ k, rv'.ownBlock = some k → rv.ownBlock = some k ∨ w1.heap.size ≤ k) :
    Blk w2 lb [.int .i64 L.first, rv, nv, .int .i64 L.torn, gv] ∧ LgS w0 lb gv (w2.setCell ⟨lb, 1, none⟩ rv') ⟨L.first, L.recs ++ ts, L.names, L.torn⟩ rv' nv := by
  have hB := h.1.kept ht (fun e => h.rne hlb lb e rfl)
  have hs := (Touch.refl (fun k => k = lb) w2).setCell ⟨lb, 1, none⟩ rv' (fun _ => rfl)
  have hn := h.2.2.1.kept ht (fun k hk e => h.2.2.2.1 k e hk)
  refine ⟨hB, hB.set 1 rv' (by simp), h2.kept hs (fun k hk e => by have := (h2.lt k hk).1; omega), hn.kept hs (h.nne hlb), fun k hk e => ?_, ?_⟩
  · rcases hat k hk with h3 | h3
    · exact h.2.2.2.1 k h3 e
    · have := (h.2.2.1.lt k e).2; omega
  · exact (h.2.2.2.2.trans ht (fun k hk e => by have := (h.2.1.lt k e).1; omega)).trans hs (fun _ _ e => e)
theorem frP_pos (b : List Int) : ∀ n p, b.length - p = n → p ≤ b.length → (frP b p).2.1 ≤ b.length := by
  intro n
  induction n using Nat.strongRecOn with
  | ind n ih =>
    intro p hp hle
    rw [frP]
    split
    · split
      · rename_i h1 h2
        obtain ⟨h6, _, _, _, h5, _⟩ := frStep_ok (d := (frStep (b.drop p)).2) (by rw [← h2])
        rw [List.length_drop] at h5 h6
        exact ih (b.length - (p + 6 + (frStep (b.drop p)).2.length)) (by omega) _ rfl (by omega)
      · exact hle
    · exact hle
theorem frF_pos (f : Fl) : (frF f).2.1 ≤ f.d.size := by
  have := frP_pos (bytesI f.d) _ 0 rfl (Nat.zero_le _)
  rw [bytesI_len2] at this
  exact this
theorem frP_each (b : List Int) : ∀ n p, b.length - p = n → ∀ d ∈ (frP b p).1, d.length ≤ 200 := by
  intro n
  induction n using Nat.strongRecOn with
  | ind n ih =>
    intro p hp d hd
    rw [frP] at hd
    split at hd
    · split at hd
      · rename_i h1 h2
        rcases List.mem_cons.1 hd with rfl | hd
        · exact (frStep_ok (d := (frStep (b.drop p)).2) (by rw [← h2])).2.2.2.1
        · exact ih (b.length - (p + 6 + (frStep (b.drop p)).2.length)) (by omega) _ rfl d hd
      · cases hd
    · cases hd
theorem frF_each (f : Fl) (i : Nat) : ((frF f).1.getD i []).length ≤ 200 := by
  by_cases hi : i < (frF f).1.length
  · refine frP_each (bytesI f.d) _ 0 rfl _ ?_
    rw [List.getD_eq_getElem?_getD, List.getElem?_eq_getElem hi]
    exact List.getElem_mem _
  · rw [List.getD_eq_getElem?_getD, List.getElem?_eq_none (by omega)]; simp
theorem strOfNums_size (l : List Int) : (strOfNums l).size = l.length := by
  show (strOfNums l).data.size = _
  simp [strOfNums]
/-- What the end of a round is told: the log so far, the segment's box. -/
structure Tl (w : World) (lb sb : Nat) (gv : Value) (L : Lg) (rv nv : Value) (fn fd : ByteArray) (wh : Nat) (w' : World) : Prop where
  S : LgS w lb gv w' L rv nv
  x0 : w'.cell? ⟨sb, 0, none⟩ = some (.string fn)
  x1 : w'.cell? ⟨sb, 1, none⟩ = some (.int .i64 (fd.size : Int))
  x3 : w'.cell? ⟨sb, 3, none⟩ = some (.int .i64 (wh : Int))
  lt : sb < w'.heap.size
  ne : sb ≠ lb
  llt : lb < w.heap.size
  nb : ∀ j, nv.ownBlock = some j → j ≠ sb
theorem Tl.named {w w' w5 : World} {lb sb gg capg n : Nat} {gv : Value} {L : Lg} {rv nv : Value} {fn fd : ByteArray} {wh : Nat} {o : Obj} (h : Tl w lb sb gv L rv nv fn fd wh w')
    (h1 : w5.ownsRow w.heap.size 9 1 (.slice (some ⟨gg, 0, none⟩) n capg) n (L.names.map Value.string ++ [Value.string fn])) (hg : (w'.alloc o).drew.grownBy w5 nv.ownBlock) (hat : nv.ownBlock = some gg ∨ gg = w'.heap.size + 1) :
    w5.cell? ⟨lb, 2, none⟩ = some nv ∧ w5.frozen? ⟨lb, 2, none⟩ = false ∧ Tl w lb sb gv ⟨L.first, L.recs, L.names ++ [fn], L.torn⟩ rv (.slice (some ⟨gg, 0, none⟩) n capg) fn fd wh (w5.setCell ⟨lb, 2, none⟩ (.slice (some ⟨gg, 0, none⟩) n capg)) := by
  have hT : Touch (fun k => nv.ownBlock = some k) w' w5 := ((((Touch.refl _ w').alloc o).drew).grown hg (fun k hk _ => hk))
  have hn : n = (L.names ++ [fn]).length := by have := h1.1; simp at this; simp; omega
  have hO : OwnS w.heap.size w5 (.slice (some ⟨gg, 0, none⟩) n capg) (L.names ++ [fn]) := by
    unfold OwnS
    rw [List.map_append, ← hn]
    exact h1
  have hat' : ∀ k, (Value.slice (some ⟨gg, 0, none⟩) n capg).ownBlock = some k → nv.ownBlock = some k ∨ w'.heap.size ≤ k := fun k hk => by
    have e : gg = k := by simpa [Value.ownBlock] using hk
    subst e
    rcases hat with h0 | h0
    · exact .inl h0
    · right; omega
  obtain ⟨hB, hS⟩ := h.S.names h.llt hO hT hat'
  have hsb : ¬ nv.ownBlock = some sb := fun e => h.nb sb e rfl
  have cc : ∀ j, (w5.setCell ⟨lb, 2, none⟩ (.slice (some ⟨gg, 0, none⟩) n capg)).cell? ⟨sb, j, none⟩ = w'.cell? ⟨sb, j, none⟩ := fun j =>
    (World.cell?_setCell_other _ _ _ _ (fun e => h.ne (by simpa using (congrArg Addr.block e).symm))).trans (hT.cell (p := ⟨sb, j, none⟩) h.lt hsb)
  refine ⟨hB.cell 2 rfl, hB.fro 2, hS, (cc 0).trans h.x0, (cc 1).trans h.x1, (cc 3).trans h.x3, ?_, h.ne, h.llt, fun j hj e => ?_⟩
  · have := Nat.lt_of_lt_of_le h.lt hT.size
    simpa using this
  · rcases hat' j hj with h0 | h0
    · exact h.nb j h0 e
    · have := h.lt; omega
theorem rec_done {w w6 w7 : World} {lb sb n : Nat} {gv rv nv : Value} {L : Lg} {ts : List ByteArray} {a7 : Option Addr} {c7 : Nat} {seg : List Value} (hS : LgS w lb gv w6 L rv nv) (hlb : lb < w.heap.size) (hX : Blk w6 sb seg)
    (h1 : w7.ownsRow w.heap.size 9 1 (.slice a7 n c7) n (L.recs.map Value.string ++ ts.map Value.string)) (hg : w6.grownBy w7 rv.ownBlock) (hat : (Value.slice a7 n c7).ownBlock = rv.ownBlock ∨ (Value.slice a7 n c7).ownBlock = some w6.heap.size) (hne : sb ≠ lb) (hsb : ∀ j, rv.ownBlock = some j → j < sb) :
    w7.cell? ⟨lb, 1, none⟩ = some rv ∧ w7.frozen? ⟨lb, 1, none⟩ = false ∧ LgS w lb gv (w7.setCell ⟨lb, 1, none⟩ (.slice a7 n c7)) ⟨L.first, L.recs ++ ts, L.names, L.torn⟩ (.slice a7 n c7) nv ∧ Blk (w7.setCell ⟨lb, 1, none⟩ (.slice a7 n c7)) sb seg := by
  have hT : Touch (fun k => rv.ownBlock = some k) w6 w7 := (Touch.refl _ w6).grown hg (fun k hk _ => hk)
  have hn : n = (L.recs ++ ts).length := by have := h1.1; simp at this; simp; omega
  have hO : OwnS w.heap.size w7 (.slice a7 n c7) (L.recs ++ ts) := by
    unfold OwnS
    rw [List.map_append, ← hn]
    exact h1
  obtain ⟨hB, hS'⟩ := hS.records hlb hO hT (fun k hk => by
    rcases hat with h0 | h0
    · left; rw [← h0]; exact hk
    · right; rw [h0] at hk; cases hk; exact Nat.le_refl _)
  exact ⟨hB.cell 1 rfl, hB.fro 1, hS', (hX.kept hT (fun e => by have := hsb sb e; omega)).other 1 _ (fun e => hne e.symm)⟩
end Go.Proofs.YtfihhkhdigbmiaaGreatDoor
