/- The specification's reading of the log: what it is told of the disk, its own cells. -/
import Derived.Test.YtlicgahjdgipkakSgW
import Derived.Test.YtlicgahjdgipkakSpD
import Derived.Test.YtlicgahjdgipkakSRd
namespace Go.Proofs.Ytlicgahjdgipkak
open Go.ChangeShapes Go.WideShapes Go.ChangeAt Go.RowKit
set_option linter.unusedVariables false

theorem less_trans : ∀ x y z : List UInt8, Op.bytesLess x y = true → Op.bytesLess y z = true → Op.bytesLess x z = true
  | [], _, [], h1, h2 => by
    rename_i y
    cases y <;> simp [Op.bytesLess] at h1 h2
  | [], _, c :: z, h1, h2 => by simp [Op.bytesLess]
  | a :: x, [], z, h1, h2 => by simp [Op.bytesLess] at h1
  | a :: x, b :: y, [], h1, h2 => by simp [Op.bytesLess] at h2
  | a :: x, b :: y, c :: z, h1, h2 => by
    have ih := less_trans x y z
    have k1 : ∀ a b : UInt8, (a < b) = (a.toNat < b.toNat) := fun a b => by rw [UInt8.lt_iff_toNat_lt]
    have k2 : ∀ a b : UInt8, (a == b) = decide (a.toNat = b.toNat) := fun a b => by
      rw [Bool.eq_iff_iff]; simp [UInt8.toNat_inj]
    simp only [Op.bytesLess, k1, k2, Bool.or_eq_true, Bool.and_eq_true, decide_eq_true_eq] at h1 h2 ⊢
    rcases h1 with h1 | ⟨h1, h3⟩
    · rcases h2 with h2 | ⟨h2, h4⟩
      · left; omega
      · left; omega
    · rcases h2 with h2 | ⟨h2, h4⟩
      · left; omega
      · right; exact ⟨by omega, ih h3 h4⟩
theorem less_irr (x : List UInt8) : Op.bytesLess x x = false := by
  have := less_tri x x
  simp at this
  exact this
theorem rising {room : Int} {l : List Fl} (h : diskB room l = true) : ∀ j, j < l.length → ∀ i, i < j → lessB (l.getD i default).n (l.getD j default).n = true := by
  have hall : ∀ i, i < l.length → fileB l i = true := by
    unfold diskB at h
    simp only [Bool.and_eq_true] at h
    exact fun i hi => List.all_eq_true.1 h.1.2 i (by simpa using hi)
  intro j
  induction j with
  | zero => intro _ i hi; omega
  | succ j ih =>
    intro hj i hi
    have h1 := hall (j + 1) hj
    unfold fileB at h1
    simp only [Bool.and_eq_true, Bool.or_eq_true, decide_eq_true_eq, Nat.add_sub_cancel] at h1
    have h2 : lessB (l.getD j default).n (l.getD (j + 1) default).n = true := by
      rcases h1.2 with h0 | h0
      · omega
      · exact h0
    by_cases e : i = j
    · subst e; exact h2
    · exact less_trans _ _ _ (ih (by omega) i (by omega)) h2
theorem names_apart {room : Int} {l : List Fl} (h : diskB room l = true) (i j : Nat) (hij : i < j) (hj : j < l.length) : (l.getD i default).n ≠ (l.getD j default).n := fun e => by
  have h1 := rising h j hj i hij
  rw [e] at h1
  unfold lessB at h1
  rw [less_irr] at h1
  cases h1
theorem seg_at {room : Int} {l : List Fl} (h : diskB room l = true) (k : Nat) (hk : k < (segsP l).length) : ∃ i0, i0 < l.length ∧ l.getD i0 default = (segsP l).getD k default ∧ 0 < plcP ((segsP l).getD k default).n ∧ ∀ j, j < i0 → (l.getD j default).n ≠ ((segsP l).getD k default).n := by
  have hm : (segsP l).getD k default ∈ segsP l := by rw [List.getD_eq_getElem?_getD, List.getElem?_eq_getElem hk]; exact List.getElem_mem _
  obtain ⟨h1, h2⟩ := List.mem_filter.1 hm
  obtain ⟨i0, hi, he⟩ := List.getElem_of_mem h1
  have he2 : l.getD i0 default = (segsP l).getD k default := by rw [List.getD_eq_getElem?_getD, List.getElem?_eq_getElem hi]; exact he
  refine ⟨i0, hi, he2, by simpa using h2, fun j hj => ?_⟩
  rw [← he2]
  exact names_apart h j i0 hj hi
theorem nums_get (l : List Fl) (k : Nat) (hk : k < (segsP l).length) : (numsP l).getD k 0 = plcP ((segsP l).getD k default).n := by
  unfold numsP
  rw [List.getD_eq_getElem?_getD, List.getElem?_map, List.getElem?_eq_getElem hk, List.getD_eq_getElem?_getD, List.getElem?_eq_getElem hk]; rfl
theorem nums_len (l : List Fl) : (numsP l).length = (segsP l).length := by simp [numsP]
theorem frP_none (b : List Int) (p : Nat) (h : (frP b p).1 = []) : (frP b p).2.1 = p := by
  rw [frP] at h ⊢
  by_cases h1 : p < b.length
  · rw [dif_pos h1] at h ⊢
    by_cases h2 : (frStep (b.drop p)).1 = 0
    · rw [if_pos h2] at h; cases h
    · rw [if_neg h2]
  · rw [dif_neg h1]
/-- The specification's log while it is read: its box, its texts, the segments' numbers. -/
structure SpR (B lb : Nat) (w1 : World) (lv : Value) (nums : List Int) (L : Lg) (rv nv : Value) (wr : World) : Prop where
  bel : Below B w1 wr
  box : Blk wr lb [.int .i64 L.first, rv, nv, .int .i64 L.torn]
  rcs : OwnS B wr rv L.recs
  nam : OwnS B wr nv L.names
  dis : ∀ k, rv.ownBlock = some k → nv.ownBlock ≠ some k
  rne : ∀ k, rv.ownBlock = some k → k ≠ lb
  nne : ∀ k, nv.ownBlock = some k → k ≠ lb
  num : OwnN B wr lv nums
  lne : ∀ k, lv.ownBlock = some k → k ≠ lb
  le : B ≤ lb
  lw : B ≤ w1.heap.size
theorem SpR.below {B lb : Nat} {w1 : World} {lv : Value} {nums : List Int} {L : Lg} {rv nv : Value} {wr w' : World} (h : SpR B lb w1 lv nums L rv nv wr) (hb : Below wr.heap.size wr w') : SpR B lb w1 lv nums L rv nv w' :=
  ⟨h.bel.trans (hb.mono (Nat.le_trans h.lw h.bel.size)), h.box.below hb, h.rcs.below hb, h.nam.below hb, h.dis, h.rne, h.nne, h.num.below hb, h.lne, h.le, h.lw⟩
theorem SpR.set {B lb : Nat} {w1 : World} {lv : Value} {nums : List Int} {L L' : Lg} {rv nv : Value} {wr : World} (h : SpR B lb w1 lv nums L rv nv wr) (j : Nat) (u : Value)
    (hb : Blk (wr.setCell ⟨lb, j, none⟩ u) lb [.int .i64 L'.first, rv, nv, .int .i64 L'.torn]) (hr : L'.recs = L.recs) (hn : L'.names = L.names) : SpR B lb w1 lv nums L' rv nv (wr.setCell ⟨lb, j, none⟩ u) := by
  have ht := (Touch.refl (fun k => k = lb) wr).setCell ⟨lb, j, none⟩ u (fun _ => rfl)
  refine ⟨h.bel.setCell (p := ⟨lb, j, none⟩) h.le u, hb, ?_, ?_, h.dis, h.rne, h.nne, own_kept h.num ht h.lne, h.lne, h.le, h.lw⟩
  · rw [hr]; exact h.rcs.kept ht h.rne
  · rw [hn]; exact h.nam.kept ht h.nne
theorem SpR.setFirst {B lb : Nat} {w1 : World} {lv : Value} {nums : List Int} {L : Lg} {rv nv : Value} {wr : World} (h : SpR B lb w1 lv nums L rv nv wr) (t : Int) : SpR B lb w1 lv nums ⟨t, L.recs, L.names, L.torn⟩ rv nv (wr.setCell ⟨lb, 0, none⟩ (.int .i64 t)) :=
  h.set 0 _ (h.box.set 0 (.int .i64 t) (by simp)) rfl rfl
theorem SpR.setTorn {B lb : Nat} {w1 : World} {lv : Value} {nums : List Int} {L : Lg} {rv nv : Value} {wr : World} (h : SpR B lb w1 lv nums L rv nv wr) (t : Int) : SpR B lb w1 lv nums ⟨L.first, L.recs, L.names, t⟩ rv nv (wr.setCell ⟨lb, 3, none⟩ (.int .i64 t)) :=
  h.set 3 _ (h.box.set 3 (.int .i64 t) (by simp)) rfl rfl
theorem SpR.named {B lb gg capg n : Nat} {w1 w5 : World} {lv : Value} {nums : List Int} {L : Lg} {rv nv : Value} {wr : World} {fn : ByteArray} {o : Obj} (h : SpR B lb w1 lv nums L rv nv wr)
    (h1 : w5.ownsRow B 9 1 (.slice (some ⟨gg, 0, none⟩) n capg) n (L.names.map Value.string ++ [Value.string fn])) (hg : (wr.alloc o).grownBy w5 nv.ownBlock) (hat : nv.ownBlock = some gg ∨ gg = wr.heap.size + 1) :
    w5.cell? ⟨lb, 2, none⟩ = some nv ∧ w5.frozen? ⟨lb, 2, none⟩ = false ∧ SpR B lb w1 lv nums ⟨L.first, L.recs, L.names ++ [fn], L.torn⟩ rv (.slice (some ⟨gg, 0, none⟩) n capg) (w5.setCell ⟨lb, 2, none⟩ (.slice (some ⟨gg, 0, none⟩) n capg)) ∧ Touch (fun k => nv.ownBlock = some k ∨ k = lb) wr (w5.setCell ⟨lb, 2, none⟩ (.slice (some ⟨gg, 0, none⟩) n capg)) := by
  have hT : Touch (fun k => nv.ownBlock = some k) wr w5 := (((Touch.refl _ wr).alloc o).grown hg (fun k hk _ => hk))
  have hn : n = (L.names ++ [fn]).length := by have := h1.1; simp at this; simp; omega
  have hO : OwnS B w5 (.slice (some ⟨gg, 0, none⟩) n capg) (L.names ++ [fn]) := by
    unfold OwnS
    rw [List.map_append, ← hn]
    exact h1
  have hat' : ∀ k, (Value.slice (some ⟨gg, 0, none⟩) n capg).ownBlock = some k → nv.ownBlock = some k ∨ wr.heap.size ≤ k := fun k hk => by
    have e : gg = k := by simpa [Value.ownBlock] using hk
    subst e
    rcases hat with h0 | h0
    · exact .inl h0
    · right; omega
  have hB := h.box.kept hT (fun e => h.nne lb e rfl)
  have hs := (Touch.refl (fun k => k = lb) w5).setCell ⟨lb, 2, none⟩ (.slice (some ⟨gg, 0, none⟩) n capg) (fun _ => rfl)
  have hne : ∀ k, (Value.slice (some ⟨gg, 0, none⟩) n capg).ownBlock = some k → k ≠ lb := fun k hk e => by
    rcases hat' k hk with h3 | h3
    · exact h.nne k h3 e
    · have := h.box.1; omega
  refine ⟨hB.cell 2 rfl, hB.fro 2, ⟨?_, hB.set 2 _ (by simp), (h.rcs.kept hT (fun k hk e => h.dis k hk e)).kept hs h.rne, hO.kept hs hne, fun k hk e => ?_, h.rne, hne, own_kept (own_kept h.num hT (fun k hk e => own_apart2 h.num h.nam (by decide) k hk e)) hs h.lne, h.lne, h.le, h.lw⟩, ⟨hs.os.trans hT.os, hs.tape.trans hT.tape, hs.output.trans hT.output, Nat.le_trans hT.size hs.size, fun k hk hn => (hs.block k (Nat.lt_of_lt_of_le hk hT.size) (fun e => hn (.inr e))).trans (hT.block k hk (fun e => hn (.inl e)))⟩⟩
  · have h3 := hT.below (B := B) (Nat.le_trans h.lw h.bel.size) (fun k hk e => by have := (h.nam.lt k e).1; omega)
    exact (h.bel.trans h3).setCell (p := ⟨lb, 2, none⟩) h.le _
  · rcases hat' k e with h3 | h3
    · exact h.dis k hk h3
    · have := (h.rcs.lt k hk).2; omega
theorem SpR.recorded {B lb n : Nat} {w1 w5 : World} {lv : Value} {nums : List Int} {L : Lg} {rv nv : Value} {wr : World} {ts : List ByteArray} {a7 : Option Addr} {c7 : Nat} (h : SpR B lb w1 lv nums L rv nv wr)
    (h1 : w5.ownsRow B 9 1 (.slice a7 n c7) n (L.recs.map Value.string ++ ts.map Value.string)) (hg : wr.grownBy w5 rv.ownBlock) (hat : (Value.slice a7 n c7).ownBlock = rv.ownBlock ∨ (Value.slice a7 n c7).ownBlock = some wr.heap.size) :
    w5.cell? ⟨lb, 1, none⟩ = some rv ∧ w5.frozen? ⟨lb, 1, none⟩ = false ∧ SpR B lb w1 lv nums ⟨L.first, L.recs ++ ts, L.names, L.torn⟩ (.slice a7 n c7) nv (w5.setCell ⟨lb, 1, none⟩ (.slice a7 n c7)) := by
  have hT : Touch (fun k => rv.ownBlock = some k) wr w5 := (Touch.refl _ wr).grown hg (fun k hk _ => hk)
  have hn : n = (L.recs ++ ts).length := by have := h1.1; simp at this; simp; omega
  have hO : OwnS B w5 (.slice a7 n c7) (L.recs ++ ts) := by
    unfold OwnS
    rw [List.map_append, ← hn]
    exact h1
  have hat' : ∀ k, (Value.slice a7 n c7).ownBlock = some k → rv.ownBlock = some k ∨ wr.heap.size ≤ k := fun k hk => by
    rcases hat with h0 | h0
    · left; rw [← h0]; exact hk
    · right; rw [h0] at hk; cases hk; exact Nat.le_refl _
  have hB := h.box.kept hT (fun e => h.rne lb e rfl)
  have hs := (Touch.refl (fun k => k = lb) w5).setCell ⟨lb, 1, none⟩ (.slice a7 n c7) (fun _ => rfl)
  have hne : ∀ k, (Value.slice a7 n c7).ownBlock = some k → k ≠ lb := fun k hk e => by
    rcases hat' k hk with h3 | h3
    · exact h.rne k h3 e
    · have := h.box.1; omega
  refine ⟨hB.cell 1 rfl, hB.fro 1, ?_, hB.set 1 _ (by simp), hO.kept hs hne, (h.nam.kept hT (fun k hk e => h.dis k e hk)).kept hs h.nne, fun k hk e => ?_, hne, h.nne, own_kept (own_kept h.num hT (fun k hk e => own_apart2 h.num h.rcs (by decide) k hk e)) hs h.lne, h.lne, h.le, h.lw⟩
  · have h3 := hT.below (B := B) (Nat.le_trans h.lw h.bel.size) (fun k hk e => by have := (h.rcs.lt k e).1; omega)
    exact (h.bel.trans h3).setCell (p := ⟨lb, 1, none⟩) h.le _
  · rcases hat' k hk with h3 | h3
    · exact h.dis k h3 e
    · have := (h.nam.lt k e).2; omega
end Go.Proofs.Ytlicgahjdgipkak
